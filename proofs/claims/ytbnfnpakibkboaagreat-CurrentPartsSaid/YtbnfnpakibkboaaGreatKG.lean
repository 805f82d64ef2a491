/- Texts C11 C12 C13. -/
import Derived.Test.YtbnfnpakibkboaaGreatKFa
import Derived.Deep.DeepMust
import Derived.Test.YtbnfnpakibkboaaGreatJQ
import Derived.BigRegion
namespace Go.Proofs.YtbnfnpakibkboaaGreat
set_option linter.unusedVariables false
set_option linter.unusedSimpArgs false
open Go.RowKit

theorem info58 : (Tryz.prog.info? 58).map (fun i => (i.zero, i.size, i.bytes)) = some (some (.agg #[.int .i64 0, .int .i64 0, .int .i64 0, .int .i64 0]), 4, 32) := by kernel_rfl
theorem fFv_len (x : Fv) : (fFv x).length = 4 := rfl
theorem fFv_one (x : Fv) : ∀ u ∈ fFv x, u.oneCell' = true := by simp [fFv, Value.oneCell']
set_option maxRecDepth 100000 in
set_option maxHeartbeats 4000000 in
theorem filterI_any (A : Option Addr) (n c : Nat) (l : List Int) (p : Int → Bool) (g1 : Nat) (w : World) (hn : l.length = n) (hm : n ≤ 100000) (hS : Sl w w.heap.size 1 CI A l)
    (hF : ∀ wx, Below w.heap.size w wx → ∀ x ∈ l, Calls Tryz.prog 131 #[.int .i64 x, .pointer (some ⟨g1, 0, none⟩)] wx fun e w' => e = .returned (.bool (p x)) ∧ Below wx.heap.size wx w') :
    Calls Tryz.prog 130 #[.slice A n c, .func (.func 131) #[] #[.pointer (some ⟨g1, 0, none⟩)]] w fun e w' => ∃ (A2 : Option Addr) (c2 : Nat), e = .returned (.slice A2 (l.filter p).length c2) ∧ Own w' w.heap.size 3 1 fI (.slice A2 (l.filter p).length c2) (l.filter p) ∧ Below w.heap.size w w' := by
  obtain ⟨i6, hi6, hz6, hs6, hy6⟩ := info_parts info3
  have HS := Lib.hid hS; have HN := Lib.hid hn; have HF := Lib.hid hF
  clear hS hn hF
  go_enter Tryz.func130, Tryz.ntmps130
  go_wp2
  go_loopw [5, 10] (fun s5 s10 wr => ∃ (i : Nat), i ≤ n ∧ s10 = .int .i64 (i : Int) ∧ Below w.heap.size w wr ∧ Own wr w.heap.size 3 1 fI s5 ((l.take i).filter p)) (fun _ s10 _ => n - (intOf s10).toNat)
  case atStart => exact ⟨0, Nat.zero_le _, rfl, Below.refl _ _, Own.nil _ _ _ _ _⟩
  case round =>
    obtain ⟨i, hi, rfl, hbr, ho⟩ := hrel
    have HBR := Lib.hid hbr; have HO := Lib.hid ho
    obtain ⟨A5, c5, rfl, hl5, hm5, -⟩ := ho.form
    generalize hn5 : ((l.take i).filter p).length = n5 at *
    by_cases hin : i < n
    · have hii : (i : Int) < (n : Int) := by omega
      have hi0 : (0 : Int) ≤ (i : Int) := by omega
      have hil : i < l.length := by have := HN.out; omega
      obtain ⟨b, o, rfl, gb, c0⟩ := int_at (HS.out.below hbr) hil
      obtain ⟨x, hx⟩ : ∃ g, l[i] = g := ⟨_, rfl⟩
      rw [hx] at c0
      have HI := Lib.hid hin
      have HTK := Lib.hid (show (l.take (i + 1)).filter p = (l.take i).filter p ++ (if p x then [x] else []) from by
        rw [List.take_succ_eq_append_getElem hil, List.filter_append, hx, List.filter_cons]; split <;> simp)
      have hxm : x ∈ l := by rw [← hx]; exact List.getElem_mem hil
      have HXM := Lib.hid hxm
      have HLN := Lib.hid (show ((l.take i).filter p).length ≤ 100000 from by have := List.length_filter_le p (l.take i); have := List.length_take_le i l; have := HN.out; omega)
      clear hil hx hxm hbr ho hl5 hm5 hin
      obtain ⟨y, hy⟩ : ∃ y, p x = y := ⟨_, rfl⟩
      have HC := Lib.hid (HF.out wr HBR.out x HXM.out)
      rw [hy] at HC HTK
      clear hy
      go_wp2_with fail
      (with_reducible refine (HC.out).mono ?_)
      rintro e w5 ⟨rfl, hb5⟩
      have HB5 := Lib.hid ((HBR.out).trans (hb5.mono (HBR.out).size))
      have HO5 := Lib.hid (show Own w5 w.heap.size 3 1 fI (.slice A5 n5 c5) ((l.take i).filter p) from by have := (HO.out).below hb5 (Nat.le_refl _); exact this)
      cases y with
      | false =>
        have HT2 := Lib.hid (show (l.take (i + 1)).filter p = (l.take i).filter p from by rw [HTK.out]; simp)
        clear hb5 hn5
        go_wp2
        go_roundw
        case rel => exact ⟨i + 1, by have := HI.out; omega, by simp, HB5.out, by rw [HT2.out]; exact HO5.out⟩
        case measure => have := HI.out; simp [intOf] <;> omega
      | true =>
        have HT2 := Lib.hid (show (l.take (i + 1)).filter p = (l.take i).filter p ++ [x] from by rw [HTK.out]; simp)
        have HZ5 := Lib.hid HB5.out.size
        clear hb5 hn5
        go_wp2_with (at_builtin; go_must (refine wpList_app _ rfl (.tmp 17) (.tmp 19) _ rfl w.heap.size 3 i6 _ 1 8 Tryz.underlying40 hi6 hz6 hs6 hy6 rfl (by omega) fI_len fI_one (.slice A5 n5 c5) _ rfl (HO5.out.alloc _) _ _ [x] 1 rfl (Sl.new _ _ x _ rfl) (by have := HLN.out; unfold maxLen; simp only [List.length_cons, List.length_nil]; omega) (by have := HLN.out; simp only [List.length_cons, List.length_nil]; omega) (by have := HZ5.out; simp; omega) (fun _ => .inr ⟨_, rfl⟩) ?_)
                     intro v2 w7 ow2 gr2 at2 ne2
                     go_must (have HO7 := Lib.hid ow2)
                     go_must (have HB7 := Lib.hid (bGrown (HB5.out.trans (((Below.refl w5.heap.size w5).alloc (Nat.le_refl _) (.cells #[.int .i64 x] 3)).mono HB5.out.size)) gr2 (fun j e => (HO5.out.lt j e).1) (by have := HZ5.out; simp; omega)))
                     clear ow2 gr2 at2 ne2)
        go_roundw
        case rel => exact ⟨i + 1, by have := HI.out; omega, by simp, HB7.out, by rw [HT2.out]; exact HO7.out⟩
        case measure => have := HI.out; simp [intOf] <;> omega
    · have hii : ¬ (i : Int) < (n : Int) := by omega
      have htk : l.take i = l := List.take_of_length_le (by have := HN.out; omega)
      rw [htk] at hn5
      rw [htk] at ho
      have HO9 := Lib.hid ho
      have HN5 := Lib.hid hn5
      clear hbr ho hl5 hm5 htk hin hn5
      go_wp2
      go_ret
      exact ⟨A5, c5, by rw [HN5.out]; first | done | rfl | simp, by rw [HN5.out]; exact HO9.out, HBR.out⟩
set_option maxRecDepth 100000 in
set_option maxHeartbeats 4000000 in
theorem filterF4_any (A : Option Addr) (n c : Nat) (l : List Fv) (p : Fv → Bool) (g1 g2 : Nat) (w : World) (hn : l.length = n) (hm : n ≤ 100000) (hS : Sl w w.heap.size 4 CF A l)
    (hF : ∀ wx, Below w.heap.size w wx → ∀ x ∈ l, Calls Tryz.prog 148 #[.agg #[.int .i64 x.pl, .int .i64 x.volts, .int .i64 x.siem, .int .i64 x.limit], .pointer (some ⟨g1, 0, none⟩), .pointer (some ⟨g2, 0, none⟩)] wx fun e w' => e = .returned (.bool (p x)) ∧ Below wx.heap.size wx w') :
    Calls Tryz.prog 147 #[.slice A n c, .func (.func 148) #[] #[.pointer (some ⟨g1, 0, none⟩), .pointer (some ⟨g2, 0, none⟩)]] w fun e w' => ∃ (A2 : Option Addr) (c2 : Nat), e = .returned (.slice A2 (l.filter p).length c2) ∧ Own w' w.heap.size 58 4 fFv (.slice A2 (l.filter p).length c2) (l.filter p) ∧ Below w.heap.size w w' := by
  obtain ⟨i6, hi6, hz6, hs6, hy6⟩ := info_parts info58
  have HS := Lib.hid hS; have HN := Lib.hid hn; have HF := Lib.hid hF
  clear hS hn hF
  go_enter Tryz.func147, Tryz.ntmps147
  go_wp2
  go_loopw [5, 10] (fun s5 s10 wr => ∃ (i : Nat), i ≤ n ∧ s10 = .int .i64 (i : Int) ∧ Below w.heap.size w wr ∧ Own wr w.heap.size 58 4 fFv s5 ((l.take i).filter p)) (fun _ s10 _ => n - (intOf s10).toNat)
  case atStart => exact ⟨0, Nat.zero_le _, rfl, Below.refl _ _, Own.nil _ _ _ _ _⟩
  case round =>
    obtain ⟨i, hi, rfl, hbr, ho⟩ := hrel
    have HBR := Lib.hid hbr; have HO := Lib.hid ho
    obtain ⟨A5, c5, rfl, hl5, hm5, -⟩ := ho.form
    generalize hn5 : ((l.take i).filter p).length = n5 at *
    by_cases hin : i < n
    · have hii : (i : Int) < (n : Int) := by omega
      have hi0 : (0 : Int) ≤ (i : Int) := by omega
      have hil : i < l.length := by have := HN.out; omega
      obtain ⟨b, o, rfl, gb, c0, c1, c2, c3⟩ := feed_at (HS.out.below hbr) hil
      obtain ⟨x, hx⟩ : ∃ g, l[i] = g := ⟨_, rfl⟩
      rw [hx] at c0 c1 c2 c3
      have HI := Lib.hid hin
      have HTK := Lib.hid (show (l.take (i + 1)).filter p = (l.take i).filter p ++ (if p x then [x] else []) from by
        rw [List.take_succ_eq_append_getElem hil, List.filter_append, hx, List.filter_cons]; split <;> simp)
      have hxm : x ∈ l := by rw [← hx]; exact List.getElem_mem hil
      have HXM := Lib.hid hxm
      have HLN := Lib.hid (show ((l.take i).filter p).length ≤ 100000 from by have := List.length_filter_le p (l.take i); have := List.length_take_le i l; have := HN.out; omega)
      clear hil hx hxm hbr ho hl5 hm5 hin
      have hb3 := (Below.refl wr.heap.size wr).alloc (Nat.le_refl _) (.cells #[.int .i64 x.pl, .int .i64 x.volts, .int .i64 x.siem, .int .i64 x.limit] 58)
      have q3 := Rw.new wr #[.int .i64 x.pl, .int .i64 x.volts, .int .i64 x.siem, .int .i64 x.limit] 58
      have hbw := HBR.out.trans (hb3.mono HBR.out.size)
      have ho3 := HO.out.alloc (.cells #[.int .i64 x.pl, .int .i64 x.volts, .int .i64 x.siem, .int .i64 x.limit] 58)
      obtain ⟨W3, hW3⟩ : ∃ z, wr.alloc (.cells #[.int .i64 x.pl, .int .i64 x.volts, .int .i64 x.siem, .int .i64 x.limit] 58) = z := ⟨_, rfl⟩
      rw [hW3] at hb3 q3 hbw ho3
      have HBW := Lib.hid hbw; have HQ3 := Lib.hid q3; have HO3 := Lib.hid ho3
      have w0 := q3.cell 0; have w1 := q3.cell 1; have w2 := q3.cell 2; have w3 := q3.cell 3
      clear hb3 q3 hbw ho3
      obtain ⟨y, hy⟩ : ∃ y, p x = y := ⟨_, rfl⟩
      have HC := Lib.hid (HF.out W3 HBW.out x HXM.out)
      rw [hy] at HC HTK
      clear hy
      go_wp2_with fail
      (with_reducible refine (HC.out).mono ?_)
      rintro e w5 ⟨rfl, hb5⟩
      have HB5 := Lib.hid ((HBW.out).trans (hb5.mono (HBW.out).size))
      have HO5 := Lib.hid (show Own w5 w.heap.size 58 4 fFv (.slice A5 n5 c5) ((l.take i).filter p) from by have := (HO3.out).below hb5 (Nat.le_refl _); exact this)
      clear w0 w1 w2 w3
      have q5 := HQ3.out.below hb5 HQ3.out.lt
      have w0 := q5.cell 0; have w1 := q5.cell 1; have w2 := q5.cell 2; have w3 := q5.cell 3
      clear q5
      cases y with
      | false =>
        have HT2 := Lib.hid (show (l.take (i + 1)).filter p = (l.take i).filter p from by rw [HTK.out]; simp)
        clear hb5 hn5
        go_wp2
        go_roundw
        case rel => exact ⟨i + 1, by have := HI.out; omega, by simp, HB5.out, by rw [HT2.out]; exact HO5.out⟩
        case measure => have := HI.out; simp [intOf] <;> omega
      | true =>
        have HT2 := Lib.hid (show (l.take (i + 1)).filter p = (l.take i).filter p ++ [x] from by rw [HTK.out]; simp)
        have HZ5 := Lib.hid HB5.out.size
        clear hb5 hn5
        go_wp2_with (at_builtin; go_must (refine wpList_app _ rfl (.tmp 17) (.tmp 19) _ rfl w.heap.size 58 i6 _ 4 32 Tryz.underlying23 hi6 hz6 hs6 hy6 rfl (by omega) fFv_len fFv_one (.slice A5 n5 c5) _ rfl (HO5.out.alloc _) _ _ [x] 1 rfl (Sl.new _ _ x _ rfl) (by have := HLN.out; unfold maxLen; simp only [List.length_cons, List.length_nil]; omega) (by have := HLN.out; simp only [List.length_cons, List.length_nil]; omega) (by have := HZ5.out; simp; omega) (fun _ => .inr ⟨_, rfl⟩) ?_)
                     intro v2 w7 ow2 gr2 at2 ne2
                     go_must (have HO7 := Lib.hid ow2)
                     go_must (have HB7 := Lib.hid (bGrown (HB5.out.trans (((Below.refl w5.heap.size w5).alloc (Nat.le_refl _) (.cells #[.int .i64 x.pl, .int .i64 x.volts, .int .i64 x.siem, .int .i64 x.limit] 58)).mono HB5.out.size)) gr2 (fun j e => (HO5.out.lt j e).1) (by have := HZ5.out; simp; omega)))
                     clear ow2 gr2 at2 ne2)
        go_roundw
        case rel => exact ⟨i + 1, by have := HI.out; omega, by simp, HB7.out, by rw [HT2.out]; exact HO7.out⟩
        case measure => have := HI.out; simp [intOf] <;> omega
    · have hii : ¬ (i : Int) < (n : Int) := by omega
      have htk : l.take i = l := List.take_of_length_le (by have := HN.out; omega)
      rw [htk] at hn5
      rw [htk] at ho
      have HO9 := Lib.hid ho
      have HN5 := Lib.hid hn5
      clear hbr ho hl5 hm5 htk hin hn5
      go_wp2
      go_ret
      exact ⟨A5, c5, by rw [HN5.out]; first | done | rfl | simp, by rw [HN5.out]; exact HO9.out, HBR.out⟩
set_option maxRecDepth 100000 in
set_option maxHeartbeats 4000000 in
theorem filterF5_any (A : Option Addr) (n c : Nat) (l : List Fv) (p : Fv → Bool) (g1 g2 : Nat) (w : World) (hn : l.length = n) (hm : n ≤ 100000) (hS : Sl w w.heap.size 4 CF A l)
    (hF : ∀ wx, Below w.heap.size w wx → ∀ x ∈ l, Calls Tryz.prog 150 #[.agg #[.int .i64 x.pl, .int .i64 x.volts, .int .i64 x.siem, .int .i64 x.limit], .pointer (some ⟨g1, 0, none⟩), .pointer (some ⟨g2, 0, none⟩)] wx fun e w' => e = .returned (.bool (p x)) ∧ Below wx.heap.size wx w') :
    Calls Tryz.prog 147 #[.slice A n c, .func (.func 150) #[] #[.pointer (some ⟨g1, 0, none⟩), .pointer (some ⟨g2, 0, none⟩)]] w fun e w' => ∃ (A2 : Option Addr) (c2 : Nat), e = .returned (.slice A2 (l.filter p).length c2) ∧ Own w' w.heap.size 58 4 fFv (.slice A2 (l.filter p).length c2) (l.filter p) ∧ Below w.heap.size w w' := by
  obtain ⟨i6, hi6, hz6, hs6, hy6⟩ := info_parts info58
  have HS := Lib.hid hS; have HN := Lib.hid hn; have HF := Lib.hid hF
  clear hS hn hF
  go_enter Tryz.func147, Tryz.ntmps147
  go_wp2
  go_loopw [5, 10] (fun s5 s10 wr => ∃ (i : Nat), i ≤ n ∧ s10 = .int .i64 (i : Int) ∧ Below w.heap.size w wr ∧ Own wr w.heap.size 58 4 fFv s5 ((l.take i).filter p)) (fun _ s10 _ => n - (intOf s10).toNat)
  case atStart => exact ⟨0, Nat.zero_le _, rfl, Below.refl _ _, Own.nil _ _ _ _ _⟩
  case round =>
    obtain ⟨i, hi, rfl, hbr, ho⟩ := hrel
    have HBR := Lib.hid hbr; have HO := Lib.hid ho
    obtain ⟨A5, c5, rfl, hl5, hm5, -⟩ := ho.form
    generalize hn5 : ((l.take i).filter p).length = n5 at *
    by_cases hin : i < n
    · have hii : (i : Int) < (n : Int) := by omega
      have hi0 : (0 : Int) ≤ (i : Int) := by omega
      have hil : i < l.length := by have := HN.out; omega
      obtain ⟨b, o, rfl, gb, c0, c1, c2, c3⟩ := feed_at (HS.out.below hbr) hil
      obtain ⟨x, hx⟩ : ∃ g, l[i] = g := ⟨_, rfl⟩
      rw [hx] at c0 c1 c2 c3
      have HI := Lib.hid hin
      have HTK := Lib.hid (show (l.take (i + 1)).filter p = (l.take i).filter p ++ (if p x then [x] else []) from by
        rw [List.take_succ_eq_append_getElem hil, List.filter_append, hx, List.filter_cons]; split <;> simp)
      have hxm : x ∈ l := by rw [← hx]; exact List.getElem_mem hil
      have HXM := Lib.hid hxm
      have HLN := Lib.hid (show ((l.take i).filter p).length ≤ 100000 from by have := List.length_filter_le p (l.take i); have := List.length_take_le i l; have := HN.out; omega)
      clear hil hx hxm hbr ho hl5 hm5 hin
      have hb3 := (Below.refl wr.heap.size wr).alloc (Nat.le_refl _) (.cells #[.int .i64 x.pl, .int .i64 x.volts, .int .i64 x.siem, .int .i64 x.limit] 58)
      have q3 := Rw.new wr #[.int .i64 x.pl, .int .i64 x.volts, .int .i64 x.siem, .int .i64 x.limit] 58
      have hbw := HBR.out.trans (hb3.mono HBR.out.size)
      have ho3 := HO.out.alloc (.cells #[.int .i64 x.pl, .int .i64 x.volts, .int .i64 x.siem, .int .i64 x.limit] 58)
      obtain ⟨W3, hW3⟩ : ∃ z, wr.alloc (.cells #[.int .i64 x.pl, .int .i64 x.volts, .int .i64 x.siem, .int .i64 x.limit] 58) = z := ⟨_, rfl⟩
      rw [hW3] at hb3 q3 hbw ho3
      have HBW := Lib.hid hbw; have HQ3 := Lib.hid q3; have HO3 := Lib.hid ho3
      have w0 := q3.cell 0; have w1 := q3.cell 1; have w2 := q3.cell 2; have w3 := q3.cell 3
      clear hb3 q3 hbw ho3
      obtain ⟨y, hy⟩ : ∃ y, p x = y := ⟨_, rfl⟩
      have HC := Lib.hid (HF.out W3 HBW.out x HXM.out)
      rw [hy] at HC HTK
      clear hy
      go_wp2_with fail
      (with_reducible refine (HC.out).mono ?_)
      rintro e w5 ⟨rfl, hb5⟩
      have HB5 := Lib.hid ((HBW.out).trans (hb5.mono (HBW.out).size))
      have HO5 := Lib.hid (show Own w5 w.heap.size 58 4 fFv (.slice A5 n5 c5) ((l.take i).filter p) from by have := (HO3.out).below hb5 (Nat.le_refl _); exact this)
      clear w0 w1 w2 w3
      have q5 := HQ3.out.below hb5 HQ3.out.lt
      have w0 := q5.cell 0; have w1 := q5.cell 1; have w2 := q5.cell 2; have w3 := q5.cell 3
      clear q5
      cases y with
      | false =>
        have HT2 := Lib.hid (show (l.take (i + 1)).filter p = (l.take i).filter p from by rw [HTK.out]; simp)
        clear hb5 hn5
        go_wp2
        go_roundw
        case rel => exact ⟨i + 1, by have := HI.out; omega, by simp, HB5.out, by rw [HT2.out]; exact HO5.out⟩
        case measure => have := HI.out; simp [intOf] <;> omega
      | true =>
        have HT2 := Lib.hid (show (l.take (i + 1)).filter p = (l.take i).filter p ++ [x] from by rw [HTK.out]; simp)
        have HZ5 := Lib.hid HB5.out.size
        clear hb5 hn5
        go_wp2_with (at_builtin; go_must (refine wpList_app _ rfl (.tmp 17) (.tmp 19) _ rfl w.heap.size 58 i6 _ 4 32 Tryz.underlying23 hi6 hz6 hs6 hy6 rfl (by omega) fFv_len fFv_one (.slice A5 n5 c5) _ rfl (HO5.out.alloc _) _ _ [x] 1 rfl (Sl.new _ _ x _ rfl) (by have := HLN.out; unfold maxLen; simp only [List.length_cons, List.length_nil]; omega) (by have := HLN.out; simp only [List.length_cons, List.length_nil]; omega) (by have := HZ5.out; simp; omega) (fun _ => .inr ⟨_, rfl⟩) ?_)
                     intro v2 w7 ow2 gr2 at2 ne2
                     go_must (have HO7 := Lib.hid ow2)
                     go_must (have HB7 := Lib.hid (bGrown (HB5.out.trans (((Below.refl w5.heap.size w5).alloc (Nat.le_refl _) (.cells #[.int .i64 x.pl, .int .i64 x.volts, .int .i64 x.siem, .int .i64 x.limit] 58)).mono HB5.out.size)) gr2 (fun j e => (HO5.out.lt j e).1) (by have := HZ5.out; simp; omega)))
                     clear ow2 gr2 at2 ne2)
        go_roundw
        case rel => exact ⟨i + 1, by have := HI.out; omega, by simp, HB7.out, by rw [HT2.out]; exact HO7.out⟩
        case measure => have := HI.out; simp [intOf] <;> omega
    · have hii : ¬ (i : Int) < (n : Int) := by omega
      have htk : l.take i = l := List.take_of_length_le (by have := HN.out; omega)
      rw [htk] at hn5
      rw [htk] at ho
      have HO9 := Lib.hid ho
      have HN5 := Lib.hid hn5
      clear hbr ho hl5 hm5 htk hin hn5
      go_wp2
      go_ret
      exact ⟨A5, c5, by rw [HN5.out]; first | done | rfl | simp, by rw [HN5.out]; exact HO9.out, HBR.out⟩
/-- a circuit in memory: a part, the feeders that are on, what is taken -/
structure Cv where
  p : Pv
  on : List Fv
  taken : List Int
set_option maxRecDepth 100000 in
set_option maxHeartbeats 4000000 in
theorem cindex_any (s1 s2 s3 so sk : Sc) (ns : List Nat) (x : Int) (w : World) (hn : ns.length = s1.n) (hm : s1.n ≤ 1000000) (hS : Sl w w.heap.size 1 CI s1.A (nI ns)) :
    Calls Tryz.prog 95 #[.agg #[.slice s1.A s1.n s1.c, .slice s2.A s2.n s2.c, .slice s3.A s3.n s3.c, .slice so.A so.n so.c, .slice sk.A sk.n sk.c], .int .i64 x] w fun e w' => e = .returned (.int .i64 (ixI (nI ns) x)) ∧ Below w.heap.size w w' := by
  have hb1 := (Below.refl w.heap.size w).alloc (Nat.le_refl _) (.cells #[.slice s1.A s1.n s1.c, .slice s2.A s2.n s2.c, .slice s3.A s3.n s3.c, .slice so.A so.n so.c, .slice sk.A sk.n sk.c] 134)
  have q1 := Rw.new w #[.slice s1.A s1.n s1.c, .slice s2.A s2.n s2.c, .slice s3.A s3.n s3.c, .slice so.A so.n so.c, .slice sk.A sk.n sk.c] 134
  obtain ⟨W1, hW1⟩ : ∃ z, w.alloc (.cells #[.slice s1.A s1.n s1.c, .slice s2.A s2.n s2.c, .slice s3.A s3.n s3.c, .slice so.A so.n so.c, .slice sk.A sk.n sk.c] 134) = z := ⟨_, rfl⟩
  rw [hW1] at hb1 q1
  have e0 := q1.cell 0
  have HB1 := Lib.hid hb1
  have HI := Lib.hid (index_any s1.A s1.n s1.c (nI ns) x W1 (by unfold nI; rw [List.length_map]; exact hn) hm ((hS.below hb1).more (fun _ _ h => h) hb1.size))
  clear hb1 q1 hS hn
  go_enter Tryz.func95, Tryz.ntmps95
  go_wp2_with fail
  (with_reducible refine (HI.out).mono ?_)
  rintro e w3 ⟨rfl, rfl⟩
  go_wp2
  go_ret
  exact ⟨rfl, HB1.out⟩
def sumI (l : List Int) : Int := l.sum
theorem sumI_succ {l : List Int} {i : Nat} (hi : i < l.length) : sumI (l.take (i + 1)) = sumI (l.take i) + l[i] := by
  unfold sumI; rw [List.take_succ_eq_append_getElem hi, List.sum_append]; simp
theorem sumI_le {l : List Int} (h : ∀ x ∈ l, -40 ≤ x ∧ x ≤ 40) : -40 * (l.length : Int) ≤ sumI l ∧ sumI l ≤ 40 * (l.length : Int) := by
  unfold sumI
  induction l with
  | nil => simp
  | cons x l ih => have := h x (by simp); have := ih (fun y hy => h y (by simp [hy])); simp only [List.sum_cons, List.length_cons]; omega
set_option maxRecDepth 100000 in
set_option maxHeartbeats 4000000 in
theorem total_any (s1 s2 s3 so sk : Sc) (l : List Int) (w : World) (hn : l.length = sk.n) (hm : sk.n ≤ 1000) (hl : ∀ x ∈ l, -40 ≤ x ∧ x ≤ 40) (hS : Sl w w.heap.size 1 CI sk.A l) :
    Calls Tryz.prog 114 #[.agg #[.slice s1.A s1.n s1.c, .slice s2.A s2.n s2.c, .slice s3.A s3.n s3.c, .slice so.A so.n so.c, .slice sk.A sk.n sk.c]] w fun e w' => e = .returned (.int .i64 (sumI l)) ∧ Below w.heap.size w w' := by
  have hb1 := (Below.refl w.heap.size w).alloc (Nat.le_refl _) (.cells #[.slice s1.A s1.n s1.c, .slice s2.A s2.n s2.c, .slice s3.A s3.n s3.c, .slice so.A so.n so.c, .slice sk.A sk.n sk.c] 134)
  have q1 := Rw.new w #[.slice s1.A s1.n s1.c, .slice s2.A s2.n s2.c, .slice s3.A s3.n s3.c, .slice so.A so.n so.c, .slice sk.A sk.n sk.c] 134
  obtain ⟨W1, hW1⟩ : ∃ z, w.alloc (.cells #[.slice s1.A s1.n s1.c, .slice s2.A s2.n s2.c, .slice s3.A s3.n s3.c, .slice so.A so.n so.c, .slice sk.A sk.n sk.c] 134) = z := ⟨_, rfl⟩
  rw [hW1] at hb1 q1
  have e4 := q1.cell 4
  have HB1 := Lib.hid hb1; have HS := Lib.hid (hS.below hb1); have HN := Lib.hid hn; have HL := Lib.hid hl
  clear hb1 q1 hS hn hl
  go_enter Tryz.func114, Tryz.ntmps114
  go_wp2
  clear e4
  go_loopw [3, 9] (fun s3 s9 wr => ∃ i : Nat, i ≤ sk.n ∧ s9 = .int .i64 (i : Int) ∧ s3 = .int .i64 (sumI (l.take i)) ∧ W1 = wr) (fun _ s9 _ => sk.n - (intOf s9).toNat)
  case atStart => exact ⟨0, Nat.zero_le _, rfl, by first | rfl | simp [sumI], by first | rfl | trivial⟩
  case round =>
    obtain ⟨i, hi, rfl, rfl, rfl⟩ := hrel
    by_cases hin : i < sk.n
    · have hii : (i : Int) < (sk.n : Int) := by omega
      have hi0 : (0 : Int) ≤ (i : Int) := by omega
      have hil : i < l.length := by have := HN.out; omega
      obtain ⟨b, o, hA, gb, c0⟩ := int_at HS.out hil
      rw [hA]
      obtain ⟨x, hx⟩ : ∃ g, l[i] = g := ⟨_, rfl⟩
      rw [hx] at c0
      have HI := Lib.hid hin
      have hsu := sumI_succ hil
      rw [hx] at hsu
      have HSU := Lib.hid hsu
      have hb1 := sumI_le (l := l.take i) (fun y hy => HL.out y (List.mem_of_mem_take hy))
      have hb2 := HL.out x (by rw [← hx]; exact List.getElem_mem hil)
      have hb3 := List.length_take_le i l
      generalize sumI (l.take i) = v at *
      have hw : IntKind.i64.wrap (v + x) = v + x := by rw [IntKind.wrap_i64]; omega
      clear hil hx hin hsu hb1 hb2 hb3
      go_wp2
      go_roundw
      case rel => exact ⟨i + 1, by have := HI.out; omega, by simp, by rw [HSU.out], by first | rfl | trivial⟩
      case measure => have := HI.out; simp [intOf] <;> omega
    · have hii : ¬ (i : Int) < (sk.n : Int) := by omega
      have htk : l.take i = l := List.take_of_length_le (by have := HN.out; omega)
      rw [htk]
      go_wp2
      go_ret
      exact ⟨rfl, HB1.out⟩
end Go.Proofs.YtbnfnpakibkboaaGreat

namespace Go.Proofs.YtbnfnpakibkboaaGreat
set_option linter.unusedVariables false
set_option linter.unusedSimpArgs false
open Go.RowKit

theorem rows4 (w : World) (a b c d : Array Value) (t1 t2 t3 t4 : TypeId) : Rw ((((w.alloc (.cells a t1)).alloc (.cells b t2)).alloc (.cells c t3)).alloc (.cells d t4)) w.heap.size t1 a ∧ Rw ((((w.alloc (.cells a t1)).alloc (.cells b t2)).alloc (.cells c t3)).alloc (.cells d t4)) (w.heap.size + 1) t2 b ∧
    Rw ((((w.alloc (.cells a t1)).alloc (.cells b t2)).alloc (.cells c t3)).alloc (.cells d t4)) (w.heap.size + 2) t3 c ∧ Rw ((((w.alloc (.cells a t1)).alloc (.cells b t2)).alloc (.cells c t3)).alloc (.cells d t4)) (w.heap.size + 3) t4 d := by
  obtain ⟨q1, q2, q3⟩ := rows3 w a b c t1 t2 t3
  have q4 := Rw.new (((w.alloc (.cells a t1)).alloc (.cells b t2)).alloc (.cells c t3)) d t4
  simp only [World.size_alloc] at q4
  exact ⟨q1.alloc _, q2.alloc _, q3.alloc _, q4⟩
theorem set5 {w : World} {k : Nat} {v0 v1 v2 v3 v4 : Value} :
    (∀ (t : TypeId) (c0 c1 c2 c3 c4 : Value), Rw w k t #[c0, c1, c2, c3, c4] → Rw (((((w.setCell ⟨k, 0, none⟩ v0).setCell ⟨k, 1, none⟩ v1).setCell ⟨k, 2, none⟩ v2).setCell ⟨k, 3, none⟩ v3).setCell ⟨k, 4, none⟩ v4) k t #[v0, v1, v2, v3, v4]) ∧
    (∀ j, j ≠ k → (((((w.setCell ⟨k, 0, none⟩ v0).setCell ⟨k, 1, none⟩ v1).setCell ⟨k, 2, none⟩ v2).setCell ⟨k, 3, none⟩ v3).setCell ⟨k, 4, none⟩ v4).heap[j]? = w.heap[j]?) ∧
    (∀ B, B ≤ k → Below B w (((((w.setCell ⟨k, 0, none⟩ v0).setCell ⟨k, 1, none⟩ v1).setCell ⟨k, 2, none⟩ v2).setCell ⟨k, 3, none⟩ v3).setCell ⟨k, 4, none⟩ v4)) := by
  refine ⟨fun t c0 c1 c2 c3 c4 h => ?_, fun j hj => ?_, fun B hB => ?_⟩
  · exact ((((h.set 0 v0).set 1 v1).set 2 v2).set 3 v3).set 4 v4
  · exact (Below.heap_setCell _ _ _ j hj).trans ((Below.heap_setCell _ _ _ j hj).trans ((Below.heap_setCell _ _ _ j hj).trans ((Below.heap_setCell _ _ _ j hj).trans (Below.heap_setCell _ _ _ j hj))))
  · exact (((((Below.refl B w).setCell (p := ⟨k, 0, none⟩) hB v0).setCell (p := ⟨k, 1, none⟩) hB v1).setCell (p := ⟨k, 2, none⟩) hB v2).setCell (p := ⟨k, 3, none⟩) hB v3).setCell (p := ⟨k, 4, none⟩) hB v4
/-- what is taken at the nodes of a part by the loads so far -/
def tkStep (ns : List Nat) (f : Nat → Int) (x : Lv) : Nat → Int := fun j => if x.pl ∈ nI ns ∧ (nI ns).idxOf x.pl = j then x.units else f j
def tkF (ns : List Nat) (ls : List Lv) : Nat → Int := ls.foldl (tkStep ns) (fun _ => 0)
theorem tkF_succ {ns : List Nat} {ls : List Lv} {k : Nat} (hk : k < ls.length) : tkF ns (ls.take (k + 1)) = tkStep ns (tkF ns (ls.take k)) ls[k] := by
  unfold tkF; rw [List.take_succ_eq_append_getElem hk, List.foldl_append]; rfl
theorem tkF_bd {ns : List Nat} {ls : List Lv} (h : ∀ x ∈ ls, -40 ≤ x.units ∧ x.units ≤ 40) (j : Nat) : -40 ≤ tkF ns ls j ∧ tkF ns ls j ≤ 40 := by
  unfold tkF
  have key : ∀ (l : List Lv) (f : Nat → Int), (∀ x ∈ l, -40 ≤ x.units ∧ x.units ≤ 40) → (∀ j, -40 ≤ f j ∧ f j ≤ 40) → ∀ j, -40 ≤ l.foldl (tkStep ns) f j ∧ l.foldl (tkStep ns) f j ≤ 40 := by
    intro l
    induction l with
    | nil => intro f _ hf; exact hf
    | cons x l ih =>
      intro f hl hf
      refine ih _ (fun y hy => hl y (by simp [hy])) (fun j => ?_)
      unfold tkStep; split
      · exact hl x (by simp)
      · exact hf j
  exact key ls _ h (fun _ => by omega) j
def onV (fs : List Fv) (fon : List Bool) (idx : List Nat) : List Nat := idx.filter (fun i => (fon[i]?).getD false)
def fvAt (fs : List Fv) (i : Nat) : Fv := (fs[i]?).getD ⟨0, 0, 0, 0⟩
/-- the frame of circuitOf -/
def FCi (s cb : Nat) (Al : Option Addr) (nl cl : Nat) (u : Nat → Value) : Array Value := #[u 0, u 1, u 2, .slice Al nl cl, .pointer (some ⟨s, 0, none⟩), .pointer (some ⟨s + 1, 0, none⟩), .pointer (some ⟨s + 1 + 1, 0, none⟩), u 7, .pointer (some ⟨s + 1 + 1 + 1, 0, none⟩), .pointer (some ⟨cb, 0, none⟩), u 10, u 11, u 12, u 13, u 14, u 15, u 16, u 17, u 18, u 19, u 20, u 21, u 22, u 23, u 24, u 25, u 26, u 27, u 28, u 29, u 30, u 31, u 32, u 33, u 34, u 35, u 36, u 37, u 38, u 39, u 40, u 41, u 42, u 43, u 44, u 45, u 46, u 47, u 48, u 49, u 50, u 51, u 52, u 53, u 54, u 55, u 56, u 57, u 58, u 59, u 60]
/-- a part's circuit -/
def cirV (g : Gv) (fon : List Bool) (p : Pv) (ls : List Lv) : Cv := ⟨p, (onV g.feeds fon p.feeds).map (fvAt g.feeds), (List.range p.nodes.length).map (tkF p.nodes ls)⟩
set_option maxRecDepth 100000 in
set_option maxHeartbeats 4000000 in
theorem clos131_any (g1 : Nat) (A : Option Addr) (n c : Nat) (l : List Bool) (x : Int) (w : World) (hn : l.length = n) (h0 : 0 ≤ x) (h1 : x < n) (hS : Sl w w.heap.size 1 CB A l) (hq : Rw w g1 26 #[.slice A n c]) :
    Calls Tryz.prog 131 #[.int .i64 x, .pointer (some ⟨g1, 0, none⟩)] w fun e w' => e = .returned (.bool ((l[x.toNat]?).getD false)) ∧ Below w.heap.size w w' := by
  obtain ⟨k, rfl⟩ : ∃ k : Nat, x = (k : Int) := ⟨x.toNat, by omega⟩
  have hk : k < l.length := by omega
  obtain ⟨b, o, rfl, hb, c0⟩ := bool_at hS hk
  have e0 := hq.cell 0
  have hg : (l[((k : Int)).toNat]?).getD false = l[k] := by rw [Int.toNat_natCast, List.getElem?_eq_getElem hk]; rfl
  rw [hg]
  obtain ⟨y, hy⟩ : ∃ y, l[k] = y := ⟨_, rfl⟩
  rw [hy] at c0 ⊢
  clear hy hg hS hq
  go_enter Tryz.func131, Tryz.ntmps131
  go_wp2
  go_ret
  exact ⟨rfl, Below.refl _ _⟩
set_option maxRecDepth 100000 in
set_option maxHeartbeats 4000000 in
theorem circuitOf_any (Aw Af As Al : Option Addr) (nw nf nl cw cf cs cl N : Nat) (g : Gv) (fon : List Bool) (ls : List Lv) (s1 s2 s3 : Sc) (p : Pv) (w : World) (hG : GAt w w.heap.size Aw nw Af nf g) (hfo : fon.length = nf) (hF : Sl w w.heap.size 1 CB As fon)
    (hll : ls.length = nl) (hlm : nl ≤ 100000) (hL : Sl w w.heap.size 3 CL Al ls) (hn1 : p.nodes.length = s1.n) (hn1' : s1.n ≤ 40) (hn3 : p.feeds.length = s3.n) (hn3' : s3.n ≤ 1000) (hN : Sl w w.heap.size 1 CI s1.A (nI p.nodes)) (hP3 : Sl w w.heap.size 1 CI s3.A (nI p.feeds)) (hpf : ∀ i ∈ p.feeds, i < nf) :
    Calls Tryz.prog 108 #[.agg #[.int .i64 (N : Int), .slice Aw nw cw, .slice Af nf cf, .int .i64 g.least], .agg #[.slice s1.A s1.n s1.c, .slice s2.A s2.n s2.c, .slice s3.A s3.n s3.c], .slice As nf cs, .slice Al nl cl] w fun e w' => ∃ so sk : Sc, e = .returned (.agg #[.slice s1.A s1.n s1.c, .slice s2.A s2.n s2.c, .slice s3.A s3.n s3.c, .slice so.A so.n so.c, .slice sk.A sk.n sk.c]) ∧ Own w' w.heap.size 58 4 fFv so.v (cirV g fon p ls).on ∧ so.n = (cirV g fon p ls).on.length ∧
      (∃ tb, sk = ⟨some ⟨tb, 0, none⟩, s1.n, s1.n⟩ ∧ w.heap.size ≤ tb ∧ Rf w' tb 3 s1.n (fun j => .int .i64 (tkF p.nodes ls j))) ∧ Below w.heap.size w w' := by
  obtain ⟨i0, hi0, hz0, hz1, hz2⟩ := info_parts info3
  have hmk := fun W : World => run_mk (P := Tryz.prog) 40 3 i0 _ 1 Tryz.underlying40 hi0 hz0 hz1 (s1.n : Int) (s1.n : Int) s1.n s1.n rfl rfl (by omega) (by rw [hz2]; omega) (by omega) W
  have hb1 := ((((Below.refl w.heap.size w).alloc (Nat.le_refl _) (.cells #[.int .i64 (N : Int), .slice Aw nw cw, .slice Af nf cf, .int .i64 g.least] 25)).alloc (by simp) (.cells #[.slice s1.A s1.n s1.c, .slice s2.A s2.n s2.c, .slice s3.A s3.n s3.c] 132)).alloc (by simp; omega) (.cells #[.slice As nf cs] 26)).alloc (by simp; omega) (.cells #[.slice none 0 0, .slice none 0 0, .slice none 0 0, .slice none 0 0, .slice none 0 0] 134)
  obtain ⟨q1, q2, q3, q4⟩ := rows4 w #[.int .i64 (N : Int), .slice Aw nw cw, .slice Af nf cf, .int .i64 g.least] #[.slice s1.A s1.n s1.c, .slice s2.A s2.n s2.c, .slice s3.A s3.n s3.c] #[.slice As nf cs] #[.slice none 0 0, .slice none 0 0, .slice none 0 0, .slice none 0 0, .slice none 0 0] 25 132 26 134
  have hz1 : ((((w.alloc (.cells #[.int .i64 (N : Int), .slice Aw nw cw, .slice Af nf cf, .int .i64 g.least] 25)).alloc (.cells #[.slice s1.A s1.n s1.c, .slice s2.A s2.n s2.c, .slice s3.A s3.n s3.c] 132)).alloc (.cells #[.slice As nf cs] 26)).alloc (.cells #[.slice none 0 0, .slice none 0 0, .slice none 0 0, .slice none 0 0, .slice none 0 0] 134)).heap.size = w.heap.size + 4 := by simp
  have hG1 := hG.below hb1; have hF1 := hF.below hb1; have hL1 := hL.below hb1; have hN1 := hN.below hb1; have hP1 := hP3.below hb1
  obtain ⟨W1, hW1⟩ : ∃ z, (((w.alloc (.cells #[.int .i64 (N : Int), .slice Aw nw cw, .slice Af nf cf, .int .i64 g.least] 25)).alloc (.cells #[.slice s1.A s1.n s1.c, .slice s2.A s2.n s2.c, .slice s3.A s3.n s3.c] 132)).alloc (.cells #[.slice As nf cs] 26)).alloc (.cells #[.slice none 0 0, .slice none 0 0, .slice none 0 0, .slice none 0 0, .slice none 0 0] 134) = z := ⟨_, rfl⟩
  rw [hW1] at hb1 q1 q2 q3 q4 hz1 hG1 hF1 hL1 hN1 hP1
  have HB1 := Lib.hid hb1; have HZ1 := Lib.hid hz1
  have HQ := Lib.hid (show ∀ wx, Below W1.heap.size W1 wx → Rw wx w.heap.size 25 #[.int .i64 (N : Int), .slice Aw nw cw, .slice Af nf cf, .int .i64 g.least] ∧ Rw wx (w.heap.size + 1) 132 #[.slice s1.A s1.n s1.c, .slice s2.A s2.n s2.c, .slice s3.A s3.n s3.c] ∧ Rw wx (w.heap.size + 2) 26 #[.slice As nf cs] ∧ Rw wx (w.heap.size + 3) 134 #[.slice none 0 0, .slice none 0 0, .slice none 0 0, .slice none 0 0, .slice none 0 0] from fun wx h => ⟨q1.below h (by omega), q2.below h (by omega), q3.below h (by omega), q4.below h (by omega)⟩)
  have HA := Lib.hid (show ∀ wx, Below W1.heap.size W1 wx → GAt wx w.heap.size Aw nw Af nf g ∧ Sl wx w.heap.size 1 CB As fon ∧ Sl wx w.heap.size 3 CL Al ls ∧ Sl wx w.heap.size 1 CI s1.A (nI p.nodes) ∧ Sl wx w.heap.size 1 CI s3.A (nI p.feeds) from fun wx h => by
    have h' := h.mono (show w.heap.size ≤ W1.heap.size by omega)
    exact ⟨hG1.below h', hF1.below h', hL1.below h', hN1.below h', hP1.below h'⟩)
  have HLL := Lib.hid hll; have HFO := Lib.hid hfo; have HN1 := Lib.hid hn1; have HN3 := Lib.hid hn3; have HPF := Lib.hid hpf
  clear hb1 q3 q4 hG1 hF1 hL1 hN1 hP1 hG hF hL hN hP3 hll hfo hn1 hn3 hpf
  have e0 := q2.cell 0; have e1 := q2.cell 1; have e2 := q2.cell 2
  clear q1 q2
  go_enter Tryz.func108, Tryz.ntmps108
  go_upto_region 1 with (fail)
  refine Code.wp_mono (Q := fun e a' w' => e = .normal ∧ ∃ (cb tb : Nat), a' = { tmps := FCi w.heap.size cb Al nl cl (fun i => a'.tmps.getD i undef), defers := [] } ∧ Rw w' cb 134 #[.slice s1.A s1.n s1.c, .slice s2.A s2.n s2.c, .slice s3.A s3.n s3.c, .slice none 0 0, .slice (some ⟨tb, 0, none⟩) s1.n s1.n] ∧ Rf w' tb 3 s1.n (fun _ => .int .i64 0) ∧ cb ≠ tb ∧ W1.heap.size ≤ cb ∧ W1.heap.size ≤ tb ∧ Below W1.heap.size W1 w') (fun e a' w' h => ?rest) ?reg
  case reg =>
    refine wp_region_noPanic ?_
    go_region
    · refine NoPanic.normal ?_
      have hz := HZ1.out
      have r1 := Rf.made1 W1 (.int .i64 0) s1.n 3
      have r2 := Rw.new (W1.alloc (.cells (madeCells #[.int .i64 0] s1.n) 3)) #[.slice s1.A s1.n s1.c, .slice s2.A s2.n s2.c, .slice s3.A s3.n s3.c, .slice none 0 0, .slice (some ⟨w.heap.size + 4, 0, none⟩) s1.n s1.n] 134
      rw [World.size_alloc, hz] at r2
      rw [hz] at r1
      have hb := (((Below.refl W1.heap.size W1).alloc (Nat.le_refl _) (.cells (madeCells #[.int .i64 0] s1.n) 3)).alloc (by simp) (.cells #[.slice s1.A s1.n s1.c, .slice s2.A s2.n s2.c, .slice s3.A s3.n s3.c, .slice none 0 0, .slice (some ⟨w.heap.size + 4, 0, none⟩) s1.n s1.n] 134)).drew
      exact ⟨rfl, w.heap.size + 4 + 1, w.heap.size + 4, rfl, r2.drew, r1.alloc _, by omega, by omega, by omega, hb⟩
    · refine NoPanic.normal ?_
      have hz := HZ1.out
      have r1 := Rw.new W1 #[.slice s1.A s1.n s1.c, .slice s2.A s2.n s2.c, .slice s3.A s3.n s3.c, .slice none 0 0, .slice (some ⟨w.heap.size + 4 + 1, 0, none⟩) s1.n s1.n] 134
      have r2 := Rf.made1 (W1.alloc (.cells #[.slice s1.A s1.n s1.c, .slice s2.A s2.n s2.c, .slice s3.A s3.n s3.c, .slice none 0 0, .slice (some ⟨w.heap.size + 4 + 1, 0, none⟩) s1.n s1.n] 134)) (.int .i64 0) s1.n 3
      rw [World.size_alloc, hz] at r2
      rw [hz] at r1
      have hb := (((Below.refl W1.heap.size W1).alloc (Nat.le_refl _) (.cells #[.slice s1.A s1.n s1.c, .slice s2.A s2.n s2.c, .slice s3.A s3.n s3.c, .slice none 0 0, .slice (some ⟨w.heap.size + 4 + 1, 0, none⟩) s1.n s1.n] 134)).alloc (by simp) (.cells (madeCells #[.int .i64 0] s1.n) 3)).drew
      exact ⟨rfl, w.heap.size + 4, w.heap.size + 4 + 1, rfl, (r1.alloc _).drew, r2, by omega, by omega, by omega, hb⟩
  case rest =>
    obtain ⟨rfl, cb, tb, ha, hrc, hrt, hne, hc1, ht1, hbw⟩ := h
    obtain ⟨u, rfl⟩ : ∃ u, a' = { tmps := FCi w.heap.size cb Al nl cl u, defers := [] } := ⟨_, ha⟩
    clear ha e0 e1 e2 hmk hW1
    have HRC := Lib.hid hrc; have HRT := Lib.hid hrt; have HNE := Lib.hid hne; have HCT := Lib.hid (And.intro hc1 ht1); have HBW := Lib.hid hbw
    have hz := HZ1.out
    have hsz0 := hbw.size
    obtain ⟨q1, q2, q3, q4⟩ := HQ.out _ hbw
    obtain ⟨a1, a2, a3, a4, a5⟩ := HA.out _ hbw
    have e0 := q2.cell 0; have e2 := q2.cell 2
    have HFI := Lib.hid (filterI_any s3.A s3.n s3.c (nI p.feeds) (fun x => (fon[x.toNat]?).getD false) (w.heap.size + 2) w' (by unfold nI; rw [List.length_map]; exact HN3.out) (by omega) (a5.more (fun _ _ h => h) (by omega)) (fun wx hb x hx => by
      obtain ⟨i, hi, rfl⟩ := List.mem_map.1 hx
      have := HPF.out i hi
      exact clos131_any (w.heap.size + 2) As nf cs fon (i : Int) wx HFO.out (by omega) (by omega) ((a2.below (hb.mono (by omega))).more (fun _ _ h => h) (by have := hb.size; omega)) (q3.below hb (by omega))))
    clear hrc hrt hne hc1 ht1 hbw q1 q2 q3 q4 a1 a2 a3 a4 a5
    simp only [FCi, Exit.then]
    go_wp2_with fail
    (with_reducible refine (HFI.out).mono ?_)
    rintro e w5 ⟨Ai, ci, rfl, hoi, hb5⟩
    obtain ⟨il, hil⟩ : ∃ il, onV g.feeds fon p.feeds = il := ⟨_, rfl⟩
    have hfil : (nI p.feeds).filter (fun x => (fon[x.toNat]?).getD false) = nI il := by
      rw [← hil]; unfold nI onV; rw [List.filter_map]; rfl
    rw [hfil] at hoi ⊢
    have hnil : (nI il).length = il.length := by unfold nI; rw [List.length_map]
    rw [hnil] at hoi ⊢
    have HIL := Lib.hid hil
    have HILM := Lib.hid (show ∀ i ∈ il, i < nf from fun i hi => by rw [← hil] at hi; exact HPF.out i (List.mem_filter.1 hi).1)
    have HILN := Lib.hid (show il.length ≤ 1000 from by rw [← hil]; have := List.length_filter_le (fun i => (fon[i]?).getD false) p.feeds; have := HN3.out; unfold onV; omega)
    have HOI := Lib.hid (show ∀ wx, Below w5.heap.size w5 wx → Own wx w'.heap.size 3 1 fI (.slice Ai il.length ci) (nI il) from fun wx h => hoi.below h (Nat.le_refl _))
    have HB5 := Lib.hid (HBW.out.trans (hb5.mono HBW.out.size))
    have HC5 := Lib.hid (HRC.out.below hb5 HRC.out.lt); have HT5 := Lib.hid (HRT.out.below hb5 HRT.out.lt)
    have HCT2 := Lib.hid (And.intro HRC.out.lt HRT.out.lt)
    have hil1 := HILN.out
    clear hoi hb5 hil hfil e0 e2
    go_wp2
    go_loopw [26] (fun s26 wr => ∃ (k : Nat) (so : Sc), k ≤ il.length ∧ s26 = .int .i64 (k : Int) ∧ Below W1.heap.size W1 wr ∧ (∀ j, j < w5.heap.size → j ≠ cb → wr.heap[j]? = w5.heap[j]?) ∧ w5.heap.size ≤ wr.heap.size ∧ Rw wr cb 134 #[.slice s1.A s1.n s1.c, .slice s2.A s2.n s2.c, .slice s3.A s3.n s3.c, .slice so.A so.n so.c, .slice (some ⟨tb, 0, none⟩) s1.n s1.n] ∧ Own wr w5.heap.size 58 4 fFv so.v ((il.take k).map (fvAt g.feeds)) ∧ so.n = k) (fun s26 _ => il.length - (intOf s26).toNat)
    case atStart => exact ⟨0, ⟨none, 0, 0⟩, Nat.zero_le _, rfl, HB5.out, fun _ _ _ => rfl, Nat.le_refl _, HC5.out, Own.nil _ _ _ _ _, rfl⟩
    case round =>
      obtain ⟨k, so, hk, rfl, hbr, hbl, hsz, hrc, hoo, hson⟩ := hrel
      have hz := HZ1.out
      have hbrs := hbr.size
      have HBR := Lib.hid hbr; have HBLK := Lib.hid hbl; have HSZ := Lib.hid hsz; have HRC2 := Lib.hid hrc; have HOO := Lib.hid hoo; have HSO := Lib.hid hson
      by_cases hkn : k < il.length
      · have hkI : (k : Int) < (il.length : Int) := by omega
        have hk0 : (0 : Int) ≤ (k : Int) := by omega
        have hoi := (HOI.out _ (Below.refl _ _)).of_blocks (w' := wr) (fun j hj => hbl j (((HOI.out _ (Below.refl _ _)).lt j hj).2) (by have := ((HOI.out _ (Below.refl _ _)).lt j hj).1; have := HCT2.out.1; omega))
        obtain ⟨b, o, hA, gb, c0⟩ := int_at (hoi.sl fI_len (A := Ai) (c := ci) (by rw [hnil])) (i := k) (by rw [hnil]; exact hkn)
        subst hA
        obtain ⟨q1, q2, q3, q4⟩ := HQ.out _ hbr
        obtain ⟨a1, a2, a3, a4, a5⟩ := HA.out _ hbr
        obtain ⟨i, hi⟩ : ∃ i, il[k] = i := ⟨_, rfl⟩
        have hci : (nI il)[k]'(by rw [hnil]; exact hkn) = (i : Int) := by unfold nI; rw [List.getElem_map, hi]
        rw [hci] at c0
        have hif : i < nf := HILM.out i (by rw [← hi]; exact List.getElem_mem hkn)
        have hig : i < g.feeds.length := by have := a1.fl; omega
        obtain ⟨b2, o2, rfl, gb2, d0, d1, d2, d3⟩ := feed_at a1.fs hig
        obtain ⟨x, hx⟩ : ∃ x, g.feeds[i] = x := ⟨_, rfl⟩
        rw [hx] at d0 d1 d2 d3
        have HNX := Lib.hid (show (il.take (k + 1)).map (fvAt g.feeds) = (il.take k).map (fvAt g.feeds) ++ [x] from by
          rw [List.take_succ_eq_append_getElem hkn, List.map_append, hi]; congr 1; simp [fvAt, List.getElem?_eq_getElem hig, hx])
        have hiI : (i : Int) < (nf : Int) := by omega
        have hi0 : (0 : Int) ≤ (i : Int) := by omega
        have r0 := hrc.cell 0; have r3 := hrc.cell 3; have r3f := hrc.frozen 3; have e2 := q1.cell 2
        have HK := Lib.hid hkn
        have HOL := Lib.hid (show ((il.take k).map (fvAt g.feeds)).length ≤ 1000 from by rw [List.length_map]; have := List.length_take_le k il; omega)
        obtain ⟨i6, hi6, hz6, hs6, hy6⟩ := info_parts info58
        have HRS := Lib.hid (show ∀ wx, Below w5.heap.size wr wx → Rw wx cb 134 #[.slice s1.A s1.n s1.c, .slice s2.A s2.n s2.c, .slice s3.A s3.n s3.c, .slice so.A so.n so.c, .slice (some ⟨tb, 0, none⟩) s1.n s1.n] ∧ Rw wx w.heap.size 25 #[.int .i64 (N : Int), .slice Aw nw cw, .slice (some ⟨b2, o2, none⟩) nf cf, .int .i64 g.least] ∧ wx.cell? ⟨b2, o2 + i * 4, none⟩ = some (.int .i64 x.pl) ∧ wx.cell? ⟨b2, o2 + i * 4 + 1, none⟩ = some (.int .i64 x.volts) ∧ wx.cell? ⟨b2, o2 + i * 4 + 2, none⟩ = some (.int .i64 x.siem) ∧ wx.cell? ⟨b2, o2 + i * 4 + 3, none⟩ = some (.int .i64 x.limit) from fun wx h => by
          have h1 := HC5.out.lt
          have h2 := HCT.out.1
          have hz := HZ1.out
          have hc : ∀ (q : Addr), q.block < w5.heap.size → wx.cell? q = wr.cell? q := fun q hq => h.cell hq
          refine ⟨hrc.below h h1, q1.below h (by omega), ?_, ?_, ?_, ?_⟩
          · rw [hc _ (by show b2 < _; omega)]; exact d0
          · rw [hc _ (by show b2 < _; omega)]; exact d1
          · rw [hc _ (by show b2 < _; omega)]; exact d2
          · rw [hc _ (by show b2 < _; omega)]; exact d3)
        have HBD := Lib.hid hsz; have HNE := Lib.hid (show w.heap.size < cb ∧ b2 < cb from by have := HCT.out.1; have := HZ1.out; omega)
        have HLN := HOL
        clear hbr hbl hsz hrc hoo hoi q1 q2 q3 q4 a1 a2 a3 a4 a5 hi hci hig hx gb gb2 hkn hif hson
        go_upto_region 5 with (fail)
        have hbq : Below (w5.heap.size) wr wr.drew := (Below.refl _ _).drew
        have ho0 := HOO.out
        have HS := Lib.hid (show (fun wx => (∃ v, Rw wx (cb) 134 #[.slice s1.A s1.n s1.c, .slice s2.A s2.n s2.c, .slice s3.A s3.n s3.c, v, .slice (some ⟨tb, 0, none⟩) s1.n s1.n]) ∧ Rw wx (w.heap.size) 25 #[.int .i64 (N : Int), .slice Aw nw cw, .slice (some ⟨b2, o2, none⟩) nf cf, .int .i64 g.least] ∧ wx.cell? ⟨b2, o2 + i * 4, none⟩ = some (.int .i64 x.pl) ∧ wx.cell? ⟨b2, o2 + i * 4 + 1, none⟩ = some (.int .i64 x.volts) ∧ wx.cell? ⟨b2, o2 + i * 4 + 2, none⟩ = some (.int .i64 x.siem) ∧ wx.cell? ⟨b2, o2 + i * 4 + 3, none⟩ = some (.int .i64 x.limit)) wr.drew from ⟨⟨_, (HRS.out _ hbq).1⟩, (HRS.out _ hbq).2.1, (HRS.out _ hbq).2.2.1, (HRS.out _ hbq).2.2.2.1, (HRS.out _ hbq).2.2.2.2.1, (HRS.out _ hbq).2.2.2.2.2⟩)
        refine wp_region_noPanic ?_
        refine wp_region_held_drew (S := fun wx => (∃ v, Rw wx (cb) 134 #[.slice s1.A s1.n s1.c, .slice s2.A s2.n s2.c, .slice s3.A s3.n s3.c, v, .slice (some ⟨tb, 0, none⟩) s1.n s1.n]) ∧ Rw wx (w.heap.size) 25 #[.int .i64 (N : Int), .slice Aw nw cw, .slice (some ⟨b2, o2, none⟩) nf cf, .int .i64 g.least] ∧ wx.cell? ⟨b2, o2 + i * 4, none⟩ = some (.int .i64 x.pl) ∧ wx.cell? ⟨b2, o2 + i * 4 + 1, none⟩ = some (.int .i64 x.volts) ∧ wx.cell? ⟨b2, o2 + i * 4 + 2, none⟩ = some (.int .i64 x.siem) ∧ wx.cell? ⟨b2, o2 + i * 4 + 3, none⟩ = some (.int .i64 x.limit)) (by kernel_rfl) HS.out (fun _ => ?_)
        obtain ⟨wd, hwd⟩ : ∃ z, wr.drew = z := ⟨_, rfl⟩
        replace ho0 := ho0.drewN 1
        rw [show wr.drewN 1 = wd from hwd] at ho0
        rw [hwd] at hbq HS ⊢
        clear hwd
        refine hTk (i := 0) (d := 30) (v := .pointer (some ⟨cb, 3, none⟩)) rfl rfl (Or.inl ⟨rfl, by rintro W' ⟨⟨u0, s0⟩, r0, r1, r2, r3, r4⟩; have sy := s0.cell; have ry0 := r0.cell; go_simp⟩) HS.out ?_
        simp only [Act.put, sB, sZ, sS]
        refine hTk (i := 2) (d := 32) (v := .pointer (some ⟨w.heap.size, 2, none⟩)) rfl rfl (Or.inl ⟨rfl, by rintro W' ⟨⟨u0, s0⟩, r0, r1, r2, r3, r4⟩; have sy := s0.cell; have ry0 := r0.cell; go_simp⟩) HS.out ?_
        simp only [Act.put, sB, sZ, sS]
        refine hTk (i := 3) (d := 33) (v := .slice (some ⟨b2, o2, none⟩) nf cf) rfl rfl (Or.inl ⟨rfl, by rintro W' ⟨⟨u0, s0⟩, r0, r1, r2, r3, r4⟩; have sy := s0.cell; have ry0 := r0.cell; go_simp⟩) HS.out ?_
        simp only [Act.put, sB, sZ, sS]
        refine hTk (i := 4) (d := 34) (v := .int .i64 (i : Int)) rfl rfl (Or.inl ⟨rfl, by rintro W' ⟨⟨u0, s0⟩, r0, r1, r2, r3, r4⟩; have sy := s0.cell; have ry0 := r0.cell; go_simp⟩) HS.out ?_
        simp only [Act.put, sB, sZ, sS]
        refine hTk (i := 5) (d := 35) (v := .pointer (some ⟨b2, o2 + i * 4, none⟩)) rfl rfl (Or.inl ⟨rfl, by rintro W' ⟨⟨u0, s0⟩, r0, r1, r2, r3, r4⟩; have sy := s0.cell; have ry0 := r0.cell; go_simp⟩) HS.out ?_
        simp only [Act.put, sB, sZ, sS]
        refine hTk (i := 6) (d := 36) (v := .agg #[.int .i64 x.pl, .int .i64 x.volts, .int .i64 x.siem, .int .i64 x.limit]) rfl rfl (Or.inl ⟨rfl, by rintro W' ⟨⟨u0, s0⟩, r0, r1, r2, r3, r4⟩; have sy := s0.cell; have ry0 := r0.cell; go_simp⟩) HS.out ?_
        simp only [Act.put, sB, sZ, sS]
        refine wpAnyH_ready (rs := [1, 7]) (by kernel_rfl) (by simp) ?_
        refine AllReadyH.cons rfl (fun K hK => ?_) (AllReadyH.cons rfl (fun K hK => ?_) AllReadyH.nil)
        · rw [if_pos (by rfl)]
          have hx := (HRS.out _ hbq).1.cell
          go_simp
          clear hx
          have HS := Lib.hid (show (fun wx => (∃ v, Rw wx (cb) 134 #[.slice s1.A s1.n s1.c, .slice s2.A s2.n s2.c, .slice s3.A s3.n s3.c, v, .slice (some ⟨tb, 0, none⟩) s1.n s1.n]) ∧ Rw wx (w.heap.size) 25 #[.int .i64 (N : Int), .slice Aw nw cw, .slice (some ⟨b2, o2, none⟩) nf cf, .int .i64 g.least] ∧ wx.cell? ⟨b2, o2 + i * 4, none⟩ = some (.int .i64 x.pl) ∧ wx.cell? ⟨b2, o2 + i * 4 + 1, none⟩ = some (.int .i64 x.volts) ∧ wx.cell? ⟨b2, o2 + i * 4 + 2, none⟩ = some (.int .i64 x.siem) ∧ wx.cell? ⟨b2, o2 + i * 4 + 3, none⟩ = some (.int .i64 x.limit)) wd from ⟨⟨_, (HRS.out _ hbq).1⟩, (HRS.out _ hbq).2.1, (HRS.out _ hbq).2.2.1, (HRS.out _ hbq).2.2.2.1, (HRS.out _ hbq).2.2.2.2.1, (HRS.out _ hbq).2.2.2.2.2⟩)
          refine hK.out _ _ HS.out (fun _ => ?_)
          clear hK K
          try simp only [Act.put, sB, sZ, sS]
          refine wpAnyH_ready (rs := [7]) (by kernel_rfl) (by simp) ?_
          refine AllReadyH.cons rfl (fun K hK => ?_) AllReadyH.nil
          rw [if_pos (by rfl)]
          go_simp
          have hsn := Sl.new (f := fFv) (size := 4) wd 58 (x : Fv) #[.int .i64 x.pl, .int .i64 x.volts, .int .i64 x.siem, .int .i64 x.limit] rfl
          have hzw := hbq.size
          replace hbq := hbq.alloc (by have := HBD.out; omega) (.cells #[.int .i64 x.pl, .int .i64 x.volts, .int .i64 x.siem, .int .i64 x.limit] 58)
          obtain ⟨w13, hw13⟩ : ∃ z, wd.alloc (.cells #[.int .i64 x.pl, .int .i64 x.volts, .int .i64 x.siem, .int .i64 x.limit] 58) = z := ⟨_, rfl⟩
          have hgo := (show wd.grownBy w13 none from by rw [← hw13]; exact World.grownBy_alloc _ _ _)
          rw [hw13] at hsn hbq ⊢
          have ho13 := ho0.of_blocks (w' := w13) (fun k hk => hgo.block k (ho0.lt k hk).2 (by simp))
          clear hw13 hgo hzw
          have HS := Lib.hid (show (fun wx => (∃ v, Rw wx (cb) 134 #[.slice s1.A s1.n s1.c, .slice s2.A s2.n s2.c, .slice s3.A s3.n s3.c, v, .slice (some ⟨tb, 0, none⟩) s1.n s1.n]) ∧ Rw wx (w.heap.size) 25 #[.int .i64 (N : Int), .slice Aw nw cw, .slice (some ⟨b2, o2, none⟩) nf cf, .int .i64 g.least] ∧ wx.cell? ⟨b2, o2 + i * 4, none⟩ = some (.int .i64 x.pl) ∧ wx.cell? ⟨b2, o2 + i * 4 + 1, none⟩ = some (.int .i64 x.volts) ∧ wx.cell? ⟨b2, o2 + i * 4 + 2, none⟩ = some (.int .i64 x.siem) ∧ wx.cell? ⟨b2, o2 + i * 4 + 3, none⟩ = some (.int .i64 x.limit)) w13 from ⟨⟨_, (HRS.out _ hbq).1⟩, (HRS.out _ hbq).2.1, (HRS.out _ hbq).2.2.1, (HRS.out _ hbq).2.2.2.1, (HRS.out _ hbq).2.2.2.2.1, (HRS.out _ hbq).2.2.2.2.2⟩)
          refine hK.out _ _ HS.out (fun _ => ?_)
          clear hK K
          try simp only [Act.put, sB, sZ, sS]
          refine wpAnyH_ready (rs := [8]) (by kernel_rfl) (by simp) ?_
          refine AllReadyH.cons rfl (fun K hK => ?_) AllReadyH.nil
          rw [if_pos (by rfl)]
          refine wp_app _ (.tmp 31) (.tmp 37) _ rfl (w5.heap.size) 58 i6 _ 4 32 Tryz.underlying23 hi6 hz6 hs6 hy6 rfl (by omega) fFv_len fFv_one (.slice so.A so.n so.c) ((il.take k).map (fvAt g.feeds)) rfl ho13 _ _ [(x : Fv)] 1 rfl hsn (by have := HLN.out; unfold maxLen; simp only [List.length_cons, List.length_nil]; omega) (by have := HLN.out; simp only [List.length_cons, List.length_nil]; omega) (by have := HBD.out; have := hbq.size; omega) (fun _ => .inr ⟨_, rfl⟩) ?_
          intro v2 w14 o14 gr14 at14 ne14
          obtain ⟨Av, cv, hve, _, _, _⟩ := o14.form
          generalize hn2 : List.length (_ ++ [_]) = n2 at hve
          subst hve
          have hb14 := bGrown hbq gr14 (fun b hb => (ho13.lt b hb).1) (by have := HBD.out; have := hbq.size; omega)
          have hx := HRS.out w14 hb14
          have HS := Lib.hid (show (fun wx => (∃ v, Rw wx (cb) 134 #[.slice s1.A s1.n s1.c, .slice s2.A s2.n s2.c, .slice s3.A s3.n s3.c, v, .slice (some ⟨tb, 0, none⟩) s1.n s1.n]) ∧ Rw wx (w.heap.size) 25 #[.int .i64 (N : Int), .slice Aw nw cw, .slice (some ⟨b2, o2, none⟩) nf cf, .int .i64 g.least] ∧ wx.cell? ⟨b2, o2 + i * 4, none⟩ = some (.int .i64 x.pl) ∧ wx.cell? ⟨b2, o2 + i * 4 + 1, none⟩ = some (.int .i64 x.volts) ∧ wx.cell? ⟨b2, o2 + i * 4 + 2, none⟩ = some (.int .i64 x.siem) ∧ wx.cell? ⟨b2, o2 + i * 4 + 3, none⟩ = some (.int .i64 x.limit)) w14 from ⟨⟨_, (HRS.out _ hb14).1⟩, (HRS.out _ hb14).2.1, (HRS.out _ hb14).2.2.1, (HRS.out _ hb14).2.2.2.1, (HRS.out _ hb14).2.2.2.2.1, (HRS.out _ hb14).2.2.2.2.2⟩)
          have HX14 := Lib.hid hx
          refine hK.out _ _ HS.out (fun _ => ?_)
          clear hK K
          try simp only [Act.put, sB, sZ, sS]
          refine hTk (i := 9) (d := 39) (v := .pointer (some ⟨cb, 3, none⟩)) rfl rfl (Or.inl ⟨rfl, by rintro W' ⟨⟨u0, s0⟩, r0, r1, r2, r3, r4⟩; have sy := s0.cell; have ry0 := r0.cell; go_simp⟩) HS.out ?_
          simp only [Act.put, sB, sZ, sS]
          refine wpAnyH_ready (rs := [10]) (by kernel_rfl) (by simp) ?_
          refine AllReadyH.cons rfl (fun K hK => ?_) AllReadyH.nil
          rw [if_pos (by rfl)]
          have hx9 := HX14.out.1.cell; have hf9 := HX14.out.1.frozen
          go_simp
          clear hx9 hf9
          have t0 := HX14.out.1.set 3 (.slice Av n2 cv)
          have t1 := HX14.out.2.1.far (k := cb) 3 (.slice Av n2 cv) (by have := HNE.out; omega)
          have t2 : (w14.setCell ⟨cb, 3, none⟩ (.slice Av n2 cv)).cell? ⟨b2, o2 + i * 4, none⟩ = some (.int .i64 x.pl) := (World.cell?_of_block (a := ⟨b2, o2 + i * 4, none⟩) (Below.heap_setCell _ _ _ _ (by show b2 ≠ cb; have := HNE.out; omega))).trans HX14.out.2.2.1
          have t3 : (w14.setCell ⟨cb, 3, none⟩ (.slice Av n2 cv)).cell? ⟨b2, o2 + i * 4 + 1, none⟩ = some (.int .i64 x.volts) := (World.cell?_of_block (a := ⟨b2, o2 + i * 4 + 1, none⟩) (Below.heap_setCell _ _ _ _ (by show b2 ≠ cb; have := HNE.out; omega))).trans HX14.out.2.2.2.1
          have t4 : (w14.setCell ⟨cb, 3, none⟩ (.slice Av n2 cv)).cell? ⟨b2, o2 + i * 4 + 2, none⟩ = some (.int .i64 x.siem) := (World.cell?_of_block (a := ⟨b2, o2 + i * 4 + 2, none⟩) (Below.heap_setCell _ _ _ _ (by show b2 ≠ cb; have := HNE.out; omega))).trans HX14.out.2.2.2.2.1
          have t5 : (w14.setCell ⟨cb, 3, none⟩ (.slice Av n2 cv)).cell? ⟨b2, o2 + i * 4 + 3, none⟩ = some (.int .i64 x.limit) := (World.cell?_of_block (a := ⟨b2, o2 + i * 4 + 3, none⟩) (Below.heap_setCell _ _ _ _ (by show b2 ≠ cb; have := HNE.out; omega))).trans HX14.out.2.2.2.2.2
          have HS := Lib.hid (show (fun wx => (∃ v, Rw wx (cb) 134 #[.slice s1.A s1.n s1.c, .slice s2.A s2.n s2.c, .slice s3.A s3.n s3.c, v, .slice (some ⟨tb, 0, none⟩) s1.n s1.n]) ∧ Rw wx (w.heap.size) 25 #[.int .i64 (N : Int), .slice Aw nw cw, .slice (some ⟨b2, o2, none⟩) nf cf, .int .i64 g.least] ∧ wx.cell? ⟨b2, o2 + i * 4, none⟩ = some (.int .i64 x.pl) ∧ wx.cell? ⟨b2, o2 + i * 4 + 1, none⟩ = some (.int .i64 x.volts) ∧ wx.cell? ⟨b2, o2 + i * 4 + 2, none⟩ = some (.int .i64 x.siem) ∧ wx.cell? ⟨b2, o2 + i * 4 + 3, none⟩ = some (.int .i64 x.limit)) (w14.setCell ⟨cb, 3, none⟩ (.slice Av n2 cv)) from ⟨⟨_, t0⟩, t1, t2, t3, t4, t5⟩)
          have HR15 := Lib.hid t0
          clear t0 t1 t2 t3 t4 t5
          refine hK.out _ _ HS.out (fun _ => ?_)
          clear hK K
          try simp only [Act.put, sB, sZ, sS]
          refine wpAnyH_done (by kernel_rfl) ?_ _
          have HO14 := Lib.hid o14; have HB14 := Lib.hid hb14
          clear hbq HS hx HX14 o14 gr14 at14 ne14 hb14 ho0 ho13 hsn
          refine NoPanic.normal ?_
          have h1 := HC5.out.lt; have h2 := HCT.out.1
          have HX1 := Lib.hid (show Below W1.heap.size W1 (w14.setCell ⟨cb, 3, none⟩ (.slice Av n2 cv)) from (HBR.out.trans (HB14.out.mono (by have := HB5.out.size; omega))).setCell (p := ⟨cb, 3, none⟩) (by show W1.heap.size ≤ cb; omega) _)
          have HX2 := Lib.hid (show ∀ j, j < w5.heap.size → j ≠ cb → (w14.setCell ⟨cb, 3, none⟩ (.slice Av n2 cv)).heap[j]? = w5.heap[j]? from fun j hj hn => (Below.heap_setCell _ _ _ j hn).trans ((HB14.out.block j hj).trans (HBLK.out j hj hn)))
          have HX3 := Lib.hid (show w5.heap.size ≤ (w14.setCell ⟨cb, 3, none⟩ (.slice Av n2 cv)).heap.size from by rw [World.size_setCell]; have := HB14.out.size; have := HSZ.out; omega)
          have HX4 := Lib.hid (show Own (w14.setCell ⟨cb, 3, none⟩ (.slice Av n2 cv)) w5.heap.size 58 4 fFv (.slice Av n2 cv) ((il.take (k + 1)).map (fvAt g.feeds)) from by rw [HNX.out]; exact HO14.out.of_blocks (fun j hj => Below.heap_setCell _ _ _ j (by show j ≠ cb; have := (HO14.out.lt j hj).1; omega)))
          have HX5 := Lib.hid (show n2 = k + 1 from by rw [← hn2, List.length_append, List.length_map, List.length_take]; simp; have := HK.out; omega)
          clear h1 h2 hn2
          (try simp only [Exit.inBlock, Exit.then])
          go_wp2
          refine ⟨⟨k + 1, ⟨Av, n2, cv⟩, by have := HK.out; omega, by simp, HX1.out, HX2.out, HX3.out, HR15.out, HX4.out, HX5.out⟩, ?_⟩
          have := HK.out; simp [intOf] <;> omega
        · rw [if_pos (by rfl)]
          go_simp
          have hsn := Sl.new (f := fFv) (size := 4) wd 58 (x : Fv) #[.int .i64 x.pl, .int .i64 x.volts, .int .i64 x.siem, .int .i64 x.limit] rfl
          have hzw := hbq.size
          replace hbq := hbq.alloc (by have := HBD.out; omega) (.cells #[.int .i64 x.pl, .int .i64 x.volts, .int .i64 x.siem, .int .i64 x.limit] 58)
          obtain ⟨w13, hw13⟩ : ∃ z, wd.alloc (.cells #[.int .i64 x.pl, .int .i64 x.volts, .int .i64 x.siem, .int .i64 x.limit] 58) = z := ⟨_, rfl⟩
          have hgo := (show wd.grownBy w13 none from by rw [← hw13]; exact World.grownBy_alloc _ _ _)
          rw [hw13] at hsn hbq ⊢
          have ho13 := ho0.of_blocks (w' := w13) (fun k hk => hgo.block k (ho0.lt k hk).2 (by simp))
          clear hw13 hgo hzw
          have HS := Lib.hid (show (fun wx => (∃ v, Rw wx (cb) 134 #[.slice s1.A s1.n s1.c, .slice s2.A s2.n s2.c, .slice s3.A s3.n s3.c, v, .slice (some ⟨tb, 0, none⟩) s1.n s1.n]) ∧ Rw wx (w.heap.size) 25 #[.int .i64 (N : Int), .slice Aw nw cw, .slice (some ⟨b2, o2, none⟩) nf cf, .int .i64 g.least] ∧ wx.cell? ⟨b2, o2 + i * 4, none⟩ = some (.int .i64 x.pl) ∧ wx.cell? ⟨b2, o2 + i * 4 + 1, none⟩ = some (.int .i64 x.volts) ∧ wx.cell? ⟨b2, o2 + i * 4 + 2, none⟩ = some (.int .i64 x.siem) ∧ wx.cell? ⟨b2, o2 + i * 4 + 3, none⟩ = some (.int .i64 x.limit)) w13 from ⟨⟨_, (HRS.out _ hbq).1⟩, (HRS.out _ hbq).2.1, (HRS.out _ hbq).2.2.1, (HRS.out _ hbq).2.2.2.1, (HRS.out _ hbq).2.2.2.2.1, (HRS.out _ hbq).2.2.2.2.2⟩)
          refine hK.out _ _ HS.out (fun _ => ?_)
          clear hK K
          try simp only [Act.put, sB, sZ, sS]
          refine wpAnyH_ready (rs := [1]) (by kernel_rfl) (by simp) ?_
          refine AllReadyH.cons rfl (fun K hK => ?_) AllReadyH.nil
          rw [if_pos (by rfl)]
          have hx := (HRS.out _ hbq).1.cell
          go_simp
          clear hx
          have HS := Lib.hid (show (fun wx => (∃ v, Rw wx (cb) 134 #[.slice s1.A s1.n s1.c, .slice s2.A s2.n s2.c, .slice s3.A s3.n s3.c, v, .slice (some ⟨tb, 0, none⟩) s1.n s1.n]) ∧ Rw wx (w.heap.size) 25 #[.int .i64 (N : Int), .slice Aw nw cw, .slice (some ⟨b2, o2, none⟩) nf cf, .int .i64 g.least] ∧ wx.cell? ⟨b2, o2 + i * 4, none⟩ = some (.int .i64 x.pl) ∧ wx.cell? ⟨b2, o2 + i * 4 + 1, none⟩ = some (.int .i64 x.volts) ∧ wx.cell? ⟨b2, o2 + i * 4 + 2, none⟩ = some (.int .i64 x.siem) ∧ wx.cell? ⟨b2, o2 + i * 4 + 3, none⟩ = some (.int .i64 x.limit)) w13 from ⟨⟨_, (HRS.out _ hbq).1⟩, (HRS.out _ hbq).2.1, (HRS.out _ hbq).2.2.1, (HRS.out _ hbq).2.2.2.1, (HRS.out _ hbq).2.2.2.2.1, (HRS.out _ hbq).2.2.2.2.2⟩)
          refine hK.out _ _ HS.out (fun _ => ?_)
          clear hK K
          try simp only [Act.put, sB, sZ, sS]
          refine wpAnyH_ready (rs := [8]) (by kernel_rfl) (by simp) ?_
          refine AllReadyH.cons rfl (fun K hK => ?_) AllReadyH.nil
          rw [if_pos (by rfl)]
          refine wp_app _ (.tmp 31) (.tmp 37) _ rfl (w5.heap.size) 58 i6 _ 4 32 Tryz.underlying23 hi6 hz6 hs6 hy6 rfl (by omega) fFv_len fFv_one (.slice so.A so.n so.c) ((il.take k).map (fvAt g.feeds)) rfl ho13 _ _ [(x : Fv)] 1 rfl hsn (by have := HLN.out; unfold maxLen; simp only [List.length_cons, List.length_nil]; omega) (by have := HLN.out; simp only [List.length_cons, List.length_nil]; omega) (by have := HBD.out; have := hbq.size; omega) (fun _ => .inr ⟨_, rfl⟩) ?_
          intro v2 w14 o14 gr14 at14 ne14
          obtain ⟨Av, cv, hve, _, _, _⟩ := o14.form
          generalize hn2 : List.length (_ ++ [_]) = n2 at hve
          subst hve
          have hb14 := bGrown hbq gr14 (fun b hb => (ho13.lt b hb).1) (by have := HBD.out; have := hbq.size; omega)
          have hx := HRS.out w14 hb14
          have HS := Lib.hid (show (fun wx => (∃ v, Rw wx (cb) 134 #[.slice s1.A s1.n s1.c, .slice s2.A s2.n s2.c, .slice s3.A s3.n s3.c, v, .slice (some ⟨tb, 0, none⟩) s1.n s1.n]) ∧ Rw wx (w.heap.size) 25 #[.int .i64 (N : Int), .slice Aw nw cw, .slice (some ⟨b2, o2, none⟩) nf cf, .int .i64 g.least] ∧ wx.cell? ⟨b2, o2 + i * 4, none⟩ = some (.int .i64 x.pl) ∧ wx.cell? ⟨b2, o2 + i * 4 + 1, none⟩ = some (.int .i64 x.volts) ∧ wx.cell? ⟨b2, o2 + i * 4 + 2, none⟩ = some (.int .i64 x.siem) ∧ wx.cell? ⟨b2, o2 + i * 4 + 3, none⟩ = some (.int .i64 x.limit)) w14 from ⟨⟨_, (HRS.out _ hb14).1⟩, (HRS.out _ hb14).2.1, (HRS.out _ hb14).2.2.1, (HRS.out _ hb14).2.2.2.1, (HRS.out _ hb14).2.2.2.2.1, (HRS.out _ hb14).2.2.2.2.2⟩)
          have HX14 := Lib.hid hx
          refine hK.out _ _ HS.out (fun _ => ?_)
          clear hK K
          try simp only [Act.put, sB, sZ, sS]
          refine hTk (i := 9) (d := 39) (v := .pointer (some ⟨cb, 3, none⟩)) rfl rfl (Or.inl ⟨rfl, by rintro W' ⟨⟨u0, s0⟩, r0, r1, r2, r3, r4⟩; have sy := s0.cell; have ry0 := r0.cell; go_simp⟩) HS.out ?_
          simp only [Act.put, sB, sZ, sS]
          refine wpAnyH_ready (rs := [10]) (by kernel_rfl) (by simp) ?_
          refine AllReadyH.cons rfl (fun K hK => ?_) AllReadyH.nil
          rw [if_pos (by rfl)]
          have hx9 := HX14.out.1.cell; have hf9 := HX14.out.1.frozen
          go_simp
          clear hx9 hf9
          have t0 := HX14.out.1.set 3 (.slice Av n2 cv)
          have t1 := HX14.out.2.1.far (k := cb) 3 (.slice Av n2 cv) (by have := HNE.out; omega)
          have t2 : (w14.setCell ⟨cb, 3, none⟩ (.slice Av n2 cv)).cell? ⟨b2, o2 + i * 4, none⟩ = some (.int .i64 x.pl) := (World.cell?_of_block (a := ⟨b2, o2 + i * 4, none⟩) (Below.heap_setCell _ _ _ _ (by show b2 ≠ cb; have := HNE.out; omega))).trans HX14.out.2.2.1
          have t3 : (w14.setCell ⟨cb, 3, none⟩ (.slice Av n2 cv)).cell? ⟨b2, o2 + i * 4 + 1, none⟩ = some (.int .i64 x.volts) := (World.cell?_of_block (a := ⟨b2, o2 + i * 4 + 1, none⟩) (Below.heap_setCell _ _ _ _ (by show b2 ≠ cb; have := HNE.out; omega))).trans HX14.out.2.2.2.1
          have t4 : (w14.setCell ⟨cb, 3, none⟩ (.slice Av n2 cv)).cell? ⟨b2, o2 + i * 4 + 2, none⟩ = some (.int .i64 x.siem) := (World.cell?_of_block (a := ⟨b2, o2 + i * 4 + 2, none⟩) (Below.heap_setCell _ _ _ _ (by show b2 ≠ cb; have := HNE.out; omega))).trans HX14.out.2.2.2.2.1
          have t5 : (w14.setCell ⟨cb, 3, none⟩ (.slice Av n2 cv)).cell? ⟨b2, o2 + i * 4 + 3, none⟩ = some (.int .i64 x.limit) := (World.cell?_of_block (a := ⟨b2, o2 + i * 4 + 3, none⟩) (Below.heap_setCell _ _ _ _ (by show b2 ≠ cb; have := HNE.out; omega))).trans HX14.out.2.2.2.2.2
          have HS := Lib.hid (show (fun wx => (∃ v, Rw wx (cb) 134 #[.slice s1.A s1.n s1.c, .slice s2.A s2.n s2.c, .slice s3.A s3.n s3.c, v, .slice (some ⟨tb, 0, none⟩) s1.n s1.n]) ∧ Rw wx (w.heap.size) 25 #[.int .i64 (N : Int), .slice Aw nw cw, .slice (some ⟨b2, o2, none⟩) nf cf, .int .i64 g.least] ∧ wx.cell? ⟨b2, o2 + i * 4, none⟩ = some (.int .i64 x.pl) ∧ wx.cell? ⟨b2, o2 + i * 4 + 1, none⟩ = some (.int .i64 x.volts) ∧ wx.cell? ⟨b2, o2 + i * 4 + 2, none⟩ = some (.int .i64 x.siem) ∧ wx.cell? ⟨b2, o2 + i * 4 + 3, none⟩ = some (.int .i64 x.limit)) (w14.setCell ⟨cb, 3, none⟩ (.slice Av n2 cv)) from ⟨⟨_, t0⟩, t1, t2, t3, t4, t5⟩)
          have HR15 := Lib.hid t0
          clear t0 t1 t2 t3 t4 t5
          refine hK.out _ _ HS.out (fun _ => ?_)
          clear hK K
          try simp only [Act.put, sB, sZ, sS]
          refine wpAnyH_done (by kernel_rfl) ?_ _
          have HO14 := Lib.hid o14; have HB14 := Lib.hid hb14
          clear hbq HS hx HX14 o14 gr14 at14 ne14 hb14 ho0 ho13 hsn
          refine NoPanic.normal ?_
          have h1 := HC5.out.lt; have h2 := HCT.out.1
          have HX1 := Lib.hid (show Below W1.heap.size W1 (w14.setCell ⟨cb, 3, none⟩ (.slice Av n2 cv)) from (HBR.out.trans (HB14.out.mono (by have := HB5.out.size; omega))).setCell (p := ⟨cb, 3, none⟩) (by show W1.heap.size ≤ cb; omega) _)
          have HX2 := Lib.hid (show ∀ j, j < w5.heap.size → j ≠ cb → (w14.setCell ⟨cb, 3, none⟩ (.slice Av n2 cv)).heap[j]? = w5.heap[j]? from fun j hj hn => (Below.heap_setCell _ _ _ j hn).trans ((HB14.out.block j hj).trans (HBLK.out j hj hn)))
          have HX3 := Lib.hid (show w5.heap.size ≤ (w14.setCell ⟨cb, 3, none⟩ (.slice Av n2 cv)).heap.size from by rw [World.size_setCell]; have := HB14.out.size; have := HSZ.out; omega)
          have HX4 := Lib.hid (show Own (w14.setCell ⟨cb, 3, none⟩ (.slice Av n2 cv)) w5.heap.size 58 4 fFv (.slice Av n2 cv) ((il.take (k + 1)).map (fvAt g.feeds)) from by rw [HNX.out]; exact HO14.out.of_blocks (fun j hj => Below.heap_setCell _ _ _ j (by show j ≠ cb; have := (HO14.out.lt j hj).1; omega)))
          have HX5 := Lib.hid (show n2 = k + 1 from by rw [← hn2, List.length_append, List.length_map, List.length_take]; simp; have := HK.out; omega)
          clear h1 h2 hn2
          (try simp only [Exit.inBlock, Exit.then])
          go_wp2
          refine ⟨⟨k + 1, ⟨Av, n2, cv⟩, by have := HK.out; omega, by simp, HX1.out, HX2.out, HX3.out, HR15.out, HX4.out, HX5.out⟩, ?_⟩
          have := HK.out; simp [intOf] <;> omega
      · have hkI : ¬ (k : Int) < (il.length : Int) := by omega
        have hke : k = il.length := by omega
        subst hke
        have HON := Lib.hid (show Own wr w5.heap.size 58 4 fFv so.v (cirV g fon p ls).on from by unfold cirV; rw [HIL.out]; have := hoo; rwa [List.take_length] at this)
        have HOSN := Lib.hid (show so.n = (cirV g fon p ls).on.length from by unfold cirV; rw [HIL.out, hson]; simp)
        have HT6 := Lib.hid (show Rf wr tb 3 s1.n (fun j => .int .i64 (tkF p.nodes (ls.take 0) j)) from by
          have h := (hbl tb HT5.out.lt (Ne.symm HNE.out))
          exact h.trans HT5.out)
        obtain ⟨W6, hW6⟩ : ∃ z, wr = z := ⟨_, rfl⟩
        subst hW6
        have HLM := Lib.hid hlm
        clear hbr hbl hsz hrc hoo hson hkI hkn hk HOO
        go_wp2
        go_loopw [43] (fun s43 wq => ∃ (k : Nat), k ≤ nl ∧ s43 = .int .i64 (k : Int) ∧ Below W1.heap.size W1 wq ∧ Rw wq cb 134 #[.slice s1.A s1.n s1.c, .slice s2.A s2.n s2.c, .slice s3.A s3.n s3.c, .slice so.A so.n so.c, .slice (some ⟨tb, 0, none⟩) s1.n s1.n] ∧ Rf wq tb 3 s1.n (fun j => .int .i64 (tkF p.nodes (ls.take k) j)) ∧ Own wq w5.heap.size 58 4 fFv so.v (cirV g fon p ls).on ∧ w5.heap.size ≤ wq.heap.size) (fun s43 _ => nl - (intOf s43).toNat)
        case atStart => exact ⟨0, Nat.zero_le _, rfl, HBR.out, HRC2.out, HT6.out, HON.out, HSZ.out⟩
        case round =>
          obtain ⟨k, hk, rfl, hbr, hrc, hrt, hon, hsz⟩ := hrel
          have HBR7 := Lib.hid hbr; have HRC7 := Lib.hid hrc; have HRT7 := Lib.hid hrt; have HON7 := Lib.hid hon; have HSZ7 := Lib.hid hsz
          have hz := HZ1.out
          by_cases hkn : k < nl
          · have hkI : (k : Int) < (nl : Int) := by omega
            have hk0 : (0 : Int) ≤ (k : Int) := by omega
            have hkl : k < ls.length := by have := HLL.out; omega
            have hbrs := hbr.size
            obtain ⟨a1, a2, a3, a4, a5⟩ := HA.out _ hbr
            obtain ⟨b, o, rfl, gb, c0, c1, c2⟩ := load_at a3 hkl
            obtain ⟨x, hx⟩ : ∃ x, ls[k] = x := ⟨_, rfl⟩
            rw [hx] at c0 c1 c2
            have HTS := Lib.hid (show tkF p.nodes (ls.take (k + 1)) = tkStep p.nodes (tkF p.nodes (ls.take k)) x from by rw [tkF_succ hkl, hx])
            have hb3 := (Below.refl wr.heap.size wr).alloc (Nat.le_refl _) (.cells #[.int .i64 x.pl, .int .i64 x.units, .int .i64 x.rank] 79)
            have q3 := Rw.new wr #[.int .i64 x.pl, .int .i64 x.units, .int .i64 x.rank] 79
            have hb7 := hbr.trans (hb3.mono hbr.size)
            have hlt := hrc.lt; have hlt2 := hrt.lt
            have hrc8 := hrc.below hb3 hlt; have hrt8 := hrt.below hb3 hlt2; have hon8 := hon.below hb3 (Nat.le_refl _)
            obtain ⟨W7, hW7⟩ : ∃ z, wr.alloc (.cells #[.int .i64 x.pl, .int .i64 x.units, .int .i64 x.rank] 79) = z := ⟨_, rfl⟩
            rw [hW7] at hb3 q3 hb7 hrc8 hrt8 hon8
            have HB7 := Lib.hid hb7; have HQ7 := Lib.hid q3; have HR7 := Lib.hid hrc8; have HT7 := Lib.hid hrt8; have HO7 := Lib.hid hon8; have HBB := Lib.hid hb3
            have HCI := Lib.hid (cindex_any s1 s2 s3 so ⟨some ⟨tb, 0, none⟩, s1.n, s1.n⟩ p.nodes x.pl W7 HN1.out (by omega) ((HA.out _ hb7).2.2.2.1.more (fun _ _ h => h) (by have := hb7.size; omega)))
            have m0 := hrc8.cell 0; have m1 := hrc8.cell 1; have m2 := hrc8.cell 2; have m3 := hrc8.cell 3; have m4 := hrc8.cell 4
            have w0 := q3.cell 0; have w1 := q3.cell 1
            have HK := Lib.hid hkn; have HM37 := Lib.hid (show tb < wr.heap.size ∧ cb < wr.heap.size from ⟨hlt2, hlt⟩)
            have HQN := Lib.hid (show ∀ wx, Below W7.heap.size W7 wx → Rw wx wr.heap.size 79 #[.int .i64 x.pl, .int .i64 x.units, .int .i64 x.rank] from fun wx h => q3.below h q3.lt)
            clear hb3 q3 hb7 hrc8 hrt8 hon8 hbr hrc hrt hon hsz hx hkl a1 a2 a3 a4 a5 gb hkn hlt hlt2
            go_wp2_with fail
            (with_reducible refine (HCI.out).mono ?_)
            rintro e w8 ⟨rfl, hb8⟩
            have HB8 := Lib.hid (HB7.out.trans (hb8.mono HB7.out.size))
            have HR8 := Lib.hid (HR7.out.below hb8 HR7.out.lt); have HT8 := Lib.hid (HT7.out.below hb8 HT7.out.lt); have HO8 := Lib.hid (HO7.out.below hb8 (Nat.le_refl _))
            have q8 := HQN.out _ hb8
            have HZ8 := Lib.hid (show w5.heap.size ≤ w8.heap.size from by have := HSZ7.out; have := HBB.out.size; have := hb8.size; omega)
            clear m0 m1 m2 m3 m4 w0 w1 hb8
            have m4 := HR8.out.cell 4; have w1 := q8.cell 1
            clear q8
            by_cases hm : x.pl ∈ nI p.nodes
            · have hix : ixI (nI p.nodes) x.pl = ((nI p.nodes).idxOf x.pl : Int) := by unfold ixI; rw [if_pos hm]
              rw [hix]
              have hid := List.idxOf_lt_length_iff.2 hm
              obtain ⟨j, hj⟩ : ∃ j, (nI p.nodes).idxOf x.pl = j := ⟨_, rfl⟩
              rw [hj] at hid ⊢
              have hjn : j < s1.n := by have := HN1.out; unfold nI at hid; rw [List.length_map] at hid; omega
              have t4 := HT8.out.cell hjn; have tf := HT8.out.frozen j
              have hjI : (j : Int) < (s1.n : Int) := by omega
              have hj0 : (0 : Int) ≤ (j : Int) := by omega
              have HEND := Lib.hid ((HT8.out.set j (.int .i64 x.units)).congr (f' := fun i => .int .i64 (tkF p.nodes (ls.take (k + 1)) i)) (fun i _ => by
                rw [HTS.out]; unfold tkStep
                by_cases e : i = j
                · rw [if_pos e, if_pos ⟨hm, hj.trans e.symm⟩]
                · rw [if_neg e, if_neg (fun h => e (h.2.symm.trans hj))]))
              have HB9 := Lib.hid (HB8.out.setCell (p := ⟨tb, j, none⟩) (by have := HCT.out.2; show W1.heap.size ≤ tb; omega) (.int .i64 x.units))
              have HR9 := Lib.hid (HR8.out.far (k := tb) j (.int .i64 x.units) HNE.out)
              have HO9 := Lib.hid (HO8.out.of_blocks (w' := w8.setCell ⟨tb, j, none⟩ (.int .i64 x.units)) (fun i hi => Below.heap_setCell _ _ _ i (by show i ≠ tb; have := (HO8.out.lt i hi).1; have := HT5.out.lt; omega)))
              clear hix hm hid hj hjn
              go_wp2
              go_roundw
              case rel => exact ⟨k + 1, by have := HK.out; omega, by simp, HB9.out, HR9.out, HEND.out, HO9.out, by rw [World.size_setCell]; exact HZ8.out⟩
              case measure => have := HK.out; simp [intOf] <;> omega
            · have hix : ixI (nI p.nodes) x.pl = -1 := by unfold ixI; rw [if_neg hm]
              rw [hix]
              have HEND := Lib.hid (HT8.out.congr (f' := fun i => .int .i64 (tkF p.nodes (ls.take (k + 1)) i)) (fun i _ => by
                rw [HTS.out]; unfold tkStep; rw [if_neg (fun h => hm h.1)]))
              clear hix hm
              go_wp2
              go_roundw
              case rel => exact ⟨k + 1, by have := HK.out; omega, by simp, HB8.out, HR8.out, HEND.out, HO8.out, HZ8.out⟩
              case measure => have := HK.out; simp [intOf] <;> omega
          · have hkI : ¬ (k : Int) < (nl : Int) := by omega
            have hke : k = nl := by omega
            subst hke
            have htk : ls.take k = ls := List.take_of_length_le (by have := HLL.out; omega)
            rw [htk] at hrt
            have HRTE := Lib.hid hrt
            obtain ⟨q1, q2, q3, q4⟩ := HQ.out _ hbr
            have m := hrc.cell; have z := q4.cell; have zf := q4.frozen
            clear hbr hrc hrt hon hsz hkI hkn hk htk q1 q2 q3 q4
            go_wp2
            (try simp only [Exit.inBlock, Exit.then])
            have hz4 : w.heap.size + 1 + 1 + 1 = w.heap.size + 3 := by omega
            rw [hz4]
            have hcz := HCT.out
            have HS5 := set5 (w := wr) (k := w.heap.size + 3) (v0 := .slice s1.A s1.n s1.c) (v1 := .slice s2.A s2.n s2.c) (v2 := .slice s3.A s3.n s3.c) (v3 := .slice so.A so.n so.c) (v4 := .slice (some ⟨tb, 0, none⟩) s1.n s1.n)
            obtain ⟨W9, hW9⟩ : ∃ z, ((((wr.setCell ⟨w.heap.size + 3, 0, none⟩ (.slice s1.A s1.n s1.c)).setCell ⟨w.heap.size + 3, 1, none⟩ (.slice s2.A s2.n s2.c)).setCell ⟨w.heap.size + 3, 2, none⟩ (.slice s3.A s3.n s3.c)).setCell ⟨w.heap.size + 3, 3, none⟩ (.slice so.A so.n so.c)).setCell ⟨w.heap.size + 3, 4, none⟩ (.slice (some ⟨tb, 0, none⟩) s1.n s1.n) = z := ⟨_, rfl⟩
            rw [hW9] at HS5 ⊢
            refine bodyPost_ret (res_c rfl _ _ (w.heap.size + 3) 134 _ _ rfl (HS5.1 _ _ _ _ _ _ (HQ.out _ HBR7.out).2.2.2) Tryz.underlying134 rfl rfl) rfl ?_
            refine ⟨so, ⟨some ⟨tb, 0, none⟩, s1.n, s1.n⟩, rfl, (HON7.out.of_blocks (fun j hj => HS5.2.1 j (by have := (HON7.out.lt j hj).1; have := HB5.out.size; omega))).lower (by have := HB5.out.size; omega), HOSN.out, ⟨tb, rfl, by omega, (HS5.2.1 tb (by omega)).trans HRTE.out⟩, ?_⟩
            exact (HB1.out.trans (HBR7.out.mono HB1.out.size)).trans (HS5.2.2 _ (by omega))
end Go.Proofs.YtbnfnpakibkboaaGreat

namespace Go.Proofs.YtbnfnpakibkboaaGreat
set_option linter.unusedVariables false
set_option linter.unusedSimpArgs false
open Go.RowKit

theorem info40 : (Tryz.prog.info? 40).map (fun i => (i.zero, i.size, i.bytes)) = some (some (.slice none 0 0), 1, 24) := by kernel_rfl
/-- a matrix in memory, of which k rows are laid: rb: the block of its rows, bs: their blocks -/
structure Mx (w : World) (B rb : Nat) (bs : Nat → Nat) (n m k : Nat) (F : Nat → Nat → Int) : Prop where
  r : Rf w rb 40 n (fun i => if i < k then .slice (some ⟨bs i, 0, none⟩) m m else .slice none 0 0)
  q : ∀ i, i < k → Rf w (bs i) 3 m (fun j => .int .i64 (F i j))
  inj : ∀ i j, i < k → j < k → bs i = bs j → i = j
  ne : ∀ i, i < k → bs i ≠ rb
  lo : B ≤ rb
  lo2 : ∀ i, i < k → B ≤ bs i
section
variable {w w' : World} {B rb n m k : Nat} {bs : Nat → Nat} {F : Nat → Nat → Int}
theorem Mx.below {B' : Nat} (h : Mx w B rb bs n m k F) (hb : Below B' w w') (hB : w.heap.size ≤ B') : Mx w' B rb bs n m k F :=
  ⟨h.r.below hb (by have := h.r.lt; omega), fun i hi => (h.q i hi).below hb (by have := (h.q i hi).lt; omega), h.inj, h.ne, h.lo, h.lo2⟩
theorem Mx.alloc (h : Mx w B rb bs n m k F) (o : Obj) : Mx (w.alloc o) B rb bs n m k F := ⟨h.r.alloc o, fun i hi => (h.q i hi).alloc o, h.inj, h.ne, h.lo, h.lo2⟩
theorem Mx.drewN (h : Mx w B rb bs n m k F) (d : Nat) : Mx (w.drewN d) B rb bs n m k F := h.below (bDrewN (Below.refl w.heap.size w) d) (Nat.le_refl _)
theorem Mx.set (h : Mx w B rb bs n m k F) {i : Nat} (hi : i < k) (j : Nat) (v : Int) : Mx (w.setCell ⟨bs i, j, none⟩ (.int .i64 v)) B rb bs n m k (fun i' j' => if i' = i ∧ j' = j then v else F i' j') := by
  refine ⟨h.r.far j _ (Ne.symm (h.ne i hi)), fun i' hi' => ?_, h.inj, h.ne, h.lo, h.lo2⟩
  by_cases e : i' = i
  · subst e
    refine ((h.q i' hi').set j (.int .i64 v)).congr (fun j' _ => ?_)
    by_cases e2 : j' = j
    · rw [if_pos e2, if_pos ⟨rfl, e2⟩]
    · rw [if_neg e2, if_neg (fun h => e2 h.2)]
  · refine ((h.q i' hi').far j _ (fun e2 => e (h.inj i' i hi' hi e2))).congr (fun j' _ => ?_)
    rw [if_neg (fun h => e h.1)]
theorem Mx.far (h : Mx w B rb bs n m k F) {p : Addr} (v : Value) (hp : p.block < B) : Mx (w.setCell p v) B rb bs n m k F :=
  ⟨(Below.heap_setCell _ _ _ _ (by have := h.lo; omega)).trans h.r, fun i hi => (Below.heap_setCell _ _ _ _ (by have := h.lo2 i hi; omega)).trans (h.q i hi), h.inj, h.ne, h.lo, h.lo2⟩
theorem Mx.row (h : Mx w B rb bs n m k F) {i : Nat} (hi : i < k) (hn : i < n) : w.cell? ⟨rb, i, none⟩ = some (.slice (some ⟨bs i, 0, none⟩) m m) := by
  have := h.r.cell hn; rwa [if_pos hi] at this
theorem Mx.congr (h : Mx w B rb bs n m k F) {G : Nat → Nat → Int} (hg : ∀ i j, i < k → j < m → F i j = G i j) : Mx w B rb bs n m k G :=
  ⟨h.r, fun i hi => (h.q i hi).congr (fun j hj => by rw [hg i j hi hj]), h.inj, h.ne, h.lo, h.lo2⟩
theorem Mx.moved (h : Mx w B rb bs n m k F) (hk : ∀ j, B ≤ j → j < w.heap.size → w'.heap[j]? = w.heap[j]?) : Mx w' B rb bs n m k F :=
  ⟨(hk rb h.lo h.r.lt).trans h.r, fun i hi => (hk _ (h.lo2 i hi) (h.q i hi).lt).trans (h.q i hi), h.inj, h.ne, h.lo, h.lo2⟩
end
/-- the wires of a part, by the places of their nodes -/
def wiL (ns : List Nat) (ws : List Wv) : List Wi := ws.map fun w => ⟨(nI ns).idxOf w.a, (nI ns).idxOf w.b, w.s⟩
/-- the equations of a part without feeders -/
def rwsF (n : Nat) (ws : List Wi) (tk : Nat → Int) (i j : Nat) : Int := if j = n then - tk i else lapl ws i j
theorem lapl_snoc (ws : List Wi) (w : Wi) (i j : Nat) : lapl (ws ++ [w]) i j = lapl ws i j + w.s * ((dl i w.a - dl i w.b) * (dl j w.a - dl j w.b)) := by
  unfold lapl; rw [sumL_append, sumL_cons, sumL_nil]; omega
theorem lapl_small {ws : List Wi} (h : ∀ w ∈ ws, 1 ≤ w.s ∧ w.s ≤ 4) (i j : Nat) : -4 * (ws.length : Int) ≤ lapl ws i j ∧ lapl ws i j ≤ 4 * (ws.length : Int) := by
  induction ws with
  | nil => simp [lapl, sumL]
  | cons w ws ih =>
    have h1 := h w (by simp)
    have h2 := ih (fun u hu => h u (by simp [hu]))
    have e : lapl (w :: ws) i j = w.s * ((dl i w.a - dl i w.b) * (dl j w.a - dl j w.b)) + lapl ws i j := by unfold lapl; rw [sumL_cons]
    have hd : ∀ x : Nat, ∀ y : Nat, dl x y = 0 ∨ dl x y = 1 := fun x y => by unfold dl; split <;> simp
    rw [e, List.length_cons]
    rcases hd i w.a with a | a <;> rcases hd i w.b with b | b <;> rcases hd j w.a with c | c <;> rcases hd j w.b with d | d <;> rw [a, b, c, d] <;> simp <;> omega
theorem wiL_len (ns : List Nat) (ws : List Wv) : (wiL ns ws).length = ws.length := by simp [wiL]
theorem wiL_succ {ns : List Nat} {ws : List Wv} {k : Nat} (hk : k < ws.length) : wiL ns (ws.take (k + 1)) = wiL ns (ws.take k) ++ [⟨(nI ns).idxOf ws[k].a, (nI ns).idxOf ws[k].b, ws[k].s⟩] := by
  unfold wiL; rw [List.take_succ_eq_append_getElem hk, List.map_append]; rfl
set_option maxRecDepth 100000 in
set_option maxHeartbeats 4000000 in
theorem rows_any (A1 A2 Ak : Option Addr) (c1 n2 c2 ck : Nat) (s3 so : Sc) (ns : List Nat) (ws : List Wv) (tk : Nat → Int) (n : Nat) (w : World) (hn : ns.length = n) (hn40 : n ≤ 40) (hs2 : ws.length = n2) (hs2' : n2 ≤ 1000)
    (hN : Sl w w.heap.size 1 CI A1 (nI ns)) (hW : Sl w w.heap.size 4 CW A2 ws) (hT : Sl w w.heap.size 1 CI Ak ((List.range n).map tk)) (htk : ∀ j, -40 ≤ tk j ∧ tk j ≤ 40)
    (hws : ∀ x ∈ ws, x.a ∈ nI ns ∧ x.b ∈ nI ns ∧ x.a ≠ x.b ∧ 1 ≤ x.s ∧ x.s ≤ 4) :
    Calls Tryz.prog 145 #[.agg #[.slice A1 n c1, .slice A2 n2 c2, .slice s3.A s3.n s3.c, .slice so.A so.n so.c, .slice Ak n ck]] w fun e w' => ∃ (rb : Nat) (bs : Nat → Nat), e = .returned (.slice (some ⟨rb, 0, none⟩) n n) ∧ Mx w' w.heap.size rb bs n (n + 1) n (rwsF n (wiL ns ws) tk) ∧ Below w.heap.size w w' := by
  obtain ⟨i0, hi0, hz0, hz1, hz2⟩ := info_parts info3
  obtain ⟨i4, hi4, hz40, hz41, hz42⟩ := info_parts info40
  have hmk4 := fun W : World => run_mk (P := Tryz.prog) 31 40 i4 _ 1 Tryz.underlying31 hi4 hz40 hz41 (n : Int) (n : Int) n n rfl rfl (by omega) (by rw [hz42]; omega) (by omega) W
  have hmk3 := fun W : World => run_mk (P := Tryz.prog) 40 3 i0 _ 1 Tryz.underlying40 hi0 hz0 hz1 ((n : Int) + 1) ((n : Int) + 1) (n + 1) (n + 1) (by simp) (by simp) (by omega) (by rw [hz2]; omega) (by omega) W
  have hb1 := (Below.refl w.heap.size w).alloc (Nat.le_refl _) (.cells #[.slice A1 n c1, .slice A2 n2 c2, .slice s3.A s3.n s3.c, .slice so.A so.n so.c, .slice Ak n ck] 134)
  have q1 := Rw.new w #[.slice A1 n c1, .slice A2 n2 c2, .slice s3.A s3.n s3.c, .slice so.A so.n so.c, .slice Ak n ck] 134
  obtain ⟨W1, hW1⟩ : ∃ z, w.alloc (.cells #[.slice A1 n c1, .slice A2 n2 c2, .slice s3.A s3.n s3.c, .slice so.A so.n so.c, .slice Ak n ck] 134) = z := ⟨_, rfl⟩
  have hz : W1.heap.size = w.heap.size + 1 := by rw [← hW1]; simp
  rw [hW1] at hb1 q1
  have HB1 := Lib.hid hb1
  have HQ := Lib.hid (show ∀ wx, Below W1.heap.size W1 wx → Rw wx w.heap.size 134 #[.slice A1 n c1, .slice A2 n2 c2, .slice s3.A s3.n s3.c, .slice so.A so.n so.c, .slice Ak n ck] ∧ Sl wx w.heap.size 1 CI A1 (nI ns) ∧ Sl wx w.heap.size 4 CW A2 ws ∧ Sl wx w.heap.size 1 CI Ak ((List.range n).map tk) from fun wx h => by
    have h' := hb1.trans (h.mono hb1.size)
    exact ⟨q1.below h (by omega), hN.below h', hW.below h', hT.below h'⟩)
  have HZ := Lib.hid hz
  have HNL := Lib.hid hn; have HWL := Lib.hid hs2; have HTK := Lib.hid htk; have HWS := Lib.hid hws
  have e0 := q1.cell 0; have e1 := q1.cell 1; have e2 := q1.cell 2; have e3 := q1.cell 3; have e4 := q1.cell 4
  have hR := Rf.made1 W1 (.slice none 0 0) n 40
  have hbR := (Below.refl W1.heap.size W1).alloc (Nat.le_refl _) (.cells (madeCells #[.slice none 0 0] n) 40)
  have HR := Lib.hid (show Mx (W1.alloc (.cells (madeCells #[.slice none 0 0] n) 40)) W1.heap.size W1.heap.size (fun _ => 0) n (n + 1) 0 (fun _ _ => 0) from
    ⟨hR.congr (fun k _ => by simp), fun i hi => by omega, fun i j hi => by omega, fun i hi => by omega, Nat.le_refl _, fun i hi => by omega⟩)
  have HBR := Lib.hid hbR
  clear hb1 q1 hN hW hT hn hs2 htk hws hR hbR
  go_enter Tryz.func145, Tryz.ntmps145
  go_upto_region 3 with (fail)
  obtain ⟨W2, hW2⟩ : ∃ z, W1.alloc (.cells (madeCells #[.slice none 0 0] n) 40) = z := ⟨_, rfl⟩
  rw [hW2] at HR HBR ⊢
  obtain ⟨rb, hrb⟩ : ∃ z, w.heap.size + 1 = z := ⟨_, rfl⟩
  rw [hz, hrb] at HR
  rw [hrb]
  have hz3 := hz
  rw [hrb] at hz3
  have HZ3 := Lib.hid hz3
  clear hz hz3
  have HRB := Lib.hid hrb
  clear hW2 e0 e1 e2 e3 e4 hmk4 hW1
  go_wp2
  go_loopw [18] (fun s18 wr => ∃ (k : Nat) (bs : Nat → Nat), k ≤ n ∧ s18 = .int .i64 (k : Int) ∧ Below W1.heap.size W1 wr ∧ Mx wr rb rb bs n (n + 1) k (fun i j => if j = n then - tk i else 0)) (fun s18 _ => n - (intOf s18).toNat)
  case atStart => exact ⟨0, fun _ => 0, Nat.zero_le _, rfl, HBR.out, ⟨HR.out.r, (fun i hi => by omega), (fun i j hi => by omega), (fun i hi => by omega), Nat.le_refl _, (fun i hi => by omega)⟩⟩
  case round =>
    obtain ⟨k, bs, hk, rfl, hbr, hmx⟩ := hrel
    have HBR2 := Lib.hid hbr; have HMX := Lib.hid hmx
    by_cases hkn : k < n
    · have hkI : (k : Int) < (n : Int) := by omega
      have hk0 : (0 : Int) ≤ (k : Int) := by omega
      have cck := hmx.r.cell hkn
      rw [if_neg (by omega)] at cck
      have fk := hmx.r.frozen k
      have hlt := hmx.r.lt
      have hw1 : IntKind.i64.wrap ((n : Int) + 1) = (n : Int) + 1 := by rw [IntKind.wrap_i64]; omega
      have HK := Lib.hid hkn
      obtain ⟨V, hV⟩ : ∃ V, wr.setCell ⟨rb, k, none⟩ (.slice (some ⟨wr.heap.size, 0, none⟩) (n + 1) (n + 1)) = V := ⟨_, rfl⟩
      have hVs : V.heap.size = wr.heap.size := by rw [← hV]; simp [World.setCell]
      have hr1 := Rf.made1 V (.int .i64 0) (n + 1) 3
      rw [hVs] at hr1
      have hrV := (hmx.r.set k (.slice (some ⟨wr.heap.size, 0, none⟩) (n + 1) (n + 1)))
      rw [hV] at hrV
      have hqV : ∀ i, i < k → Rf V (bs i) 3 (n + 1) (fun j => .int .i64 (if j = n then - tk i else 0)) := fun i hi => by
        rw [← hV]; exact (hmx.q i hi).far k _ (hmx.ne i hi)
      have hbV : Below W1.heap.size W1 V := by rw [← hV]; exact hbr.setCell (p := ⟨rb, k, none⟩) (by have := HZ3.out; show W1.heap.size ≤ rb; omega) _
      have hbA := hbV.trans (((Below.refl V.heap.size V).alloc (Nat.le_refl _) (.cells (madeCells #[.int .i64 0] (n + 1)) 3)).mono hbV.size)
      have hmA : Mx (V.alloc (.cells (madeCells #[.int .i64 0] (n + 1)) 3)) rb rb (fun i => if i = k then wr.heap.size else bs i) n (n + 1) (k + 1) (fun i j => if i = k then 0 else if j = n then - tk i else 0) := by
        refine ⟨(hrV.alloc _).congr (fun i hi => ?_), fun i hi => ?_, fun i j hi hj e => ?_, fun i hi => ?_, Nat.le_refl _, fun i hi => ?_⟩
        · by_cases e : i = k
          · rw [if_pos e, if_pos (by omega), if_pos e]
          · rw [if_neg e, if_neg e]
            by_cases e2 : i < k
            · rw [if_pos e2, if_pos (by omega)]
            · rw [if_neg e2, if_neg (by omega)]
        · by_cases e : i = k
          · show Rf _ (if i = k then wr.heap.size else bs i) 3 (n + 1) (fun j => .int .i64 (if i = k then 0 else if j = n then - tk i else 0))
            rw [if_pos e]; exact hr1.congr (fun j _ => by rw [if_pos e])
          · show Rf _ (if i = k then wr.heap.size else bs i) 3 (n + 1) (fun j => .int .i64 (if i = k then 0 else if j = n then - tk i else 0))
            rw [if_neg e]; exact ((hqV i (by omega)).alloc _).congr (fun j _ => by rw [if_neg e])
        · have hb : ∀ i, i < k → bs i < wr.heap.size := fun i hi => (hmx.q i hi).lt
          replace e : (if i = k then wr.heap.size else bs i) = (if j = k then wr.heap.size else bs j) := e
          by_cases e1 : i = k <;> by_cases e2 : j = k
          · omega
          · rw [if_pos e1, if_neg e2] at e; have := hb j (by omega); omega
          · rw [if_neg e1, if_pos e2] at e; have := hb i (by omega); omega
          · rw [if_neg e1, if_neg e2] at e; exact hmx.inj i j (by omega) (by omega) e
        · show (if i = k then wr.heap.size else bs i) ≠ rb
          split
          · omega
          · exact hmx.ne i (by omega)
        · show rb ≤ (if i = k then wr.heap.size else bs i)
          split
          · omega
          · exact hmx.lo2 i (by omega)
      have HMA := Lib.hid hmA; have HBA := Lib.hid hbA; have HV := Lib.hid hV
      clear hmx hbr hkn hr1 hrV hqV hbV hmA hbA hV hVs
      go_upto_region 7 with (fail)
      rw [HV.out]
      obtain ⟨W3, hW3⟩ : ∃ z, V.alloc (.cells (madeCells #[.int .i64 0] (n + 1)) 3) = z := ⟨_, rfl⟩
      rw [hW3] at HMA HBA ⊢
      clear hW3 cck fk hw1
      obtain ⟨q1, g1, g2, g3⟩ := HQ.out _ HBA.out
      have e4 := q1.cell 4
      obtain ⟨b, o, rfl, gb, t0⟩ := int_at g3 (i := k) (by rw [List.length_map, List.length_range]; exact HK.out)
      rw [List.getElem_map, List.getElem_range] at t0
      obtain ⟨v, hv⟩ : ∃ v, tk k = v := ⟨_, rfl⟩
      rw [hv] at t0
      have hvb := HTK.out k
      rw [hv] at hvb
      have hwv : IntKind.i64.wrap (-v) = -v := by rw [IntKind.wrap_i64]; omega
      have ck2 := HMA.out.row (i := k) (by omega) HK.out
      simp only [if_true] at ck2
      have hqk := HMA.out.q k (by omega)
      simp only [if_true] at hqk
      have dn := hqk.cell (k := n) (by omega); have df := hqk.frozen n
      have hms := HMA.out.set (i := k) (by omega) n (-v)
      simp only [if_true] at hms
      have HMS := Lib.hid (hms.congr (G := fun i j => if j = n then - tk i else 0) (fun i j hi hj => by
        by_cases e : i = k
        · subst e
          by_cases e2 : j = n
          · rw [if_pos ⟨rfl, e2⟩, if_pos e2, hv]
          · rw [if_neg (fun h => e2 h.2), if_pos rfl, if_neg e2]
        · rw [if_neg (fun h => e h.1), if_neg e]))
      have HBS := Lib.hid (HBA.out.setCell (p := ⟨wr.heap.size, n, none⟩) (by have := HBR2.out.size; exact this) (.int .i64 (-v)))
      have hn1I : (n : Int) < (n : Int) + 1 := by omega
      have hn0I : (0 : Int) ≤ (n : Int) := by omega
      clear q1 g1 g2 g3 hqk hms gb hvb hv
      refine wp_region_noPanic ?_
      go_region
      all_goals
        refine NoPanic.normal ?_
        (try simp only [Exit.inBlock, Exit.then])
        go_wp2
        refine ⟨⟨k + 1, _, by have := HK.out; omega, by simp, (HBS.out).drew, (HMS.out).drewN 1⟩, ?_⟩
        have := HK.out; simp [intOf] <;> omega
    · have hkI : ¬ (k : Int) < (n : Int) := by omega
      have hke : n = k := by omega
      subst hke
      have HM0 := Lib.hid (show Mx wr rb rb bs n (n + 1) n (rwsF n (wiL ns (ws.take 0)) tk) from hmx.congr (fun i j _ _ => by
        unfold rwsF; by_cases e : j = n
        · rw [if_pos e, if_pos e]
        · rw [if_neg e, if_neg e]; rfl))
      obtain ⟨q1, g1, g2, g3⟩ := HQ.out _ hbr
      have e0 := q1.cell 0; have e1 := q1.cell 1
      obtain ⟨W5, hW5⟩ : ∃ z, wr = z := ⟨_, rfl⟩
      subst hW5
      clear hbr hmx hkI hkn hk q1 g1 g2 g3 hmk3
      go_wp2
      clear e0 e1
      go_loopw [44] (fun s44 wr => ∃ (i : Nat) (bs : Nat → Nat), i ≤ n2 ∧ s44 = .int .i64 (i : Int) ∧ Below W1.heap.size W1 wr ∧ Mx wr rb rb bs n (n + 1) n (rwsF n (wiL ns (ws.take i)) tk)) (fun s44 _ => n2 - (intOf s44).toNat)
      case atStart => exact ⟨0, bs, Nat.zero_le _, rfl, HBR2.out, HM0.out⟩
      case round =>
        obtain ⟨i, bs, hi, rfl, hbr, hmx⟩ := hrel
        have HBR2 := Lib.hid hbr; have HMX := Lib.hid hmx
        by_cases hin : i < n2
        · have hiI : (i : Int) < (n2 : Int) := by omega
          have hi0 : (0 : Int) ≤ (i : Int) := by omega
          have hil : i < ws.length := by have := HWL.out; omega
          obtain ⟨q1, g1, g2, g3⟩ := HQ.out _ hbr
          obtain ⟨b, o, rfl, gb, c0, c1', c2, c3⟩ := wire_at g2 hil
          obtain ⟨x, hx⟩ : ∃ x, ws[i] = x := ⟨_, rfl⟩
          rw [hx] at c0 c1' c2 c3
          have HXW := Lib.hid (HWS.out x (by rw [← hx]; exact List.getElem_mem hil))
          have HSU := Lib.hid (show wiL ns (ws.take (i + 1)) = wiL ns (ws.take i) ++ [⟨(nI ns).idxOf x.a, (nI ns).idxOf x.b, x.s⟩] from by rw [wiL_succ hil, hx])
          have HSM := Lib.hid (show ∀ u v, -4000 ≤ lapl (wiL ns (ws.take i)) u v ∧ lapl (wiL ns (ws.take i)) u v ≤ 4000 from fun u v => by
            have h1 := lapl_small (ws := wiL ns (ws.take i)) (fun w hw => by
              unfold wiL at hw
              obtain ⟨y, hy, rfl⟩ := List.mem_map.1 hw
              have := HWS.out y (List.mem_of_mem_take hy); exact ⟨this.2.2.2.1, this.2.2.2.2⟩) u v
            rw [wiL_len] at h1
            have := List.length_take_le i ws
            omega)
          have hb3 := (Below.refl wr.heap.size wr).alloc (Nat.le_refl _) (.cells #[.int .i64 x.a, .int .i64 x.b, .int .i64 x.s, .bool x.sw] 60)
          have q3 := Rw.new wr #[.int .i64 x.a, .int .i64 x.b, .int .i64 x.s, .bool x.sw] 60
          have hm3 := hmx.alloc (.cells #[.int .i64 x.a, .int .i64 x.b, .int .i64 x.s, .bool x.sw] 60)
          have HI := Lib.hid hin
          have hrbs := hmx.r.lt
          have hb6 := hbr.trans (hb3.mono hbr.size)
          clear hmx hx hil g1 g2 g3 q1 gb hin hb3 hbr
          go_upto_region 12 with (fail)
          obtain ⟨W6, hW6⟩ : ∃ z, wr.alloc (.cells #[.int .i64 x.a, .int .i64 x.b, .int .i64 x.s, .bool x.sw] 60) = z := ⟨_, rfl⟩
          rw [hW6] at hb6 q3 hm3 ⊢
          have HB6 := Lib.hid hb6; have HQ6 := Lib.hid q3; have HM6 := Lib.hid hm3
          clear hb6 q3 hm3
          obtain ⟨M6, hM6⟩ : ∃ n, wr.heap.size = n := ⟨_, rfl⟩
          rw [hM6] at HQ6 hrbs ⊢
          have HRBM := Lib.hid (show wr.heap.size = M6 from hM6)
          clear hM6 hW6 c0 c1' c2 c3
          have HRB6 := Lib.hid hrbs
          have HRS := Lib.hid (show ∀ wx, Below W6.heap.size W6 wx → Rw wx w.heap.size 134 #[.slice A1 n c1, .slice (some ⟨b, o, none⟩) n2 c2, .slice s3.A s3.n s3.c, .slice so.A so.n so.c, .slice Ak n ck] ∧ Rw wx M6 60 #[.int .i64 x.a, .int .i64 x.b, .int .i64 x.s, .bool x.sw] from fun wx h => ⟨(HQ.out _ (HB6.out.trans (h.mono HB6.out.size))).1, HQ6.out.below h HQ6.out.lt⟩)
          have HIX := Lib.hid (show ∀ (y : Int) (wx : World), Below W6.heap.size W6 wx → Calls Tryz.prog 95 #[.agg #[.slice A1 n c1, .slice (some ⟨b, o, none⟩) n2 c2, .slice s3.A s3.n s3.c, .slice so.A so.n so.c, .slice Ak n ck], .int .i64 y] wx fun e w' => e = .returned (.int .i64 (ixI (nI ns) y)) ∧ Below wx.heap.size wx w' from fun y wx h => cindex_any ⟨A1, n, c1⟩ ⟨some ⟨b, o, none⟩, n2, c2⟩ s3 so ⟨Ak, n, ck⟩ ns y wx HNL.out (by show n ≤ 1000000; omega) (by
            have hbx := HB6.out.trans (h.mono HB6.out.size)
            have := (HQ.out _ hbx).2.1
            exact this.more (fun _ _ h => h) (by have := hbx.size; have := HZ3.out; have := HZ.out; omega)))
          have ha := HXW.out
          have hia : ixI (nI ns) x.a = ((nI ns).idxOf x.a : Int) := by unfold ixI; rw [if_pos ha.1]
          have hib : ixI (nI ns) x.b = ((nI ns).idxOf x.b : Int) := by unfold ixI; rw [if_pos ha.2.1]
          have hla := List.idxOf_lt_length_iff.2 ha.1
          have hlb := List.idxOf_lt_length_iff.2 ha.2.1
          have hlen : (nI ns).length = n := by unfold nI; rw [List.length_map]; exact HNL.out
          rw [hlen] at hla hlb
          have hne : (nI ns).idxOf x.a ≠ (nI ns).idxOf x.b := fun e => by
            have h1 : (nI ns)[(nI ns).idxOf x.a]? = some x.a := by rw [List.getElem?_eq_getElem (List.idxOf_lt_length_iff.2 ha.1), List.getElem_idxOf]
            have h2 : (nI ns)[(nI ns).idxOf x.b]? = some x.b := by rw [List.getElem?_eq_getElem (List.idxOf_lt_length_iff.2 ha.2.1), List.getElem_idxOf]
            rw [e, h2] at h1
            exact ha.2.2.1 (Option.some.inj h1).symm
          have HJ0 := Lib.hid (show (nI ns).idxOf x.a < n ∧ (nI ns).idxOf x.b < n ∧ (nI ns).idxOf x.a ≠ (nI ns).idxOf x.b ∧ 1 ≤ x.s ∧ x.s ≤ 4 from ⟨hla, hlb, hne, ha.2.2.2.1, ha.2.2.2.2⟩)
          have HIA := Lib.hid hia; have HIB := Lib.hid hib
          clear ha hia hib hla hlb hlen hne hrbs
          obtain ⟨ja, hja⟩ : ∃ j, (nI ns).idxOf x.a = j := ⟨_, rfl⟩
          obtain ⟨jb, hjb⟩ : ∃ j, (nI ns).idxOf x.b = j := ⟨_, rfl⟩
          rw [hja, hjb] at HJ0 HSU
          rw [hja] at HIA
          rw [hjb] at HIB
          clear hja hjb
          have HNB := Lib.hid (show ∀ r, r < n → M6 ≠ bs r from fun r hr => by have := (HMX.out.q r hr).lt; have := HRBM.out; omega)
          have hbq : Below W6.heap.size W6 W6.drew := (Below.refl _ _).drew
          have HS := Lib.hid (HRS.out _ hbq)
          refine wp_region_noPanic ?_
          refine wp_region_held_drew (S := fun wx => Rw wx (w.heap.size) 134 #[.slice A1 n c1, .slice (some ⟨b, o, none⟩) n2 c2, .slice s3.A s3.n s3.c, .slice so.A so.n so.c, .slice Ak n ck] ∧ Rw wx (M6) 60 #[.int .i64 x.a, .int .i64 x.b, .int .i64 x.s, .bool x.sw]) (by kernel_rfl) HS.out (fun _ => ?_)
          refine hTk (i := 0) (d := 48) (v := .agg #[.slice A1 n c1, .slice (some ⟨b, o, none⟩) n2 c2, .slice s3.A s3.n s3.c, .slice so.A so.n so.c, .slice Ak n ck]) rfl rfl (Or.inl ⟨rfl, by rintro W' ⟨r0, r1⟩; have ry0 := r0.cell; have ry1 := r1.cell; go_simp⟩) HS.out ?_
          simp only [Act.put, sB, sZ, sS]
          refine hTk (i := 1) (d := 49) (v := .pointer (some ⟨M6, 0, none⟩)) rfl rfl (Or.inl ⟨rfl, by rintro W' ⟨r0, r1⟩; have ry0 := r0.cell; have ry1 := r1.cell; go_simp⟩) HS.out ?_
          simp only [Act.put, sB, sZ, sS]
          refine hTk (i := 2) (d := 50) (v := .int .i64 x.a) rfl rfl (Or.inl ⟨rfl, by rintro W' ⟨r0, r1⟩; have ry0 := r0.cell; have ry1 := r1.cell; go_simp⟩) HS.out ?_
          simp only [Act.put, sB, sZ, sS]
          refine hTk (i := 4) (d := 52) (v := .agg #[.slice A1 n c1, .slice (some ⟨b, o, none⟩) n2 c2, .slice s3.A s3.n s3.c, .slice so.A so.n so.c, .slice Ak n ck]) rfl rfl (Or.inl ⟨rfl, by rintro W' ⟨r0, r1⟩; have ry0 := r0.cell; have ry1 := r1.cell; go_simp⟩) HS.out ?_
          simp only [Act.put, sB, sZ, sS]
          refine hTk (i := 5) (d := 53) (v := .pointer (some ⟨M6, 1, none⟩)) rfl rfl (Or.inl ⟨rfl, by rintro W' ⟨r0, r1⟩; have ry0 := r0.cell; have ry1 := r1.cell; go_simp⟩) HS.out ?_
          simp only [Act.put, sB, sZ, sS]
          refine hTk (i := 6) (d := 54) (v := .int .i64 x.b) rfl rfl (Or.inl ⟨rfl, by rintro W' ⟨r0, r1⟩; have ry0 := r0.cell; have ry1 := r1.cell; go_simp⟩) HS.out ?_
          simp only [Act.put, sB, sZ, sS]
          refine wpAnyH_ready (rs := [3]) (by kernel_rfl) (by simp) ?_
          refine AllReadyH.cons rfl (fun K hK => ?_) AllReadyH.nil
          rw [if_pos (by rfl)]
          go_simp
          go_at_call 95
          (with_reducible refine (HIX.out x.a _ hbq).mono ?_)
          rintro e wc0 ⟨rfl, hbn⟩
          replace hbq := hbq.trans (hbn.mono hbq.size)
          clear hbn
          have HS := Lib.hid (HRS.out _ hbq)
          refine hK.out _ _ HS.out (fun _ => ?_)
          clear hK K
          try simp only [Act.put, sB, sZ, sS]
          refine wpAnyH_ready (rs := [7]) (by kernel_rfl) (by simp) ?_
          refine AllReadyH.cons rfl (fun K hK => ?_) AllReadyH.nil
          rw [if_pos (by rfl)]
          go_simp
          go_at_call 95
          (with_reducible refine (HIX.out x.b _ hbq).mono ?_)
          rintro e wc1 ⟨rfl, hbn⟩
          replace hbq := hbq.trans (hbn.mono hbq.size)
          clear hbn
          have HS := Lib.hid (HRS.out _ hbq)
          refine hK.out _ _ HS.out (fun _ => ?_)
          clear hK K
          try simp only [Act.put, sB, sZ, sS]
          refine hTk (i := 8) (d := 8) (v := .int .i64 (ixI (nI ns) x.a)) rfl rfl (Or.inl ⟨rfl, by rintro W' ⟨r0, r1⟩; have ry0 := r0.cell; have ry1 := r1.cell; go_simp⟩) HS.out ?_
          simp only [Act.put, sB, sZ, sS]
          refine hTk (i := 9) (d := 9) (v := .int .i64 (ixI (nI ns) x.b)) rfl rfl (Or.inl ⟨rfl, by rintro W' ⟨r0, r1⟩; have ry0 := r0.cell; have ry1 := r1.cell; go_simp⟩) HS.out ?_
          simp only [Act.put, sB, sZ, sS]
          refine wpAnyH_done (by kernel_rfl) ?_ _
          clear HS
          refine NoPanic.normal ?_
          have HB7 := Lib.hid (HB6.out.trans (hbq.mono HB6.out.size)); have HM70 := Lib.hid (HM6.out.below hbq (Nat.le_refl _))
          have q7 := (HRS.out _ hbq).2
          have HQ70 := Lib.hid q7
          clear hbq q7
          rw [HIA.out, HIB.out]
          clear HRS HIX HM6 HMX HQ6
          have HB70 := HB7
          clear HB7
          have hJ := HJ0.out
          have HJ := Lib.hid hJ
          have hjaI : (ja : Int) < (n : Int) := by omega
          have hjbI : (jb : Int) < (n : Int) := by omega
          have hja0 : (0 : Int) ≤ (ja : Int) := by omega
          have hjb0 : (0 : Int) ≤ (jb : Int) := by omega
          have hjaJ : (ja : Int) < (n : Int) + 1 := by omega
          have hjbJ : (jb : Int) < (n : Int) + 1 := by omega
          obtain ⟨F0, hF0⟩ : ∃ F, rwsF n (wiL ns (ws.take i)) tk = F := ⟨_, rfl⟩
          rw [hF0] at HM70
          have HF0 := Lib.hid hF0
          have HBD := Lib.hid (show ∀ u v, u < n → v < n → -4000 ≤ F0 u v ∧ F0 u v ≤ 4000 from fun u v hu hv => by rw [← hF0]; unfold rwsF; rw [if_neg (by omega)]; exact HSM.out u v)
          clear hF0 hJ
          obtain ⟨w70, hw70⟩ : ∃ z, wc1 = z := ⟨_, rfl⟩
          subst hw70
          (try simp only [Exit.inBlock, Exit.then])
          go_upto_region 13 with (fail)
          obtain ⟨v0, hv0⟩ : ∃ v, F0 ja ja = v := ⟨_, rfl⟩
          have hFv : F0 ja ja = v0 := by
            rw [← hv0]
          have hbd := HBD.out ja ja (by have := HJ.out; omega) (by have := HJ.out; omega)
          rw [hv0] at hbd
          have hrw := HM70.out.row (i := ja) (by have := HJ.out; omega) (by have := HJ.out; omega)
          have hqq := HM70.out.q ja (by have := HJ.out; omega)
          have hcc := hqq.cell (k := ja) (by have := HJ.out; omega)
          rw [hFv] at hcc
          have hff := hqq.frozen ja
          have hss := HQ70.out.cell 2
          have hwr : IntKind.i64.wrap (v0 + x.s) = v0 + x.s := by have := HJ.out; rw [IntKind.wrap_i64]; omega
          have HMn := Lib.hid ((HM70.out.set (i := ja) (by have := HJ.out; omega) ja (v0 + x.s)).drewN 1)
          have hbl := hqq.lt
          have HBn := Lib.hid ((HB70.out.setCell (p := ⟨bs ja, ja, none⟩) (by have h1 := HM70.out.lo2 ja (by have := HJ.out; omega); have := HZ3.out; show W1.heap.size ≤ bs ja; omega) (.int .i64 (v0 + x.s))).drew)
          have HQn := Lib.hid ((HQ70.out.far (k := bs ja) ja (.int .i64 (v0 + x.s)) (HNB.out ja (by have := HJ.out; omega))).drew)
          have HVk0 := Lib.hid hv0
          clear hv0 hFv hbd hqq hbl
          refine wp_region_noPanic ?_
          go_region
          refine NoPanic.normal ?_
          clear hrw hcc hff hss hwr
          obtain ⟨w71, hw71⟩ : ∃ z, (wc1.setCell ⟨bs ja, ja, none⟩ (.int .i64 (v0 + x.s))).drew = z := ⟨_, rfl⟩
          obtain ⟨F1, hF1⟩ : ∃ F, (fun i' j' => if i' = ja ∧ j' = ja then v0 + x.s else F0 i' j') = F := ⟨_, rfl⟩
          replace HMn := Lib.hid (show Mx w71 rb rb bs n (n + 1) n F1 from by rw [← hw71, ← hF1]; exact HMn.out)
          replace HBn := Lib.hid (show Below W1.heap.size W1 w71 from by rw [← hw71]; exact HBn.out)
          replace HQn := Lib.hid (show Rw w71 M6 60 _ from by rw [← hw71]; exact HQn.out)
          rw [hw71]
          have HF1 := Lib.hid hF1
          have HM71 := HMn; have HB71 := HBn; have HQ71 := HQn
          clear HMn HBn HQn hw71 hF1 HM70 HB70 HQ70
          (try simp only [Exit.inBlock, Exit.then])
          go_upto_region 14 with (fail)
          obtain ⟨v1, hv1⟩ : ∃ v, F0 jb jb = v := ⟨_, rfl⟩
          have hFv : F1 jb jb = v1 := by
            rw [← hv1]; rw [← HF1.out]; dsimp only; rw [if_neg (by have := HJ.out; omega)]
          have hbd := HBD.out jb jb (by have := HJ.out; omega) (by have := HJ.out; omega)
          rw [hv1] at hbd
          have hrw := HM71.out.row (i := jb) (by have := HJ.out; omega) (by have := HJ.out; omega)
          have hqq := HM71.out.q jb (by have := HJ.out; omega)
          have hcc := hqq.cell (k := jb) (by have := HJ.out; omega)
          rw [hFv] at hcc
          have hff := hqq.frozen jb
          have hss := HQ71.out.cell 2
          have hwr : IntKind.i64.wrap (v1 + x.s) = v1 + x.s := by have := HJ.out; rw [IntKind.wrap_i64]; omega
          have HMn := Lib.hid ((HM71.out.set (i := jb) (by have := HJ.out; omega) jb (v1 + x.s)).drewN 1)
          have hbl := hqq.lt
          have HBn := Lib.hid ((HB71.out.setCell (p := ⟨bs jb, jb, none⟩) (by have h1 := HM71.out.lo2 jb (by have := HJ.out; omega); have := HZ3.out; show W1.heap.size ≤ bs jb; omega) (.int .i64 (v1 + x.s))).drew)
          have HQn := Lib.hid ((HQ71.out.far (k := bs jb) jb (.int .i64 (v1 + x.s)) (HNB.out jb (by have := HJ.out; omega))).drew)
          have HVk1 := Lib.hid hv1
          clear hv1 hFv hbd hqq hbl
          refine wp_region_noPanic ?_
          go_region
          refine NoPanic.normal ?_
          clear hrw hcc hff hss hwr
          obtain ⟨w72, hw72⟩ : ∃ z, (w71.setCell ⟨bs jb, jb, none⟩ (.int .i64 (v1 + x.s))).drew = z := ⟨_, rfl⟩
          obtain ⟨F2, hF2⟩ : ∃ F, (fun i' j' => if i' = jb ∧ j' = jb then v1 + x.s else F1 i' j') = F := ⟨_, rfl⟩
          replace HMn := Lib.hid (show Mx w72 rb rb bs n (n + 1) n F2 from by rw [← hw72, ← hF2]; exact HMn.out)
          replace HBn := Lib.hid (show Below W1.heap.size W1 w72 from by rw [← hw72]; exact HBn.out)
          replace HQn := Lib.hid (show Rw w72 M6 60 _ from by rw [← hw72]; exact HQn.out)
          rw [hw72]
          have HF2 := Lib.hid hF2
          have HM72 := HMn; have HB72 := HBn; have HQ72 := HQn
          clear HMn HBn HQn hw72 hF2 HM71 HB71 HQ71
          (try simp only [Exit.inBlock, Exit.then])
          go_upto_region 15 with (fail)
          obtain ⟨v2, hv2⟩ : ∃ v, F0 ja jb = v := ⟨_, rfl⟩
          have hFv : F2 ja jb = v2 := by
            rw [← hv2]; rw [← HF2.out]; dsimp only; rw [if_neg (by have := HJ.out; omega)]; rw [← HF1.out]; dsimp only; rw [if_neg (by have := HJ.out; omega)]
          have hbd := HBD.out ja jb (by have := HJ.out; omega) (by have := HJ.out; omega)
          rw [hv2] at hbd
          have hrw := HM72.out.row (i := ja) (by have := HJ.out; omega) (by have := HJ.out; omega)
          have hqq := HM72.out.q ja (by have := HJ.out; omega)
          have hcc := hqq.cell (k := jb) (by have := HJ.out; omega)
          rw [hFv] at hcc
          have hff := hqq.frozen jb
          have hss := HQ72.out.cell 2
          have hwr : IntKind.i64.wrap (v2 - x.s) = v2 - x.s := by have := HJ.out; rw [IntKind.wrap_i64]; omega
          have HMn := Lib.hid ((HM72.out.set (i := ja) (by have := HJ.out; omega) jb (v2 - x.s)).drewN 1)
          have hbl := hqq.lt
          have HBn := Lib.hid ((HB72.out.setCell (p := ⟨bs ja, jb, none⟩) (by have h1 := HM72.out.lo2 ja (by have := HJ.out; omega); have := HZ3.out; show W1.heap.size ≤ bs ja; omega) (.int .i64 (v2 - x.s))).drew)
          have HQn := Lib.hid ((HQ72.out.far (k := bs ja) jb (.int .i64 (v2 - x.s)) (HNB.out ja (by have := HJ.out; omega))).drew)
          have HVk2 := Lib.hid hv2
          clear hv2 hFv hbd hqq hbl
          refine wp_region_noPanic ?_
          go_region
          refine NoPanic.normal ?_
          clear hrw hcc hff hss hwr
          obtain ⟨w73, hw73⟩ : ∃ z, (w72.setCell ⟨bs ja, jb, none⟩ (.int .i64 (v2 - x.s))).drew = z := ⟨_, rfl⟩
          obtain ⟨F3, hF3⟩ : ∃ F, (fun i' j' => if i' = ja ∧ j' = jb then v2 - x.s else F2 i' j') = F := ⟨_, rfl⟩
          replace HMn := Lib.hid (show Mx w73 rb rb bs n (n + 1) n F3 from by rw [← hw73, ← hF3]; exact HMn.out)
          replace HBn := Lib.hid (show Below W1.heap.size W1 w73 from by rw [← hw73]; exact HBn.out)
          replace HQn := Lib.hid (show Rw w73 M6 60 _ from by rw [← hw73]; exact HQn.out)
          rw [hw73]
          have HF3 := Lib.hid hF3
          have HM73 := HMn; have HB73 := HBn; have HQ73 := HQn
          clear HMn HBn HQn hw73 hF3 HM72 HB72 HQ72
          (try simp only [Exit.inBlock, Exit.then])
          go_upto_region 16 with (fail)
          obtain ⟨v3, hv3⟩ : ∃ v, F0 jb ja = v := ⟨_, rfl⟩
          have hFv : F3 jb ja = v3 := by
            rw [← hv3]; rw [← HF3.out]; dsimp only; rw [if_neg (by have := HJ.out; omega)]; rw [← HF2.out]; dsimp only; rw [if_neg (by have := HJ.out; omega)]; rw [← HF1.out]; dsimp only; rw [if_neg (by have := HJ.out; omega)]
          have hbd := HBD.out jb ja (by have := HJ.out; omega) (by have := HJ.out; omega)
          rw [hv3] at hbd
          have hrw := HM73.out.row (i := jb) (by have := HJ.out; omega) (by have := HJ.out; omega)
          have hqq := HM73.out.q jb (by have := HJ.out; omega)
          have hcc := hqq.cell (k := ja) (by have := HJ.out; omega)
          rw [hFv] at hcc
          have hff := hqq.frozen ja
          have hss := HQ73.out.cell 2
          have hwr : IntKind.i64.wrap (v3 - x.s) = v3 - x.s := by have := HJ.out; rw [IntKind.wrap_i64]; omega
          have HMn := Lib.hid ((HM73.out.set (i := jb) (by have := HJ.out; omega) ja (v3 - x.s)).drewN 1)
          have hbl := hqq.lt
          have HBn := Lib.hid ((HB73.out.setCell (p := ⟨bs jb, ja, none⟩) (by have h1 := HM73.out.lo2 jb (by have := HJ.out; omega); have := HZ3.out; show W1.heap.size ≤ bs jb; omega) (.int .i64 (v3 - x.s))).drew)
          have HQn := Lib.hid ((HQ73.out.far (k := bs jb) ja (.int .i64 (v3 - x.s)) (HNB.out jb (by have := HJ.out; omega))).drew)
          have HVk3 := Lib.hid hv3
          clear hv3 hFv hbd hqq hbl
          refine wp_region_noPanic ?_
          go_region
          refine NoPanic.normal ?_
          clear hrw hcc hff hss hwr
          obtain ⟨w74, hw74⟩ : ∃ z, (w73.setCell ⟨bs jb, ja, none⟩ (.int .i64 (v3 - x.s))).drew = z := ⟨_, rfl⟩
          obtain ⟨F4, hF4⟩ : ∃ F, (fun i' j' => if i' = jb ∧ j' = ja then v3 - x.s else F3 i' j') = F := ⟨_, rfl⟩
          replace HMn := Lib.hid (show Mx w74 rb rb bs n (n + 1) n F4 from by rw [← hw74, ← hF4]; exact HMn.out)
          replace HBn := Lib.hid (show Below W1.heap.size W1 w74 from by rw [← hw74]; exact HBn.out)
          replace HQn := Lib.hid (show Rw w74 M6 60 _ from by rw [← hw74]; exact HQn.out)
          rw [hw74]
          have HF4 := Lib.hid hF4
          have HM74 := HMn; have HB74 := HBn; have HQ74 := HQn
          clear HMn HBn HQn hw74 hF4 HM73 HB73 HQ73
          have HEND := Lib.hid (show Mx w74 rb rb bs n (n + 1) n (rwsF n (wiL ns (ws.take (i + 1))) tk) from HM74.out.congr (fun u v hu hv => by
            rw [← HF4.out, ← HF3.out, ← HF2.out, ← HF1.out]
            dsimp only
            rw [HSU.out]
            have e0 : F0 u v = rwsF n (wiL ns (ws.take i)) tk u v := by rw [← HF0.out]
            have hj := HJ.out
            have k0 := HVk0.out; have k1 := HVk1.out; have k2 := HVk2.out; have k3 := HVk3.out
            rw [← HF0.out] at k0 k1 k2 k3
            unfold rwsF at k0 k1 k2 k3
            rw [if_neg (by omega)] at k0 k1 k2 k3
            rw [e0]; unfold rwsF
            by_cases e : v = n
            · rw [if_pos e, if_pos e, if_neg (by omega), if_neg (by omega), if_neg (by omega), if_neg (by omega)]
            · rw [if_neg e, if_neg e, lapl_snoc]
              unfold dl
              by_cases a : u = ja <;> by_cases b : u = jb <;> by_cases c : v = ja <;> by_cases d : v = jb
              all_goals first
                | (exfalso; omega)
                | (simp only [a, b, c, d, hj.2.2.1, Ne.symm hj.2.2.1, ne_eq, not_false_eq_true, if_true, if_false, and_true, true_and, and_false, false_and, and_self] at *; simp_all <;> omega)))
          (try simp only [Exit.inBlock, Exit.then])
          go_wp2
          refine ⟨⟨i + 1, bs, by have := HI.out; omega, by simp, HB74.out, HEND.out⟩, ?_⟩
          have := HI.out; simp [intOf] <;> omega
        · have hiI : ¬ (i : Int) < (n2 : Int) := by omega
          have htk : ws.take i = ws := List.take_of_length_le (by have := HWL.out; omega)
          rw [htk] at hmx
          have HEND := Lib.hid hmx
          clear hbr hmx htk hin
          go_wp2
          go_ret
          exact ⟨rb, rfl, ⟨bs, HEND.out.r, HEND.out.q, HEND.out.inj, HEND.out.ne, by have := HRB.out; omega, fun i hi => by have := HEND.out.lo2 i hi; have := HRB.out; omega⟩, HB1.out.trans (HBR2.out.mono HB1.out.size)⟩
end Go.Proofs.YtbnfnpakibkboaaGreat
