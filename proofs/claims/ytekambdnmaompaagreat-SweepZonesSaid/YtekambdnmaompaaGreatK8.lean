/- Contract of the specification: Zone. -/
import Derived.Test.YtekambdnmaompaaGreatK0
import Derived.Test.YtekambdnmaompaaGreatJ5
import Derived.Test.YtekambdnmaompaaGreatJ7
namespace Go.Proofs.YtekambdnmaompaaGreat.SW
set_option linter.unusedVariables false
set_option linter.unusedSimpArgs false
open Go.RowKit

set_option maxRecDepth 100000 in
set_option maxHeartbeats 8000000 in
theorem rZone_any (A A2 : Option Addr) (c c2 : Nat) (p : Pl) (r r2 m m2 : Nat) (L L2 : List S) (hx sx hy sy : Int) (w : World) (hP : PlAt w w.heap.size A c A2 c2 p) (h : RlOk p r L) (h2 : RlOk p r2 L2) (hm : L.length = m + 1) (hm2 : L2.length = m2 + 1) (hX : Pr hx sx) (hY : Pr hy sy) :
    Calls Tryz.prog 40 #[.agg #[.slice A p.nodes.length c, .slice A2 p.rails.length c2], .int .i64 (r : Int), .agg #[.int .i64 hx, .int .i64 sx], .int .i64 (r2 : Int), .agg #[.int .i64 hy, .int .i64 sy]] w fun e w' => ∃ v, e = .returned v ∧ Own w' w.heap.size 79 3 fC v (zoneL r L (fun k => (List.range m2).any fun j => foulB (stripAt r L k) (stripAt r2 L2 j) hx sx hy sy) m) ∧ Below w.heap.size w w' := by
  obtain ⟨i0, hi, hz0, hz1, hz2⟩ := info_parts info79
  have hle := h.le; have hle2 := h2.le
  have HM := Lib.hid (show 1 ≤ m ∧ m ≤ 41 ∧ 1 ≤ m2 ∧ m2 ≤ 41 from by omega)
  obtain ⟨F, hF⟩ : ∃ F : Nat → Nat → Bool, F = (fun i k => foulB (stripAt r L i) (stripAt r2 L2 k) hx sx hy sy) := ⟨_, rfl⟩
  have hFD : (fun k => (List.range m2).any fun j => foulB (stripAt r L k) (stripAt r2 L2 j) hx sx hy sy) = fun k => (List.range m2).any (F k) := by rw [hF]
  rw [hFD]
  obtain ⟨fo, hfo⟩ : ∃ fo : Nat → Bool, fo = (fun k => (List.range m2).any (F k)) := ⟨_, rfl⟩
  rw [← hfo]
  have HFO := Lib.hid (show ∀ k, (List.range m2).any (F k) = fo k from fun k => by rw [hfo])
  have hb3 := (((Below.refl _ w).alloc (Nat.le_refl _) (.cells #[.slice A p.nodes.length c, .slice A2 p.rails.length c2] 25)).alloc (by simp) (.cells #[.int .i64 hx, .int .i64 sx] 46)).alloc (by simp; omega) (.cells #[.int .i64 hy, .int .i64 sy] 46)
  obtain ⟨q1, q2, q3⟩ := rows3 w #[.slice A p.nodes.length c, .slice A2 p.rails.length c2] #[.int .i64 hx, .int .i64 sx] #[.int .i64 hy, .int .i64 sy] 25 46 46
  have hz1' : (((w.alloc (.cells #[.slice A p.nodes.length c, .slice A2 p.rails.length c2] 25)).alloc (.cells #[.int .i64 hx, .int .i64 sx] 46)).alloc (.cells #[.int .i64 hy, .int .i64 sy] 46)).heap.size = w.heap.size + 3 := by simp
  obtain ⟨W1, hW1⟩ : ∃ z, (((w.alloc (.cells #[.slice A p.nodes.length c, .slice A2 p.rails.length c2] 25)).alloc (.cells #[.int .i64 hx, .int .i64 sx] 46)).alloc (.cells #[.int .i64 hy, .int .i64 sy] 46)) = z := ⟨_, rfl⟩
  rw [hW1] at hb3 q1 q2 q3 hz1'
  have HB1 := Lib.hid hb3
  have HZ1 := Lib.hid hz1'
  have HR := Lib.hid (show ∀ wx, Below W1.heap.size W1 wx → Rw wx w.heap.size 25 #[.slice A p.nodes.length c, .slice A2 p.rails.length c2] ∧ Rw wx (w.heap.size + 1) 46 #[.int .i64 hx, .int .i64 sx] ∧ Rw wx (w.heap.size + 1 + 1) 46 #[.int .i64 hy, .int .i64 sy] from fun wx h => ⟨q1.below h (by omega), q2.below h (by omega), q3.below h (by omega)⟩)
  have HPB := Lib.hid (show ∀ wx, Below W1.heap.size W1 wx → PlAt wx wx.heap.size A c A2 c2 p from fun wx h => ((hP.below hb3).below (h.mono hb3.size)).more (Nat.le_trans hb3.size h.size))
  have HS1 := Lib.hid (show ∀ wx, Below W1.heap.size W1 wx → Calls Tryz.prog 20 #[.agg #[.slice A p.nodes.length c, .slice A2 p.rails.length c2], .int .i64 (r : Int)] wx fun e w' => e = .returned (.int .i64 (m : Int)) ∧ Below wx.heap.size wx w' from fun wx hx => rStrips_any A A2 c c2 p r m wx (HPB.out wx hx) h.hr (by have := h.len; omega) (by omega))
  have HS2 := Lib.hid (show ∀ wx, Below W1.heap.size W1 wx → Calls Tryz.prog 20 #[.agg #[.slice A p.nodes.length c, .slice A2 p.rails.length c2], .int .i64 (r2 : Int)] wx fun e w' => e = .returned (.int .i64 (m2 : Int)) ∧ Below wx.heap.size wx w' from fun wx hx => rStrips_any A A2 c c2 p r2 m2 wx (HPB.out wx hx) h2.hr (by have := h2.len; omega) (by omega))
  have HPC := Lib.hid (show ∀ i, i < m → ∀ wx, Below W1.heap.size W1 wx → Calls Tryz.prog 21 #[.agg #[.slice A p.nodes.length c, .slice A2 p.rails.length c2], .agg #[.int .i64 (r : Int), .int .i64 (i : Int)]] wx _ from fun i hi wx hx => rPlace_any A A2 c c2 p r i L wx (HPB.out wx hx) h (by omega))
  have HFU := Lib.hid (show ∀ i k, i < m → k < m2 → ∀ wx, Below W1.heap.size W1 wx → Calls Tryz.prog 30 #[.agg #[.slice A p.nodes.length c, .slice A2 p.rails.length c2], .agg #[.int .i64 (r : Int), .int .i64 (i : Int)], .agg #[.int .i64 hx, .int .i64 sx], .agg #[.int .i64 (r2 : Int), .int .i64 (k : Int)], .agg #[.int .i64 hy, .int .i64 sy]] wx fun e w' => e = .returned (.bool (F i k)) ∧ Below wx.heap.size wx w' from fun i k hi hk wx hw => by
    have o1 := stripAt_ok (r := r) h.hR h.hok (k := i) (by omega)
    have o2 := stripAt_ok (r := r2) h2.hR h2.hok (k := k) (by omega)
    have hh := rFoul_any A A2 c c2 p r i r2 k L L2 hx sx hy sy wx (HPB.out wx hw) h (by omega) h2 (by omega) hX hY
    rw [show foulQ (sAt L i) (sAt L (i + 1)) (sAt L2 k) (sAt L2 (k + 1)) (bendAt L i ++ bendAt L (i + 1)) (bendAt L2 k ++ bendAt L2 (k + 1)) hx sx hy sy = F i k from (foul_q o1 o2 hX hY).trans (by rw [hF])] at hh
    exact hh)
  have e0 := q1.cell 0; have e1 := q1.cell 1
  clear hb3 q1 q2 q3 hP hz1' h h2 hm hm2 hX hY hF hfo hFD hle hle2
  go_enter Tryz.func40, Tryz.ntmps40
  go_wp2
  go_loopw [11, 12] (fun s11 s12 wr => ∃ i : Nat, i ≤ m ∧ s12 = .int .i64 (i : Int) ∧ Own wr W1.heap.size 79 3 fC s11 (zoneL r L fo i) ∧ Below W1.heap.size W1 wr) (fun _ s12 _ => m - (intOf s12).toNat)
  case atStart => exact ⟨0, Nat.zero_le _, rfl, Own.nil _ _ _ _ _, Below.refl _ _⟩
  case round =>
    obtain ⟨i, hi', rfl, hown, hb⟩ := hrel
    have HO := Lib.hid hown; have HB := Lib.hid hb
    obtain ⟨r1, r2', r3⟩ := HR.out _ hb
    have e0 := r1.cell 0; have e1 := r1.cell 1
    have hi41 : i ≤ 41 := by have := HM.out; omega
    clear hown hb r1 r2' r3
    by_cases hin : i < m
    · have hii : (i : Int) < (m : Int) := by omega
      have HIN := Lib.hid hin
      go_wp2_with fail
      refine (HS1.out _ HB.out).mono ?_
      rintro e w2 ⟨rfl, hb2⟩
      have HB2 := Lib.hid (HB.out.trans (hb2.mono HB.out.size))
      have HO2 := Lib.hid (HO.out.below hb2 (Nat.le_refl _))
      have hb3 := HB2.out.alloc HB2.out.size (.cells #[.int .i64 (r : Int), .int .i64 (i : Int)] 34)
      have q3 := Rw.new w2 #[.int .i64 (r : Int), .int .i64 (i : Int)] 34
      have ho3 := HO2.out.alloc (.cells #[.int .i64 (r : Int), .int .i64 (i : Int)] 34)
      have hz3 : (w2.alloc (.cells #[.int .i64 (r : Int), .int .i64 (i : Int)] 34)).heap.size = w2.heap.size + 1 := by simp
      obtain ⟨W3, hW3⟩ : ∃ z, w2.alloc (.cells #[.int .i64 (r : Int), .int .i64 (i : Int)] 34) = z := ⟨_, rfl⟩
      rw [hW3] at hb3 q3 ho3 hz3
      have HB3 := Lib.hid hb3
      have HO3 := Lib.hid ho3
      have HQ3 := Lib.hid (show ∀ wx, Below W3.heap.size W3 wx → Rw wx w2.heap.size 34 #[.int .i64 (r : Int), .int .i64 (i : Int)] from fun wx h => q3.below h (by omega))
      have HZ3 := Lib.hid hz3
      clear hb2 hb3 q3 ho3 hz3 e0 e1
      go_wp2
      go_loopw [14, 15] (fun s14 s15 wr => ∃ k : Nat, k ≤ m2 ∧ s15 = .int .i64 (k : Int) ∧ s14 = .bool ((List.range k).any (F i)) ∧ Below W3.heap.size W3 wr) (fun _ s15 _ => m2 - (intOf s15).toNat)
      case atStart => exact ⟨0, Nat.zero_le _, rfl, rfl, Below.refl _ _⟩
      case round =>
        obtain ⟨k, hk, rfl, rfl, hb⟩ := hrel
        obtain ⟨an, han⟩ : ∃ z, (List.range k).any (F i) = z := ⟨_, rfl⟩
        rw [han]
        have HAN := Lib.hid han
        have HBK := Lib.hid hb
        have HB4 := Lib.hid (HB3.out.trans (hb.mono HB3.out.size))
        obtain ⟨r1, r2', r3⟩ := HR.out _ HB4.out
        have e0 := r1.cell 0; have e1 := r1.cell 1
        have hk41 : k ≤ 41 := by have := HM.out; omega
        clear hb r1 r2' r3 han hW3
        by_cases hkm : k < m2
        · have hkk : (k : Int) < (m2 : Int) := by omega
          have HKM := Lib.hid hkm
          have HNX := Lib.hid (show (List.range (k + 1)).any (F i) = (an || F i k) from by rw [any_range_succ, HAN.out])
          go_wp2_with fail
          refine (HS2.out _ HB4.out).mono ?_
          rintro e w5 ⟨rfl, hb5⟩
          have HBK5 := Lib.hid (HBK.out.trans (hb5.mono HBK.out.size))
          have HB5 := Lib.hid (HB4.out.trans (hb5.mono HB4.out.size))
          obtain ⟨r1, r2', r3⟩ := HR.out _ HB5.out
          have e0 := r1.cell 0; have e1 := r1.cell 1; have e2 := r2'.cell 0; have e3 := r2'.cell 1; have e4 := r3.cell 0; have e5 := r3.cell 1
          have rs := HQ3.out _ HBK5.out
          have e6 := rs.cell 0; have e7 := rs.cell 1
          clear hb5 r1 r2' r3 rs
          cases an with
          | true =>
            go_wp2
            go_roundw
            case rel => exact ⟨k + 1, by omega, vi (by omega), by rw [HNX.out]; rfl, HBK5.out⟩
            case measure => simp [intOf] <;> omega
          | false =>
            go_wp2_with fail
            refine (HFU.out i k HIN.out HKM.out _ HB5.out).mono ?_
            rintro e w6 ⟨rfl, hb6⟩
            have HBK6 := Lib.hid (HBK5.out.trans (hb6.mono HBK5.out.size))
            clear hb6
            go_wp2
            go_roundw
            case rel => exact ⟨k + 1, by omega, vi (by omega), by rw [HNX.out]; rfl, HBK6.out⟩
            case measure => simp [intOf] <;> omega
        · obtain rfl : k = m2 := by omega
          have hkk : ¬ (k : Int) < (k : Int) := by omega
          have HFI := Lib.hid (show fo i = an from by rw [← HFO.out]; exact HAN.out)
          have HZN := Lib.hid (show zoneL r L fo (i + 1) = if fo i = true then zput (zoneL r L fo i) r ((lenTo L i : Nat) : Int) ((lenTo L (i + 1) : Nat) : Int) else zoneL r L fo i from rfl)
          go_wp2_with fail
          refine (HS2.out _ HB4.out).mono ?_
          rintro e w5 ⟨rfl, hb5⟩
          have HBK5 := Lib.hid (HBK.out.trans (hb5.mono HBK.out.size))
          have HB5 := Lib.hid (HB4.out.trans (hb5.mono HB4.out.size))
          have HO5 := Lib.hid (HO3.out.below HBK5.out (Nat.le_refl _))
          obtain ⟨r1, r2', r3⟩ := HR.out _ HB5.out
          have e0 := r1.cell 0; have e1 := r1.cell 1
          have rs := HQ3.out _ HBK5.out
          have e6 := rs.cell 0; have e7 := rs.cell 1
          clear hb5 r1 r2' r3 rs
          cases an with
          | false =>
            have HZ := Lib.hid (show zoneL r L fo (i + 1) = zoneL r L fo i from by rw [HZN.out, HFI.out]; rfl)
            go_wp2
            go_roundw
            case rel => exact ⟨i + 1, by have := HIN.out; omega, vi (by omega), by rw [HZ.out]; exact HO5.out, HB5.out⟩
            case measure => have := HIN.out; simp [intOf] <;> omega
          | true =>
            have HPI := Lib.hid (HPC.out i HIN.out)
            obtain ⟨f0, hf0⟩ : ∃ z, ((lenTo L i : Nat) : Int) = z := ⟨_, rfl⟩
            obtain ⟨f1, hf1⟩ : ∃ z, ((lenTo L (i + 1) : Nat) : Int) = z := ⟨_, rfl⟩
            rw [hf0, hf1] at HZN HPI
            have HZ := Lib.hid (show zoneL r L fo (i + 1) = zput (zoneL r L fo i) r f0 f1 from by rw [HZN.out, HFI.out]; rfl)
            have HLN := Lib.hid (zoneL_len r L fo i)
            obtain ⟨acc, hacc⟩ : ∃ z, zoneL r L fo i = z := ⟨_, rfl⟩
            rw [hacc] at HZ HLN HO5
            clear hf0 hf1 hacc
            go_wp2_with fail
            refine (HPI.out _ HB5.out).mono ?_
            rintro e w6 ⟨rfl, hb6⟩
            have HBK6 := Lib.hid (HBK5.out.trans (hb6.mono HBK5.out.size))
            have HB6 := Lib.hid (HB5.out.trans (hb6.mono HB5.out.size))
            have HO6 := Lib.hid (HO5.out.below hb6 (Nat.le_refl _))
            clear hb6 e0 e1 e6 e7
            obtain ⟨Av, cv, rfl, hc1, hc2, hcn⟩ := HO6.out.form
            rcases List.eq_nil_or_concat acc with rfl | ⟨l, x, eac⟩
            · have HZ2 := Lib.hid (show zoneL r L fo (i + 1) = [] ++ [(⟨r, f0, f1⟩ : C3)] from by rw [HZ.out, zput_nil]; rfl)
              clear hc1 hc2 hcn
              go_wp2_with (at_builtin; go_must (refine wpList_app _ rfl (.tmp 75) (.tmp 80) _ rfl W1.heap.size 79 i0 _ 3 24 Tryz.underlying69 hi hz0 hz1 hz2 rfl (by omega) fC_len fC_one (.slice Av 0 cv) _ rfl (HO6.out.alloc _) _ _ [(⟨r, f0, f1⟩ : C3)] 1 rfl (Sl.new _ _ _ _ rfl) (by simp [maxLen]) (by simp) (by have := HB6.out.size; simp; omega) (fun _ => .inr ⟨_, rfl⟩) ?_); intro v2 w8 o2 gr2 at2 ne2)
              have hB8 := (HB6.out.alloc HB6.out.size (.cells #[.int .i64 (r : Int), .int .i64 f0, .int .i64 f1] 79)).grown gr2 (by have := HB6.out.size; simp; omega) (fun q hq => (HO6.out.lt q hq).1)
              go_roundw
              case rel => exact ⟨i + 1, by have := HIN.out; omega, vi (by omega), by rw [HZ2.out]; exact o2, hB8⟩
              case measure => have := HIN.out; simp [intOf] <;> omega
            · rw [List.concat_eq_append] at eac
              subst eac
              obtain ⟨g, rfl⟩ : ∃ g, Av = some ⟨g, 0, none⟩ := by
                rcases HO6.out.2 with ⟨h, _⟩ | ⟨g, cap, cur, h, _⟩
                · simp at h
                · simp only [Value.slice.injEq] at h
                  exact ⟨g, h.1⟩
              obtain ⟨n, hn⟩ : ∃ n, l.length = n := ⟨_, rfl⟩
              have hn1 : (l ++ [x]).length = n + 1 := by simp [hn]
              have HNL := Lib.hid hn
              have hto : w6.cell? ⟨g, n * 3 + 2, none⟩ = some (.int .i64 x.to) := by
                obtain ⟨b', o', cs, eA, hbb, hcc, hc⟩ := (HO6.out.sl fC_len rfl).at_ (i := n) (by omega)
                obtain ⟨rfl, rfl⟩ : g = b' ∧ 0 = o' := by simpa using eA
                subst hcc
                have := hc 2 (.int .i64 x.to) (by simp [List.getElem_append_right, hn, fC])
                simpa using this
              have hfz : w6.frozen? ⟨g, n * 3 + 2, none⟩ = false := by
                have := HO6.out
                unfold Own at this
                exact World.ownsRow.frozenAt this (n * 3 + 2)
              have hn41 : n ≤ 41 := by have := HLN.out; rw [hn1] at this; omega
              have hgl := HO6.out.lt g rfl
              have HGL := Lib.hid hgl
              rw [hn1] at hc1 ⊢
              have HO7 := Lib.hid (show Own w6 W1.heap.size 79 3 fC (.slice (some ⟨g, 0, none⟩) (n + 1) cv) (l ++ [x]) from by rw [← hn1]; exact HO6.out)
              have wn : IntKind.i64.wrap (((n + 1 : Nat) : Int) - 1) = (n : Int) := by rw [IntKind.wrap_i64]; omega
              have wn2 : IntKind.i64.wrap ((n : Int) + 1 - 1) = (n : Int) := by rw [IntKind.wrap_i64]; omega
              have n0 : (0 : Int) ≤ (n : Int) := by omega
              have n1 : (n : Int) < ((n + 1 : Nat) : Int) := by omega
              have n2 : (0 : Int) < ((n + 1 : Nat) : Int) := by omega
              have n3 : (n : Int) < (n : Int) + 1 := by omega
              have n4 : (0 : Int) < (n : Int) + 1 := by omega
              have ng : g < w6.heap.size := hgl.2
              clear hn hn1 hgl hc1 hc2 hcn HO6
              by_cases hx' : x.to = f0
              · have HZ2 := Lib.hid (show zoneL r L fo (i + 1) = l ++ [(⟨x.rail, x.frm, f1⟩ : C3)] from by rw [HZ.out, zput_snoc, if_pos hx'])
                go_wp2
                have hB8 : Below W1.heap.size W1 (w6.setCell ⟨g, n * 3 + 2, none⟩ (.int .i64 f1)) := HB6.out.setCell HGL.out.1 _
                go_roundw
                case rel => exact ⟨i + 1, by have := HIN.out; omega, vi (by omega), by rw [HZ2.out]; exact (Own.setTo f1 HNL.out HO7.out).1, hB8⟩
                case measure => have := HIN.out; simp [intOf] <;> omega
              · have HZ2 := Lib.hid (show zoneL r L fo (i + 1) = (l ++ [x]) ++ [(⟨r, f0, f1⟩ : C3)] from by rw [HZ.out, zput_snoc, if_neg hx'])
                have HLE := Lib.hid (show (l ++ [x]).length = n + 1 from by simp [HNL.out])
                go_wp2_with (at_builtin; go_must (refine wpList_app _ rfl (.tmp 75) (.tmp 80) _ rfl W1.heap.size 79 i0 _ 3 24 Tryz.underlying69 hi hz0 hz1 hz2 rfl (by omega) fC_len fC_one (.slice (some ⟨g, 0, none⟩) (n + 1) cv) _ rfl (HO7.out.alloc _) _ _ [(⟨r, f0, f1⟩ : C3)] 1 rfl (Sl.new _ _ _ _ rfl) (by rw [HLE.out]; simp only [maxLen, List.length_cons, List.length_nil]; omega) (by rw [HLE.out]; simp only [List.length_cons, List.length_nil]; omega) (by have := HB6.out.size; simp; omega) (fun _ => .inr ⟨_, rfl⟩) ?_); intro v2 w8 o2 gr2 at2 ne2)
                have hB8 := (HB6.out.alloc HB6.out.size (.cells #[.int .i64 (r : Int), .int .i64 f0, .int .i64 f1] 79)).grown gr2 (by have := HB6.out.size; simp; omega) (fun q hq => (HO7.out.lt q hq).1)
                go_roundw
                case rel => exact ⟨i + 1, by have := HIN.out; omega, vi (by omega), by rw [HZ2.out]; exact o2, hB8⟩
                case measure => have := HIN.out; simp [intOf] <;> omega
    · obtain rfl : i = m := by omega
      have hii : ¬ (i : Int) < (i : Int) := by omega
      go_wp2_with fail
      refine (HS1.out _ HB.out).mono ?_
      rintro e w2 ⟨rfl, hb2⟩
      have HB2 := Lib.hid (HB.out.trans (hb2.mono HB.out.size))
      have HO2 := Lib.hid (HO.out.below hb2 (Nat.le_refl _))
      clear hb2 e0 e1
      go_wp2
      go_ret
      exact ⟨_, rfl, HO2.out.lower (by have := HZ1.out; omega), HB1.out.trans (HB2.out.mono HB1.out.size)⟩
end Go.Proofs.YtekambdnmaompaaGreat.SW
