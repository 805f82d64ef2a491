/- Texts C34 C19 C20. -/
import Derived.Test.YtbnfnpakibkboaaGreatKH
import Derived.Test.YtbnfnpakibkboaaGreatKG
namespace Go.Proofs.YtbnfnpakibkboaaGreat
set_option linter.unusedVariables false
set_option linter.unusedSimpArgs false
open Go.RowKit

end Go.Proofs.YtbnfnpakibkboaaGreat

namespace Go.Proofs.YtbnfnpakibkboaaGreat
set_option linter.unusedVariables false
set_option linter.unusedSimpArgs false
open Go.RowKit

set_option maxRecDepth 100000 in
set_option maxHeartbeats 4000000 in
theorem clos148_any (g1 g2 : Nat) (Av : Option Addr) (n cv : Nat) (y1 : Value) (d : Int) (v : Nat → Int) (s1 s2 s3 so sk : Sc) (ns : List Nat) (x : Fv) (w : World) (hn : ns.length = n) (hn1 : n = s1.n) (hn40 : n ≤ 40)
    (hS : Sl w w.heap.size 1 CI s1.A (nI ns)) (hV : Sl w w.heap.size 1 CI Av ((List.range n).map v)) (q1 : Rw w g1 136 #[.slice Av n cv, y1, .int .i64 d]) (q2 : Rw w g2 134 #[.slice s1.A s1.n s1.c, .slice s2.A s2.n s2.c, .slice s3.A s3.n s3.c, .slice so.A so.n so.c, .slice sk.A sk.n sk.c]) (hx : x.pl ∈ nI ns)
    (hb1 : -9223372036854775808 ≤ x.volts * d) (hb2 : x.volts * d ≤ 9223372036854775807) :
    Calls Tryz.prog 148 #[.agg #[.int .i64 x.pl, .int .i64 x.volts, .int .i64 x.siem, .int .i64 x.limit], .pointer (some ⟨g1, 0, none⟩), .pointer (some ⟨g2, 0, none⟩)] w fun e w' => e = .returned (.bool (decide (v ((nI ns).idxOf x.pl) < x.volts * d))) ∧ Below w.heap.size w w' := by
  have hix : ixI (nI ns) x.pl = ((nI ns).idxOf x.pl : Int) := by unfold ixI; rw [if_pos hx]
  have hlt := List.idxOf_lt_length_iff.2 hx
  have hnl : (nI ns).length = n := by unfold nI; rw [List.length_map, hn]
  rw [hnl] at hlt
  have hb := (Below.refl w.heap.size w).alloc (Nat.le_refl _) (.cells #[.int .i64 x.pl, .int .i64 x.volts, .int .i64 x.siem, .int .i64 x.limit] 58)
  have q3 := Rw.new w #[.int .i64 x.pl, .int .i64 x.volts, .int .i64 x.siem, .int .i64 x.limit] 58
  obtain ⟨k, hk⟩ : ∃ k, (nI ns).idxOf x.pl = k := ⟨_, rfl⟩
  rw [hk] at hix hlt ⊢
  obtain ⟨b, o, rfl, gb, c0⟩ := int_at hV (i := k) (by simp; omega)
  rw [List.getElem_map, List.getElem_range] at c0
  obtain ⟨vk, hvk⟩ : ∃ g, v k = g := ⟨_, rfl⟩
  rw [hvk] at c0 ⊢
  have hkn : (k : Int) < (n : Int) := by omega
  have hk0 : (0 : Int) ≤ (k : Int) := by omega
  have hw : IntKind.i64.wrap (x.volts * d) = x.volts * d := by rw [IntKind.wrap_i64]; omega
  have g1' := q1.lt; have g2' := q2.lt
  obtain ⟨W1, hW1⟩ : ∃ z, w.alloc (.cells #[.int .i64 x.pl, .int .i64 x.volts, .int .i64 x.siem, .int .i64 x.limit] 58) = z := ⟨_, rfl⟩
  rw [hW1] at hb q3
  have HB1 := Lib.hid hb
  have HRS := Lib.hid (show ∀ wx, Below W1.heap.size W1 wx → Rw wx g1 136 #[.slice (some ⟨b, o, none⟩) n cv, y1, .int .i64 d] ∧ Rw wx g2 134 #[.slice s1.A s1.n s1.c, .slice s2.A s2.n s2.c, .slice s3.A s3.n s3.c, .slice so.A so.n so.c, .slice sk.A sk.n sk.c] ∧ Rw wx w.heap.size 58 #[.int .i64 x.pl, .int .i64 x.volts, .int .i64 x.siem, .int .i64 x.limit] ∧ wx.cell? ⟨b, o + k, none⟩ = some (.int .i64 vk) from fun wx h => by
    have h' := hb.trans (h.mono hb.size)
    exact ⟨q1.below h' g1', q2.below h' g2', q3.below h q3.lt, (World.cell?_of_block (a := ⟨b, o + k, none⟩) (h'.5 b gb)).trans c0⟩)
  have HIX := Lib.hid (show ∀ wx, Below W1.heap.size W1 wx → Calls Tryz.prog 95 #[.agg #[.slice s1.A s1.n s1.c, .slice s2.A s2.n s2.c, .slice s3.A s3.n s3.c, .slice so.A so.n so.c, .slice sk.A sk.n sk.c], .int .i64 x.pl] wx fun e w' => e = .returned (.int .i64 (k : Int)) ∧ Below wx.heap.size wx w' from fun wx h => by
    have h' := hb.trans (h.mono hb.size)
    rw [← hix]
    exact cindex_any s1 s2 s3 so sk ns x.pl wx (by omega) (by omega) ((hS.below h').more (fun _ _ h => h) (by have := h'.size; omega)))
  clear hS hV q1 q2 hx hb1 hb2 hix hnl hb q3 hk gb c0 hvk hlt g1' g2' hn hn1 hn40
  go_enter Tryz.func148, Tryz.ntmps148
  go_upto_region 1 with (fail)
  (try rw [hW1])
  clear hW1
  have hbq : Below W1.heap.size W1 W1.drew := (Below.refl _ _).drew
  have HS := Lib.hid (HRS.out _ hbq)
  refine wp_region_noPanic ?_
  refine wp_region_held_drew (S := fun wx => Rw wx (g1) 136 #[.slice (some ⟨b, o, none⟩) n cv, y1, .int .i64 d] ∧ Rw wx (g2) 134 #[.slice s1.A s1.n s1.c, .slice s2.A s2.n s2.c, .slice s3.A s3.n s3.c, .slice so.A so.n so.c, .slice sk.A sk.n sk.c] ∧ Rw wx (w.heap.size) 58 #[.int .i64 x.pl, .int .i64 x.volts, .int .i64 x.siem, .int .i64 x.limit] ∧ wx.cell? ⟨b, o + k, none⟩ = some (.int .i64 vk)) (by kernel_rfl) HS.out (fun _ => ?_)
  refine hTk (i := 0) (d := 5) (v := .pointer (some ⟨g1, 0, none⟩)) rfl rfl (Or.inl ⟨rfl, by rintro W' ⟨r0, r1, r2, r3⟩; have ry0 := r0.cell; have ry1 := r1.cell; have ry2 := r2.cell; go_simp⟩) HS.out ?_
  simp only [Act.put, sB, sZ, sS]
  refine hTk (i := 1) (d := 6) (v := .slice (some ⟨b, o, none⟩) n cv) rfl rfl (Or.inl ⟨rfl, by rintro W' ⟨r0, r1, r2, r3⟩; have ry0 := r0.cell; have ry1 := r1.cell; have ry2 := r2.cell; go_simp⟩) HS.out ?_
  simp only [Act.put, sB, sZ, sS]
  refine hTk (i := 2) (d := 7) (v := .agg #[.slice s1.A s1.n s1.c, .slice s2.A s2.n s2.c, .slice s3.A s3.n s3.c, .slice so.A so.n so.c, .slice sk.A sk.n sk.c]) rfl rfl (Or.inl ⟨rfl, by rintro W' ⟨r0, r1, r2, r3⟩; have ry0 := r0.cell; have ry1 := r1.cell; have ry2 := r2.cell; go_simp⟩) HS.out ?_
  simp only [Act.put, sB, sZ, sS]
  refine hTk (i := 3) (d := 8) (v := .pointer (some ⟨w.heap.size, 0, none⟩)) rfl rfl (Or.inl ⟨rfl, by rintro W' ⟨r0, r1, r2, r3⟩; have ry0 := r0.cell; have ry1 := r1.cell; have ry2 := r2.cell; go_simp⟩) HS.out ?_
  simp only [Act.put, sB, sZ, sS]
  refine hTk (i := 4) (d := 9) (v := .int .i64 x.pl) rfl rfl (Or.inl ⟨rfl, by rintro W' ⟨r0, r1, r2, r3⟩; have ry0 := r0.cell; have ry1 := r1.cell; have ry2 := r2.cell; go_simp⟩) HS.out ?_
  simp only [Act.put, sB, sZ, sS]
  refine hTk (i := 8) (d := 13) (v := .pointer (some ⟨w.heap.size, 1, none⟩)) rfl rfl (Or.inl ⟨rfl, by rintro W' ⟨r0, r1, r2, r3⟩; have ry0 := r0.cell; have ry1 := r1.cell; have ry2 := r2.cell; go_simp⟩) HS.out ?_
  simp only [Act.put, sB, sZ, sS]
  refine hTk (i := 9) (d := 14) (v := .int .i64 x.volts) rfl rfl (Or.inl ⟨rfl, by rintro W' ⟨r0, r1, r2, r3⟩; have ry0 := r0.cell; have ry1 := r1.cell; have ry2 := r2.cell; go_simp⟩) HS.out ?_
  simp only [Act.put, sB, sZ, sS]
  refine hTk (i := 10) (d := 15) (v := .pointer (some ⟨g1, 2, none⟩)) rfl rfl (Or.inl ⟨rfl, by rintro W' ⟨r0, r1, r2, r3⟩; have ry0 := r0.cell; have ry1 := r1.cell; have ry2 := r2.cell; go_simp⟩) HS.out ?_
  simp only [Act.put, sB, sZ, sS]
  refine hTk (i := 11) (d := 16) (v := .int .i64 d) rfl rfl (Or.inl ⟨rfl, by rintro W' ⟨r0, r1, r2, r3⟩; have ry0 := r0.cell; have ry1 := r1.cell; have ry2 := r2.cell; go_simp⟩) HS.out ?_
  simp only [Act.put, sB, sZ, sS]
  refine hTk (i := 12) (d := 17) (v := .int .i64 (x.volts * d)) rfl rfl (Or.inl ⟨rfl, by rintro W' ⟨r0, r1, r2, r3⟩; have ry0 := r0.cell; have ry1 := r1.cell; have ry2 := r2.cell; go_simp⟩) HS.out ?_
  simp only [Act.put, sB, sZ, sS]
  refine wpAnyH_ready (rs := [5]) (by kernel_rfl) (by simp) ?_
  refine AllReadyH.cons rfl (fun K hK => ?_) AllReadyH.nil
  rw [if_pos (by rfl)]
  go_simp
  go_at_call 95
  (with_reducible refine (HIX.out _ hbq).mono ?_)
  rintro e wc0 ⟨rfl, hbn⟩
  replace hbq := hbq.trans (hbn.mono hbq.size)
  clear hbn
  have HS := Lib.hid (HRS.out _ hbq)
  refine hK.out _ _ HS.out (fun _ => ?_)
  clear hK K
  try simp only [Act.put, sB, sZ, sS]
  refine hTk (i := 6) (d := 11) (v := .pointer (some ⟨b, o + k, none⟩)) rfl rfl (Or.inl ⟨rfl, by rintro W' ⟨r0, r1, r2, r3⟩; have ry0 := r0.cell; have ry1 := r1.cell; have ry2 := r2.cell; go_simp⟩) HS.out ?_
  simp only [Act.put, sB, sZ, sS]
  refine hTk (i := 7) (d := 12) (v := .int .i64 vk) rfl rfl (Or.inl ⟨rfl, by rintro W' ⟨r0, r1, r2, r3⟩; have ry0 := r0.cell; have ry1 := r1.cell; have ry2 := r2.cell; go_simp⟩) HS.out ?_
  simp only [Act.put, sB, sZ, sS]
  refine hTk (i := 13) (d := 18) (v := .bool (decide (vk < x.volts * d))) rfl rfl (Or.inl ⟨rfl, by rintro W' ⟨r0, r1, r2, r3⟩; have ry0 := r0.cell; have ry1 := r1.cell; have ry2 := r2.cell; go_simp⟩) HS.out ?_
  simp only [Act.put, sB, sZ, sS]
  refine hTk (i := 14) (d := 4) (v := .bool (decide (vk < x.volts * d))) rfl rfl (Or.inl ⟨rfl, by rintro W' ⟨r0, r1, r2, r3⟩; have ry0 := r0.cell; have ry1 := r1.cell; have ry2 := r2.cell; go_simp⟩) HS.out ?_
  simp only [Act.put, sB, sZ, sS]
  refine wpAnyH_done (by kernel_rfl) ?_ _
  clear HS
  refine NoPanic.normal ?_
  go_wp2
  go_ret
  exact ⟨rfl, (HB1.out.trans (hbq.mono HB1.out.size))⟩


set_option maxRecDepth 100000 in
set_option maxHeartbeats 4000000 in
theorem clos150_any (g1 g2 : Nat) (Av : Option Addr) (n cv : Nat) (y1 : Value) (d : Int) (v : Nat → Int) (s1 s2 s3 so sk : Sc) (ns : List Nat) (x : Fv) (w : World) (hn : ns.length = n) (hn1 : n = s1.n) (hn40 : n ≤ 40)
    (hS : Sl w w.heap.size 1 CI s1.A (nI ns)) (hV : Sl w w.heap.size 1 CI Av ((List.range n).map v)) (q1 : Rw w g1 136 #[.slice Av n cv, y1, .int .i64 d]) (q2 : Rw w g2 134 #[.slice s1.A s1.n s1.c, .slice s2.A s2.n s2.c, .slice s3.A s3.n s3.c, .slice so.A so.n so.c, .slice sk.A sk.n sk.c]) (hx : x.pl ∈ nI ns)
    (hb1 : -9223372036854775808 ≤ x.volts * d) (hb2 : x.volts * d ≤ 9223372036854775807) :
    Calls Tryz.prog 150 #[.agg #[.int .i64 x.pl, .int .i64 x.volts, .int .i64 x.siem, .int .i64 x.limit], .pointer (some ⟨g1, 0, none⟩), .pointer (some ⟨g2, 0, none⟩)] w fun e w' => e = .returned (.bool (decide (v ((nI ns).idxOf x.pl) < x.volts * d))) ∧ Below w.heap.size w w' := by
  have hix : ixI (nI ns) x.pl = ((nI ns).idxOf x.pl : Int) := by unfold ixI; rw [if_pos hx]
  have hlt := List.idxOf_lt_length_iff.2 hx
  have hnl : (nI ns).length = n := by unfold nI; rw [List.length_map, hn]
  rw [hnl] at hlt
  have hb := (Below.refl w.heap.size w).alloc (Nat.le_refl _) (.cells #[.int .i64 x.pl, .int .i64 x.volts, .int .i64 x.siem, .int .i64 x.limit] 58)
  have q3 := Rw.new w #[.int .i64 x.pl, .int .i64 x.volts, .int .i64 x.siem, .int .i64 x.limit] 58
  obtain ⟨k, hk⟩ : ∃ k, (nI ns).idxOf x.pl = k := ⟨_, rfl⟩
  rw [hk] at hix hlt ⊢
  obtain ⟨b, o, rfl, gb, c0⟩ := int_at hV (i := k) (by simp; omega)
  rw [List.getElem_map, List.getElem_range] at c0
  obtain ⟨vk, hvk⟩ : ∃ g, v k = g := ⟨_, rfl⟩
  rw [hvk] at c0 ⊢
  have hkn : (k : Int) < (n : Int) := by omega
  have hk0 : (0 : Int) ≤ (k : Int) := by omega
  have hw : IntKind.i64.wrap (x.volts * d) = x.volts * d := by rw [IntKind.wrap_i64]; omega
  have g1' := q1.lt; have g2' := q2.lt
  obtain ⟨W1, hW1⟩ : ∃ z, w.alloc (.cells #[.int .i64 x.pl, .int .i64 x.volts, .int .i64 x.siem, .int .i64 x.limit] 58) = z := ⟨_, rfl⟩
  rw [hW1] at hb q3
  have HB1 := Lib.hid hb
  have HRS := Lib.hid (show ∀ wx, Below W1.heap.size W1 wx → Rw wx g1 136 #[.slice (some ⟨b, o, none⟩) n cv, y1, .int .i64 d] ∧ Rw wx g2 134 #[.slice s1.A s1.n s1.c, .slice s2.A s2.n s2.c, .slice s3.A s3.n s3.c, .slice so.A so.n so.c, .slice sk.A sk.n sk.c] ∧ Rw wx w.heap.size 58 #[.int .i64 x.pl, .int .i64 x.volts, .int .i64 x.siem, .int .i64 x.limit] ∧ wx.cell? ⟨b, o + k, none⟩ = some (.int .i64 vk) from fun wx h => by
    have h' := hb.trans (h.mono hb.size)
    exact ⟨q1.below h' g1', q2.below h' g2', q3.below h q3.lt, (World.cell?_of_block (a := ⟨b, o + k, none⟩) (h'.5 b gb)).trans c0⟩)
  have HIX := Lib.hid (show ∀ wx, Below W1.heap.size W1 wx → Calls Tryz.prog 95 #[.agg #[.slice s1.A s1.n s1.c, .slice s2.A s2.n s2.c, .slice s3.A s3.n s3.c, .slice so.A so.n so.c, .slice sk.A sk.n sk.c], .int .i64 x.pl] wx fun e w' => e = .returned (.int .i64 (k : Int)) ∧ Below wx.heap.size wx w' from fun wx h => by
    have h' := hb.trans (h.mono hb.size)
    rw [← hix]
    exact cindex_any s1 s2 s3 so sk ns x.pl wx (by omega) (by omega) ((hS.below h').more (fun _ _ h => h) (by have := h'.size; omega)))
  clear hS hV q1 q2 hx hb1 hb2 hix hnl hb q3 hk gb c0 hvk hlt g1' g2' hn hn1 hn40
  go_enter Tryz.func150, Tryz.ntmps150
  go_upto_region 1 with (fail)
  (try rw [hW1])
  clear hW1
  have hbq : Below W1.heap.size W1 W1.drew := (Below.refl _ _).drew
  have HS := Lib.hid (HRS.out _ hbq)
  refine wp_region_noPanic ?_
  refine wp_region_held_drew (S := fun wx => Rw wx (g1) 136 #[.slice (some ⟨b, o, none⟩) n cv, y1, .int .i64 d] ∧ Rw wx (g2) 134 #[.slice s1.A s1.n s1.c, .slice s2.A s2.n s2.c, .slice s3.A s3.n s3.c, .slice so.A so.n so.c, .slice sk.A sk.n sk.c] ∧ Rw wx (w.heap.size) 58 #[.int .i64 x.pl, .int .i64 x.volts, .int .i64 x.siem, .int .i64 x.limit] ∧ wx.cell? ⟨b, o + k, none⟩ = some (.int .i64 vk)) (by kernel_rfl) HS.out (fun _ => ?_)
  refine hTk (i := 0) (d := 5) (v := .pointer (some ⟨g1, 0, none⟩)) rfl rfl (Or.inl ⟨rfl, by rintro W' ⟨r0, r1, r2, r3⟩; have ry0 := r0.cell; have ry1 := r1.cell; have ry2 := r2.cell; go_simp⟩) HS.out ?_
  simp only [Act.put, sB, sZ, sS]
  refine hTk (i := 1) (d := 6) (v := .slice (some ⟨b, o, none⟩) n cv) rfl rfl (Or.inl ⟨rfl, by rintro W' ⟨r0, r1, r2, r3⟩; have ry0 := r0.cell; have ry1 := r1.cell; have ry2 := r2.cell; go_simp⟩) HS.out ?_
  simp only [Act.put, sB, sZ, sS]
  refine hTk (i := 2) (d := 7) (v := .agg #[.slice s1.A s1.n s1.c, .slice s2.A s2.n s2.c, .slice s3.A s3.n s3.c, .slice so.A so.n so.c, .slice sk.A sk.n sk.c]) rfl rfl (Or.inl ⟨rfl, by rintro W' ⟨r0, r1, r2, r3⟩; have ry0 := r0.cell; have ry1 := r1.cell; have ry2 := r2.cell; go_simp⟩) HS.out ?_
  simp only [Act.put, sB, sZ, sS]
  refine hTk (i := 3) (d := 8) (v := .pointer (some ⟨w.heap.size, 0, none⟩)) rfl rfl (Or.inl ⟨rfl, by rintro W' ⟨r0, r1, r2, r3⟩; have ry0 := r0.cell; have ry1 := r1.cell; have ry2 := r2.cell; go_simp⟩) HS.out ?_
  simp only [Act.put, sB, sZ, sS]
  refine hTk (i := 4) (d := 9) (v := .int .i64 x.pl) rfl rfl (Or.inl ⟨rfl, by rintro W' ⟨r0, r1, r2, r3⟩; have ry0 := r0.cell; have ry1 := r1.cell; have ry2 := r2.cell; go_simp⟩) HS.out ?_
  simp only [Act.put, sB, sZ, sS]
  refine hTk (i := 8) (d := 13) (v := .pointer (some ⟨w.heap.size, 1, none⟩)) rfl rfl (Or.inl ⟨rfl, by rintro W' ⟨r0, r1, r2, r3⟩; have ry0 := r0.cell; have ry1 := r1.cell; have ry2 := r2.cell; go_simp⟩) HS.out ?_
  simp only [Act.put, sB, sZ, sS]
  refine hTk (i := 9) (d := 14) (v := .int .i64 x.volts) rfl rfl (Or.inl ⟨rfl, by rintro W' ⟨r0, r1, r2, r3⟩; have ry0 := r0.cell; have ry1 := r1.cell; have ry2 := r2.cell; go_simp⟩) HS.out ?_
  simp only [Act.put, sB, sZ, sS]
  refine hTk (i := 10) (d := 15) (v := .pointer (some ⟨g1, 2, none⟩)) rfl rfl (Or.inl ⟨rfl, by rintro W' ⟨r0, r1, r2, r3⟩; have ry0 := r0.cell; have ry1 := r1.cell; have ry2 := r2.cell; go_simp⟩) HS.out ?_
  simp only [Act.put, sB, sZ, sS]
  refine hTk (i := 11) (d := 16) (v := .int .i64 d) rfl rfl (Or.inl ⟨rfl, by rintro W' ⟨r0, r1, r2, r3⟩; have ry0 := r0.cell; have ry1 := r1.cell; have ry2 := r2.cell; go_simp⟩) HS.out ?_
  simp only [Act.put, sB, sZ, sS]
  refine hTk (i := 12) (d := 17) (v := .int .i64 (x.volts * d)) rfl rfl (Or.inl ⟨rfl, by rintro W' ⟨r0, r1, r2, r3⟩; have ry0 := r0.cell; have ry1 := r1.cell; have ry2 := r2.cell; go_simp⟩) HS.out ?_
  simp only [Act.put, sB, sZ, sS]
  refine wpAnyH_ready (rs := [5]) (by kernel_rfl) (by simp) ?_
  refine AllReadyH.cons rfl (fun K hK => ?_) AllReadyH.nil
  rw [if_pos (by rfl)]
  go_simp
  go_at_call 95
  (with_reducible refine (HIX.out _ hbq).mono ?_)
  rintro e wc0 ⟨rfl, hbn⟩
  replace hbq := hbq.trans (hbn.mono hbq.size)
  clear hbn
  have HS := Lib.hid (HRS.out _ hbq)
  refine hK.out _ _ HS.out (fun _ => ?_)
  clear hK K
  try simp only [Act.put, sB, sZ, sS]
  refine hTk (i := 6) (d := 11) (v := .pointer (some ⟨b, o + k, none⟩)) rfl rfl (Or.inl ⟨rfl, by rintro W' ⟨r0, r1, r2, r3⟩; have ry0 := r0.cell; have ry1 := r1.cell; have ry2 := r2.cell; go_simp⟩) HS.out ?_
  simp only [Act.put, sB, sZ, sS]
  refine hTk (i := 7) (d := 12) (v := .int .i64 vk) rfl rfl (Or.inl ⟨rfl, by rintro W' ⟨r0, r1, r2, r3⟩; have ry0 := r0.cell; have ry1 := r1.cell; have ry2 := r2.cell; go_simp⟩) HS.out ?_
  simp only [Act.put, sB, sZ, sS]
  refine hTk (i := 13) (d := 18) (v := .bool (decide (vk < x.volts * d))) rfl rfl (Or.inl ⟨rfl, by rintro W' ⟨r0, r1, r2, r3⟩; have ry0 := r0.cell; have ry1 := r1.cell; have ry2 := r2.cell; go_simp⟩) HS.out ?_
  simp only [Act.put, sB, sZ, sS]
  refine hTk (i := 14) (d := 4) (v := .bool (decide (vk < x.volts * d))) rfl rfl (Or.inl ⟨rfl, by rintro W' ⟨r0, r1, r2, r3⟩; have ry0 := r0.cell; have ry1 := r1.cell; have ry2 := r2.cell; go_simp⟩) HS.out ?_
  simp only [Act.put, sB, sZ, sS]
  refine wpAnyH_done (by kernel_rfl) ?_ _
  clear HS
  refine NoPanic.normal ?_
  go_wp2
  go_ret
  exact ⟨rfl, (HB1.out.trans (hbq.mono HB1.out.size))⟩


end Go.Proofs.YtbnfnpakibkboaaGreat

namespace Go.Proofs.YtbnfnpakibkboaaGreat
set_option linter.unusedVariables false
set_option linter.unusedSimpArgs false
open Go.RowKit

/-- worlds that differ from B on alone, block fb too is the same -/
structure Bf (fb B : Nat) (a b : World) : Prop where
  os : b.os = a.os
  tape : b.tape = a.tape
  output : b.output = a.output
  size : a.heap.size ≤ b.heap.size
  block : ∀ k, k < B ∨ k = fb → b.heap[k]? = a.heap[k]?
theorem Bf.refl (m B : Nat) (a : World) : Bf m B a a := ⟨rfl, rfl, rfl, Nat.le_refl _, fun _ _ => rfl⟩
theorem Bf.trans {m B : Nat} {a b c : World} (h : Bf m B a b) (k : Bf m B b c) : Bf m B a c := ⟨k.os.trans h.os, k.tape.trans h.tape, k.output.trans h.output, Nat.le_trans h.size k.size, fun j h1 => (k.block j h1).trans (h.block j h1)⟩
theorem Bf.of {m B : Nat} {a b : World} (h : Below a.heap.size a b) (hB : B ≤ a.heap.size ∧ m < a.heap.size) : Bf m B a b := ⟨h.1, h.2, h.3, h.4, fun k h1 => h.5 k (by omega)⟩
theorem Bf.drew {m B : Nat} {a b : World} (h : Bf m B a b) : Bf m B a b.drew := ⟨h.os, h.tape, h.output, h.size, h.block⟩
theorem Bf.alloc {m B : Nat} {a b : World} (h : Bf m B a b) (hB : B ≤ b.heap.size ∧ m < b.heap.size) (o : Obj) : Bf m B a (b.alloc o) := h.trans (Bf.of ((Below.refl b.heap.size b).alloc (Nat.le_refl _) o) hB)
theorem bfGrown {m B : Nat} {a b c : World} {row : Option Nat} (h : Bf m B a b) (hg : b.grownBy c row) (hr : ∀ j, row = some j → B ≤ j ∧ j < m) (hB : B ≤ b.heap.size ∧ m < b.heap.size) : Bf m B a c :=
  h.trans ⟨hg.os, hg.tape, hg.output, hg.size, fun k h1 => hg.block k (by omega) (fun e => by have := hr k e.symm; omega)⟩
/-- what a feeder gives -/
def ampZ (ns : List Nat) (v : Nat → Int) (d : Int) (f : Fv) : Int := f.siem * max 0 (f.volts * d - v ((nI ns).idxOf f.pl))
def WaI (Av0 : Option Addr) (n cv0 : Nat) (d : Int) (v : Nat → Int) (s1 s2 s3 so sk : Sc) (ns : List Nat) (on : List Fv) (w : World) (i : Nat) (wr : World) : Prop :=
  ∃ (A : Option Addr) (m c : Nat), Rw wr (w.heap.size + 1) 136 #[.slice Av0 n cv0, .slice A m c, .int .i64 d] ∧ Own wr (w.heap.size + 3) 3 1 fI (.slice A m c) ((on.take i).map (ampZ ns v d)) ∧ m = i ∧ Rw wr w.heap.size 134 #[.slice s1.A s1.n s1.c, .slice s2.A s2.n s2.c, .slice s3.A s3.n s3.c, .slice so.A so.n so.c, .slice sk.A sk.n sk.c] ∧ Rw wr (w.heap.size + 1 + 1) 136 #[.slice none 0 0, .slice none 0 0, .int .i64 0] ∧ Below w.heap.size w wr ∧ w.heap.size + 3 ≤ wr.heap.size
set_option maxRecDepth 100000 in
set_option maxHeartbeats 8000000 in
theorem withAmps_any (Av0 : Option Addr) (n cv0 : Nat) (d : Int) (v : Nat → Int) (s1 s2 s3 so sk : Sc) (ns : List Nat) (on : List Fv) (w : World) (hn : ns.length = n) (hn1 : n = s1.n) (hn40 : n ≤ 40) (hon : on.length = so.n) (hon2 : so.n ≤ 1000)
    (hS : Sl w w.heap.size 1 CI s1.A (nI ns)) (hO : Sl w w.heap.size 4 CF so.A on) (hV : Sl w w.heap.size 1 CI Av0 ((List.range n).map v)) (hx : ∀ x ∈ on, x.pl ∈ nI ns ∧ 0 ≤ x.siem ∧ x.siem ≤ 4 ∧ -1000000000000000000 ≤ x.volts * d ∧ x.volts * d ≤ 1000000000000000000)
    (hv : ∀ k, k < n → -1000000000000000000 ≤ v k ∧ v k ≤ 1000000000000000000) :
    Calls Tryz.prog 149 #[.agg #[.slice s1.A s1.n s1.c, .slice s2.A s2.n s2.c, .slice s3.A s3.n s3.c, .slice so.A so.n so.c, .slice sk.A sk.n sk.c], .agg #[.slice Av0 n cv0, .slice none 0 0, .int .i64 d]] w fun e w' => ∃ (A : Option Addr) (c : Nat), e = .returned (.agg #[.slice Av0 n cv0, .slice A so.n c, .int .i64 d]) ∧ Own w' w.heap.size 3 1 fI (.slice A so.n c) (on.map (ampZ ns v d)) ∧ Below w.heap.size w w' := by
  have hb1 := (((Below.refl w.heap.size w).alloc (Nat.le_refl _) (.cells #[.slice s1.A s1.n s1.c, .slice s2.A s2.n s2.c, .slice s3.A s3.n s3.c, .slice so.A so.n so.c, .slice sk.A sk.n sk.c] 134)).alloc (by simp) (.cells #[.slice Av0 n cv0, .slice none 0 0, .int .i64 d] 136)).alloc (by simp; omega) (.cells #[.slice none 0 0, .slice none 0 0, .int .i64 0] 136)
  have q0 : Rw (((w.alloc (.cells #[.slice s1.A s1.n s1.c, .slice s2.A s2.n s2.c, .slice s3.A s3.n s3.c, .slice so.A so.n so.c, .slice sk.A sk.n sk.c] 134)).alloc (.cells #[.slice Av0 n cv0, .slice none 0 0, .int .i64 d] 136)).alloc (.cells #[.slice none 0 0, .slice none 0 0, .int .i64 0] 136)) w.heap.size 134 #[.slice s1.A s1.n s1.c, .slice s2.A s2.n s2.c, .slice s3.A s3.n s3.c, .slice so.A so.n so.c, .slice sk.A sk.n sk.c] := ((Rw.new w #[.slice s1.A s1.n s1.c, .slice s2.A s2.n s2.c, .slice s3.A s3.n s3.c, .slice so.A so.n so.c, .slice sk.A sk.n sk.c] 134).alloc _).alloc _
  have q1 : Rw (((w.alloc (.cells #[.slice s1.A s1.n s1.c, .slice s2.A s2.n s2.c, .slice s3.A s3.n s3.c, .slice so.A so.n so.c, .slice sk.A sk.n sk.c] 134)).alloc (.cells #[.slice Av0 n cv0, .slice none 0 0, .int .i64 d] 136)).alloc (.cells #[.slice none 0 0, .slice none 0 0, .int .i64 0] 136)) (w.heap.size + 1) 136 #[.slice Av0 n cv0, .slice none 0 0, .int .i64 d] := by
    have := (Rw.new (w.alloc (.cells #[.slice s1.A s1.n s1.c, .slice s2.A s2.n s2.c, .slice s3.A s3.n s3.c, .slice so.A so.n so.c, .slice sk.A sk.n sk.c] 134)) #[.slice Av0 n cv0, .slice none 0 0, .int .i64 d] 136).alloc (.cells #[.slice none 0 0, .slice none 0 0, .int .i64 0] 136); rwa [World.size_alloc] at this
  have q2 : Rw (((w.alloc (.cells #[.slice s1.A s1.n s1.c, .slice s2.A s2.n s2.c, .slice s3.A s3.n s3.c, .slice so.A so.n so.c, .slice sk.A sk.n sk.c] 134)).alloc (.cells #[.slice Av0 n cv0, .slice none 0 0, .int .i64 d] 136)).alloc (.cells #[.slice none 0 0, .slice none 0 0, .int .i64 0] 136)) (w.heap.size + 1 + 1) 136 #[.slice none 0 0, .slice none 0 0, .int .i64 0] := by
    have := Rw.new ((w.alloc (.cells #[.slice s1.A s1.n s1.c, .slice s2.A s2.n s2.c, .slice s3.A s3.n s3.c, .slice so.A so.n so.c, .slice sk.A sk.n sk.c] 134)).alloc (.cells #[.slice Av0 n cv0, .slice none 0 0, .int .i64 d] 136)) #[.slice none 0 0, .slice none 0 0, .int .i64 0] 136; rwa [World.size_alloc, World.size_alloc] at this
  have hz1 : (((w.alloc (.cells #[.slice s1.A s1.n s1.c, .slice s2.A s2.n s2.c, .slice s3.A s3.n s3.c, .slice so.A so.n so.c, .slice sk.A sk.n sk.c] 134)).alloc (.cells #[.slice Av0 n cv0, .slice none 0 0, .int .i64 d] 136)).alloc (.cells #[.slice none 0 0, .slice none 0 0, .int .i64 0] 136)).heap.size = w.heap.size + 3 := by simp
  obtain ⟨W1, hW1⟩ : ∃ z, ((w.alloc (.cells #[.slice s1.A s1.n s1.c, .slice s2.A s2.n s2.c, .slice s3.A s3.n s3.c, .slice so.A so.n so.c, .slice sk.A sk.n sk.c] 134)).alloc (.cells #[.slice Av0 n cv0, .slice none 0 0, .int .i64 d] 136)).alloc (.cells #[.slice none 0 0, .slice none 0 0, .int .i64 0] 136) = z := ⟨_, rfl⟩
  rw [hW1] at hb1 q0 q1 q2 hz1
  have HB1 := Lib.hid hb1; have HQ0 := Lib.hid q0; have HQ1 := Lib.hid q1; have HQ2 := Lib.hid q2; have HZ1 := Lib.hid hz1
  have HS := Lib.hid hS; have HO := Lib.hid hO; have HV := Lib.hid hV; have HX := Lib.hid hx; have HVB := Lib.hid hv; have HN := Lib.hid hn; have HN1 := Lib.hid hn1; have HN40 := Lib.hid hn40; have HON := Lib.hid hon; have HON2 := Lib.hid hon2
  have e0 := q0.cell 3
  clear hb1 q0 q1 q2 hz1 hS hO hV hx hv hn hn1 hn40 hon
  go_enter Tryz.func149, Tryz.ntmps149
  go_wp2
  clear e0
  obtain ⟨i6, hi6, hz6, hs6, hy6⟩ := info_parts info3
  go_loopw [10] (fun s10 wr => ∃ (i : Nat), i ≤ so.n ∧ s10 = .int .i64 (i : Int) ∧ WaI Av0 n cv0 d v s1 s2 s3 so sk ns on w i wr) (fun s10 _ => so.n - (intOf s10).toNat)
  case atStart => exact ⟨0, Nat.zero_le _, rfl, none, 0, 0, HQ1.out, Own.nil _ _ _ _ _, rfl, HQ0.out, HQ2.out, HB1.out, Nat.le_of_eq HZ1.out.symm⟩
  case round =>
    obtain ⟨i, hi, rfl, A, m, c, hr1, hoo, hmi, hr0, hr2, hbr, hsz⟩ := hrel
    by_cases hin : i < so.n
    · have hii : (i : Int) < (so.n : Int) := by omega
      have hi0 : (0 : Int) ≤ (i : Int) := by omega
      have hil : i < on.length := by have := HON.out; omega
      obtain ⟨b, o, hsa, gb, c0, c1, c2, c3⟩ := feed_at (HO.out.below hbr) hil
      obtain ⟨x, hxx⟩ : ∃ g, on[i] = g := ⟨_, rfl⟩
      rw [hxx] at c0 c1 c2 c3
      have hxm : x ∈ on := by rw [← hxx]; exact List.getElem_mem hil
      have HTK0 := (show (on.take (i + 1)).map (ampZ ns v d) = (on.take i).map (ampZ ns v d) ++ [ampZ ns v d x] from by rw [List.take_succ_eq_append_getElem hil, List.map_append, hxx]; rfl)
      obtain ⟨hx1, hx2, hx3, hx4, hx5⟩ := HX.out x hxm
      have hkl := List.idxOf_lt_length_iff.2 hx1
      have hnl : (nI ns).length = n := by unfold nI; rw [List.length_map, HN.out]
      rw [hnl] at hkl
      have hix : ixI (nI ns) x.pl = ((nI ns).idxOf x.pl : Int) := by unfold ixI; rw [if_pos hx1]
      obtain ⟨kk, hkk⟩ : ∃ k, (nI ns).idxOf x.pl = k := ⟨_, rfl⟩
      obtain ⟨b2, o2, hva, gb2, d0⟩ := int_at (HV.out.below hbr) (i := kk) (by simp; omega)
      rw [List.getElem_map, List.getElem_range] at d0
      have hvb := HVB.out kk (by omega)
      have hax : ampZ ns v d x = x.siem * max 0 (x.volts * d - v ((nI ns).idxOf x.pl)) := rfl
      rw [hkk] at hkl hix hax
      obtain ⟨vk, hvk⟩ : ∃ g, v kk = g := ⟨_, rfl⟩
      rw [hvk] at d0 hvb hax
      have hw22 : IntKind.i64.wrap (x.volts * d) = x.volts * d := by rw [IntKind.wrap_i64]; omega
      have hw31 : IntKind.i64.wrap (x.volts * d - vk) = x.volts * d - vk := by rw [IntKind.wrap_i64]; omega
      obtain ⟨am, ham⟩ : ∃ am, x.siem * max 0 (x.volts * d - vk) = am := ⟨_, rfl⟩
      have hamb : -9000000000000000000 ≤ am ∧ am ≤ 9000000000000000000 := by
        rw [← ham]
        have hm0 : 0 ≤ max 0 (x.volts * d - vk) ∧ max 0 (x.volts * d - vk) ≤ 2000000000000000000 := by omega
        generalize max 0 (x.volts * d - vk) = mx at hm0 ⊢
        rcases (show x.siem = 0 ∨ x.siem = 1 ∨ x.siem = 2 ∨ x.siem = 3 ∨ x.siem = 4 by omega) with e | e | e | e | e <;> rw [e] <;> omega
      have hw33 : IntKind.i64.wrap (x.siem * max 0 (x.volts * d - vk)) = am := by rw [ham, IntKind.wrap_i64]; omega
      rw [ham] at hax
      rw [hax] at HTK0
      have HTK := Lib.hid HTK0
      have hkn : (kk : Int) < (n : Int) := by omega
      have hk0 : (0 : Int) ≤ (kk : Int) := by omega
      rw [hsa] at hr0
      have e3 := hr0.cell 3
      have hb6 := hbr.trans ((((Below.refl wr.heap.size wr).alloc (Nat.le_refl _) (.cells #[.int .i64 x.pl, .int .i64 x.volts, .int .i64 x.siem, .int .i64 x.limit] 58))).mono hbr.size)
      have q6 := Rw.new wr #[.int .i64 x.pl, .int .i64 x.volts, .int .i64 x.siem, .int .i64 x.limit] 58
      have HR1 := Lib.hid hr1; have HRR0 := Lib.hid hr0; have HRR2 := Lib.hid hr2; have HI := Lib.hid hin; have HMI := Lib.hid hmi
      have HOB := Lib.hid (show ∀ j, (Value.slice A m c).ownBlock = some j → j < wr.heap.size from fun j hj => (hoo.lt j hj).2)
      have HSA := Lib.hid hsa
      have HOW := Lib.hid hoo
      have hszw := hsz
      have gbw := Nat.lt_of_lt_of_le gb2 (Nat.le_refl w.heap.size)
      have hd0 : (wr.alloc (.cells #[.int .i64 x.pl, .int .i64 x.volts, .int .i64 x.siem, .int .i64 x.limit] 58)).cell? ⟨b2, o2 + kk, none⟩ = some (.int .i64 vk) := (World.cell?_of_block (a := ⟨b2, o2 + kk, none⟩) ((MapKept.heap_alloc _ _).2 _ (by show b2 < wr.heap.size; have := hbr.size; omega))).trans d0
      have HIX := Lib.hid (show ∀ wx, Bf wr.heap.size (w.heap.size + 3) (wr.alloc (.cells #[.int .i64 x.pl, .int .i64 x.volts, .int .i64 x.siem, .int .i64 x.limit] 58)) wx → Calls Tryz.prog 95 #[.agg #[.slice s1.A s1.n s1.c, .slice s2.A s2.n s2.c, .slice s3.A s3.n s3.c, .slice (some ⟨b, o, none⟩) so.n so.c, .slice sk.A sk.n sk.c], .int .i64 x.pl] wx fun e w' => e = .returned (.int .i64 (kk : Int)) ∧ Below wx.heap.size wx w' from fun wx h => by
        have h' : Below w.heap.size w wx := hb6.trans ⟨h.os, h.tape, h.output, h.size, fun k hk => h.block k (.inl (by omega))⟩
        rw [← hix, ← HSA.out]
        exact cindex_any s1 s2 s3 so sk ns x.pl wx (by have := HN.out; have := HN1.out; omega) (by have := HN1.out; have := HN40.out; omega) ((HS.out.below h').more (fun _ _ h => h) (by have := h'.size; omega)))
      have HRS := Lib.hid (show ∀ wx, Bf wr.heap.size (w.heap.size + 3) (wr.alloc (.cells #[.int .i64 x.pl, .int .i64 x.volts, .int .i64 x.siem, .int .i64 x.limit] 58)) wx → Rw wx (w.heap.size + 1) 136 #[.slice Av0 n cv0, .slice A m c, .int .i64 d] ∧ Rw wx w.heap.size 134 #[.slice s1.A s1.n s1.c, .slice s2.A s2.n s2.c, .slice s3.A s3.n s3.c, .slice (some ⟨b, o, none⟩) so.n so.c, .slice sk.A sk.n sk.c] ∧ Rw wx wr.heap.size 58 #[.int .i64 x.pl, .int .i64 x.volts, .int .i64 x.siem, .int .i64 x.limit] ∧ wx.cell? ⟨b2, o2 + kk, none⟩ = some (.int .i64 vk) from fun wx h =>
        ⟨(h.block _ (.inl (by omega))).trans (HR1.out.alloc _), (h.block _ (.inl (by omega))).trans (HRR0.out.alloc _), (h.block _ (.inr rfl)).trans q6, (World.cell?_of_block (a := ⟨b2, o2 + kk, none⟩) (h.block _ (.inl (by show b2 < _; omega)))).trans hd0⟩)
      rw [hva] at HRS
      have HVA := Lib.hid hva
      clear hva
      have HLN := Lib.hid (show ((on.take i).map (ampZ ns v d)).length ≤ 1000 from by have := HON2.out; simp; omega)
      go_upto_region 4 with (fail)
      obtain ⟨W6, hW6⟩ : ∃ z, wr.alloc (.cells #[.int .i64 x.pl, .int .i64 x.volts, .int .i64 x.siem, .int .i64 x.limit] 58) = z := ⟨_, rfl⟩
      have hz6' : W6.heap.size = wr.heap.size + 1 := by rw [← hW6]; simp
      have HB6 := Lib.hid hb6
      have HOO := Lib.hid (show Own (wr.alloc (.cells #[.int .i64 x.pl, .int .i64 x.volts, .int .i64 x.siem, .int .i64 x.limit] 58)) (w.heap.size + 3) 3 1 fI (.slice A m c) ((on.take i).map (ampZ ns v d)) from HOW.out.alloc _)
      have HC6 := Lib.hid (show Rw (wr.alloc (.cells #[.int .i64 x.pl, .int .i64 x.volts, .int .i64 x.siem, .int .i64 x.limit] 58)) w.heap.size 134 #[.slice s1.A s1.n s1.c, .slice s2.A s2.n s2.c, .slice s3.A s3.n s3.c, .slice (some ⟨b, o, none⟩) so.n so.c, .slice sk.A sk.n sk.c] from HRR0.out.alloc _)
      have HR6 := Lib.hid (show Rw (wr.alloc (.cells #[.int .i64 x.pl, .int .i64 x.volts, .int .i64 x.siem, .int .i64 x.limit] 58)) (w.heap.size + 1 + 1) 136 #[.slice none 0 0, .slice none 0 0, .int .i64 0] from HRR2.out.alloc _)
      rw [hW6] at HRS HIX HB6 HOO HC6 HR6 ⊢
      have HNE := Lib.hid (show w.heap.size + 3 ≤ wr.heap.size ∧ b2 < w.heap.size from ⟨hszw, gb2⟩)
      have HBD := Lib.hid (show w.heap.size + 3 ≤ W6.heap.size ∧ wr.heap.size < W6.heap.size from ⟨by omega, by omega⟩)
      obtain ⟨fb, hfb⟩ : ∃ fb, wr.heap.size = fb := ⟨_, rfl⟩
      rw [hfb] at HNE HBD HRS HIX HOB ⊢
      clear hW6 hfb hz6' hb6 q6 hoo hmi hr0 hr1 hr2 hbr hsz hszw e3 c0 c1 c2 c3 d0 hd0 hin hil hxx hxm hx1 hx2 hx3 hx4 hx5 hkl hnl hkk hvk hvb ham hamb HTK0 hax gb gb2 gbw hix HOW
      have hbq : Bf fb (w.heap.size + 3) W6 W6.drew := (Bf.refl _ _ _).drew
      have ho0 := HOO.out
      have HS := Lib.hid (show (fun wx => (∃ v, Rw wx (w.heap.size + 1) 136 #[.slice (some ⟨b2, o2, none⟩) n cv0, v, .int .i64 d]) ∧ Rw wx (w.heap.size) 134 #[.slice s1.A s1.n s1.c, .slice s2.A s2.n s2.c, .slice s3.A s3.n s3.c, .slice (some ⟨b, o, none⟩) so.n so.c, .slice sk.A sk.n sk.c] ∧ Rw wx (fb) 58 #[.int .i64 x.pl, .int .i64 x.volts, .int .i64 x.siem, .int .i64 x.limit] ∧ wx.cell? ⟨b2, o2 + kk, none⟩ = some (.int .i64 vk)) W6.drew from ⟨⟨_, (HRS.out _ hbq).1⟩, (HRS.out _ hbq).2.1, (HRS.out _ hbq).2.2.1, (HRS.out _ hbq).2.2.2⟩)
      refine wp_region_noPanic ?_
      refine wp_region_held_drew (S := fun wx => (∃ v, Rw wx (w.heap.size + 1) 136 #[.slice (some ⟨b2, o2, none⟩) n cv0, v, .int .i64 d]) ∧ Rw wx (w.heap.size) 134 #[.slice s1.A s1.n s1.c, .slice s2.A s2.n s2.c, .slice s3.A s3.n s3.c, .slice (some ⟨b, o, none⟩) so.n so.c, .slice sk.A sk.n sk.c] ∧ Rw wx (fb) 58 #[.int .i64 x.pl, .int .i64 x.volts, .int .i64 x.siem, .int .i64 x.limit] ∧ wx.cell? ⟨b2, o2 + kk, none⟩ = some (.int .i64 vk)) (by kernel_rfl) HS.out (fun _ => ?_)
      obtain ⟨wd, hwd⟩ : ∃ z, W6.drew = z := ⟨_, rfl⟩
      replace ho0 := ho0.drewN 1
      rw [show W6.drewN 1 = wd from hwd] at ho0
      rw [hwd] at hbq HS ⊢
      clear hwd
      refine hTk (i := 0) (d := 14) (v := .pointer (some ⟨w.heap.size + 1, 1, none⟩)) rfl rfl (Or.inl ⟨rfl, by rintro W' ⟨⟨u0, s0⟩, r0, r1, r2⟩; have sy := s0.cell; have ry0 := r0.cell; have ry1 := r1.cell; go_simp⟩) HS.out ?_
      simp only [Act.put, sB, sZ, sS]
      refine hTk (i := 2) (d := 16) (v := .pointer (some ⟨fb, 2, none⟩)) rfl rfl (Or.inl ⟨rfl, by rintro W' ⟨⟨u0, s0⟩, r0, r1, r2⟩; have sy := s0.cell; have ry0 := r0.cell; have ry1 := r1.cell; go_simp⟩) HS.out ?_
      simp only [Act.put, sB, sZ, sS]
      refine hTk (i := 3) (d := 17) (v := .int .i64 x.siem) rfl rfl (Or.inl ⟨rfl, by rintro W' ⟨⟨u0, s0⟩, r0, r1, r2⟩; have sy := s0.cell; have ry0 := r0.cell; have ry1 := r1.cell; go_simp⟩) HS.out ?_
      simp only [Act.put, sB, sZ, sS]
      refine hTk (i := 4) (d := 18) (v := .pointer (some ⟨fb, 1, none⟩)) rfl rfl (Or.inl ⟨rfl, by rintro W' ⟨⟨u0, s0⟩, r0, r1, r2⟩; have sy := s0.cell; have ry0 := r0.cell; have ry1 := r1.cell; go_simp⟩) HS.out ?_
      simp only [Act.put, sB, sZ, sS]
      refine hTk (i := 5) (d := 19) (v := .int .i64 x.volts) rfl rfl (Or.inl ⟨rfl, by rintro W' ⟨⟨u0, s0⟩, r0, r1, r2⟩; have sy := s0.cell; have ry0 := r0.cell; have ry1 := r1.cell; go_simp⟩) HS.out ?_
      simp only [Act.put, sB, sZ, sS]
      refine hTk (i := 6) (d := 20) (v := .pointer (some ⟨w.heap.size + 1, 2, none⟩)) rfl rfl (Or.inl ⟨rfl, by rintro W' ⟨⟨u0, s0⟩, r0, r1, r2⟩; have sy := s0.cell; have ry0 := r0.cell; have ry1 := r1.cell; go_simp⟩) HS.out ?_
      simp only [Act.put, sB, sZ, sS]
      refine hTk (i := 7) (d := 21) (v := .int .i64 d) rfl rfl (Or.inl ⟨rfl, by rintro W' ⟨⟨u0, s0⟩, r0, r1, r2⟩; have sy := s0.cell; have ry0 := r0.cell; have ry1 := r1.cell; go_simp⟩) HS.out ?_
      simp only [Act.put, sB, sZ, sS]
      refine hTk (i := 8) (d := 22) (v := .int .i64 (x.volts * d)) rfl rfl (Or.inl ⟨rfl, by rintro W' ⟨⟨u0, s0⟩, r0, r1, r2⟩; have sy := s0.cell; have ry0 := r0.cell; have ry1 := r1.cell; go_simp⟩) HS.out ?_
      simp only [Act.put, sB, sZ, sS]
      refine hTk (i := 9) (d := 23) (v := .pointer (some ⟨w.heap.size + 1, 0, none⟩)) rfl rfl (Or.inl ⟨rfl, by rintro W' ⟨⟨u0, s0⟩, r0, r1, r2⟩; have sy := s0.cell; have ry0 := r0.cell; have ry1 := r1.cell; go_simp⟩) HS.out ?_
      simp only [Act.put, sB, sZ, sS]
      refine hTk (i := 10) (d := 24) (v := .slice (some ⟨b2, o2, none⟩) n cv0) rfl rfl (Or.inl ⟨rfl, by rintro W' ⟨⟨u0, s0⟩, r0, r1, r2⟩; have sy := s0.cell; have ry0 := r0.cell; have ry1 := r1.cell; go_simp⟩) HS.out ?_
      simp only [Act.put, sB, sZ, sS]
      refine hTk (i := 11) (d := 25) (v := .agg #[.slice s1.A s1.n s1.c, .slice s2.A s2.n s2.c, .slice s3.A s3.n s3.c, .slice (some ⟨b, o, none⟩) so.n so.c, .slice sk.A sk.n sk.c]) rfl rfl (Or.inl ⟨rfl, by rintro W' ⟨⟨u0, s0⟩, r0, r1, r2⟩; have sy := s0.cell; have ry0 := r0.cell; have ry1 := r1.cell; go_simp⟩) HS.out ?_
      simp only [Act.put, sB, sZ, sS]
      refine hTk (i := 12) (d := 26) (v := .pointer (some ⟨fb, 0, none⟩)) rfl rfl (Or.inl ⟨rfl, by rintro W' ⟨⟨u0, s0⟩, r0, r1, r2⟩; have sy := s0.cell; have ry0 := r0.cell; have ry1 := r1.cell; go_simp⟩) HS.out ?_
      simp only [Act.put, sB, sZ, sS]
      refine hTk (i := 13) (d := 27) (v := .int .i64 x.pl) rfl rfl (Or.inl ⟨rfl, by rintro W' ⟨⟨u0, s0⟩, r0, r1, r2⟩; have sy := s0.cell; have ry0 := r0.cell; have ry1 := r1.cell; go_simp⟩) HS.out ?_
      simp only [Act.put, sB, sZ, sS]
      refine wpAnyH_ready (rs := [1, 14]) (by kernel_rfl) (by simp) ?_
      refine AllReadyH.cons rfl (fun K hK => ?_) (AllReadyH.cons rfl (fun K hK => ?_) AllReadyH.nil)
      · rw [if_pos (by rfl)]
        have hx := (HRS.out _ hbq).1.cell
        go_simp
        clear hx
        have HS := Lib.hid (show (fun wx => (∃ v, Rw wx (w.heap.size + 1) 136 #[.slice (some ⟨b2, o2, none⟩) n cv0, v, .int .i64 d]) ∧ Rw wx (w.heap.size) 134 #[.slice s1.A s1.n s1.c, .slice s2.A s2.n s2.c, .slice s3.A s3.n s3.c, .slice (some ⟨b, o, none⟩) so.n so.c, .slice sk.A sk.n sk.c] ∧ Rw wx (fb) 58 #[.int .i64 x.pl, .int .i64 x.volts, .int .i64 x.siem, .int .i64 x.limit] ∧ wx.cell? ⟨b2, o2 + kk, none⟩ = some (.int .i64 vk)) wd from ⟨⟨_, (HRS.out _ hbq).1⟩, (HRS.out _ hbq).2.1, (HRS.out _ hbq).2.2.1, (HRS.out _ hbq).2.2.2⟩)
        refine hK.out _ _ HS.out (fun _ => ?_)
        clear hK K
        try simp only [Act.put, sB, sZ, sS]
        refine wpAnyH_ready (rs := [14]) (by kernel_rfl) (by simp) ?_
        refine AllReadyH.cons rfl (fun K hK => ?_) AllReadyH.nil
        rw [if_pos (by rfl)]
        go_simp
        go_at_call 95
        (with_reducible refine (HIX.out _ hbq).mono ?_)
        rintro e wc0 ⟨rfl, hbn⟩
        have hbc := Below.refl (w.heap.size + 3) wc0
        replace ho0 := ho0.below hbn (Nat.le_refl _)
        have hgz := hbq.size
        replace hbq := hbq.trans (Bf.of hbn (by have := HBD.out; omega))
        clear hbn hgz
        have HS := Lib.hid (show (fun wx => (∃ v, Rw wx (w.heap.size + 1) 136 #[.slice (some ⟨b2, o2, none⟩) n cv0, v, .int .i64 d]) ∧ Rw wx (w.heap.size) 134 #[.slice s1.A s1.n s1.c, .slice s2.A s2.n s2.c, .slice s3.A s3.n s3.c, .slice (some ⟨b, o, none⟩) so.n so.c, .slice sk.A sk.n sk.c] ∧ Rw wx (fb) 58 #[.int .i64 x.pl, .int .i64 x.volts, .int .i64 x.siem, .int .i64 x.limit] ∧ wx.cell? ⟨b2, o2 + kk, none⟩ = some (.int .i64 vk)) wc0 from ⟨⟨_, (HRS.out _ hbq).1⟩, (HRS.out _ hbq).2.1, (HRS.out _ hbq).2.2.1, (HRS.out _ hbq).2.2.2⟩)
        refine hK.out _ _ HS.out (fun _ => ?_)
        clear hK K
        try simp only [Act.put, sB, sZ, sS]
        refine hTk (i := 15) (d := 29) (v := .pointer (some ⟨b2, o2 + kk, none⟩)) rfl rfl (Or.inl ⟨rfl, by rintro W' ⟨⟨u0, s0⟩, r0, r1, r2⟩; have sy := s0.cell; have ry0 := r0.cell; have ry1 := r1.cell; go_simp⟩) HS.out ?_
        simp only [Act.put, sB, sZ, sS]
        refine hTk (i := 16) (d := 30) (v := .int .i64 vk) rfl rfl (Or.inl ⟨rfl, by rintro W' ⟨⟨u0, s0⟩, r0, r1, r2⟩; have sy := s0.cell; have ry0 := r0.cell; have ry1 := r1.cell; go_simp⟩) HS.out ?_
        simp only [Act.put, sB, sZ, sS]
        refine hTk (i := 17) (d := 31) (v := .int .i64 (x.volts * d - vk)) rfl rfl (Or.inl ⟨rfl, by rintro W' ⟨⟨u0, s0⟩, r0, r1, r2⟩; have sy := s0.cell; have ry0 := r0.cell; have ry1 := r1.cell; go_simp⟩) HS.out ?_
        simp only [Act.put, sB, sZ, sS]
        refine hTk (i := 18) (d := 32) (v := .int .i64 (max 0 (x.volts * d - vk))) rfl rfl (Or.inl ⟨rfl, by rintro W' ⟨⟨u0, s0⟩, r0, r1, r2⟩; have sy := s0.cell; have ry0 := r0.cell; have ry1 := r1.cell; go_simp⟩) HS.out ?_
        simp only [Act.put, sB, sZ, sS]
        refine hTk (i := 19) (d := 33) (v := .int .i64 am) rfl rfl (Or.inl ⟨rfl, by rintro W' ⟨⟨u0, s0⟩, r0, r1, r2⟩; have sy := s0.cell; have ry0 := r0.cell; have ry1 := r1.cell; go_simp⟩) HS.out ?_
        simp only [Act.put, sB, sZ, sS]
        refine wpAnyH_ready (rs := [20]) (by kernel_rfl) (by simp) ?_
        refine AllReadyH.cons rfl (fun K hK => ?_) AllReadyH.nil
        rw [if_pos (by rfl)]
        go_simp
        have hsn := Sl.new (f := fI) (size := 1) wc0 3 (am : Int) #[.int .i64 am] rfl
        have hzw := hbq.size
        replace hbc := hbc.alloc (by have := HBD.out; omega) (.cells #[.int .i64 am] 3)
        replace hbq := hbq.alloc (by have := HBD.out; omega) (.cells #[.int .i64 am] 3)
        obtain ⟨w13, hw13⟩ : ∃ z, wc0.alloc (.cells #[.int .i64 am] 3) = z := ⟨_, rfl⟩
        have hgo := (show wc0.grownBy w13 none from by rw [← hw13]; exact World.grownBy_alloc _ _ _)
        rw [hw13] at hsn hbq hbc ⊢
        have ho13 := ho0.of_blocks (w' := w13) (fun k hk => hgo.block k (ho0.lt k hk).2 (by simp))
        clear hw13 hgo hzw
        have HS := Lib.hid (show (fun wx => (∃ v, Rw wx (w.heap.size + 1) 136 #[.slice (some ⟨b2, o2, none⟩) n cv0, v, .int .i64 d]) ∧ Rw wx (w.heap.size) 134 #[.slice s1.A s1.n s1.c, .slice s2.A s2.n s2.c, .slice s3.A s3.n s3.c, .slice (some ⟨b, o, none⟩) so.n so.c, .slice sk.A sk.n sk.c] ∧ Rw wx (fb) 58 #[.int .i64 x.pl, .int .i64 x.volts, .int .i64 x.siem, .int .i64 x.limit] ∧ wx.cell? ⟨b2, o2 + kk, none⟩ = some (.int .i64 vk)) w13 from ⟨⟨_, (HRS.out _ hbq).1⟩, (HRS.out _ hbq).2.1, (HRS.out _ hbq).2.2.1, (HRS.out _ hbq).2.2.2⟩)
        refine hK.out _ _ HS.out (fun _ => ?_)
        clear hK K
        try simp only [Act.put, sB, sZ, sS]
        refine wpAnyH_ready (rs := [21]) (by kernel_rfl) (by simp) ?_
        refine AllReadyH.cons rfl (fun K hK => ?_) AllReadyH.nil
        rw [if_pos (by rfl)]
        refine wp_app _ (.tmp 15) (.tmp 34) _ rfl (w.heap.size + 3) 3 i6 _ 1 8 Tryz.underlying40 hi6 hz6 hs6 hy6 rfl (by omega) fI_len fI_one (.slice A m c) ((on.take i).map (ampZ ns v d)) rfl ho13 _ _ [(am : Int)] 1 rfl hsn (by have := HLN.out; unfold maxLen; simp only [List.length_cons, List.length_nil]; omega) (by have := HLN.out; simp only [List.length_cons, List.length_nil]; omega) (by have := HBD.out; have := hbq.size; omega) (fun _ => .inr ⟨_, rfl⟩) ?_
        intro v2 w14 o14 gr14 at14 ne14
        obtain ⟨Av, cv, hve, _, _, _⟩ := o14.form
        generalize hn2 : List.length (_ ++ [_]) = n2 at hve
        subst hve
        have hb14 := bfGrown hbq gr14 (fun b hb => ⟨(ho13.lt b hb).1, HOB.out b hb⟩) (by have := HBD.out; have := hbq.size; omega)
        have hbc14 := bGrown hbc gr14 (fun b hb => (ho13.lt b hb).1) (by have := HBD.out; have := hbq.size; omega)
        have hx := HRS.out w14 hb14
        have HS := Lib.hid (show (fun wx => (∃ v, Rw wx (w.heap.size + 1) 136 #[.slice (some ⟨b2, o2, none⟩) n cv0, v, .int .i64 d]) ∧ Rw wx (w.heap.size) 134 #[.slice s1.A s1.n s1.c, .slice s2.A s2.n s2.c, .slice s3.A s3.n s3.c, .slice (some ⟨b, o, none⟩) so.n so.c, .slice sk.A sk.n sk.c] ∧ Rw wx (fb) 58 #[.int .i64 x.pl, .int .i64 x.volts, .int .i64 x.siem, .int .i64 x.limit] ∧ wx.cell? ⟨b2, o2 + kk, none⟩ = some (.int .i64 vk)) w14 from ⟨⟨_, (HRS.out _ hb14).1⟩, (HRS.out _ hb14).2.1, (HRS.out _ hb14).2.2.1, (HRS.out _ hb14).2.2.2⟩)
        have HX14 := Lib.hid hx
        refine hK.out _ _ HS.out (fun _ => ?_)
        clear hK K
        try simp only [Act.put, sB, sZ, sS]
        refine hTk (i := 22) (d := 36) (v := .pointer (some ⟨w.heap.size + 1, 1, none⟩)) rfl rfl (Or.inl ⟨rfl, by rintro W' ⟨⟨u0, s0⟩, r0, r1, r2⟩; have sy := s0.cell; have ry0 := r0.cell; have ry1 := r1.cell; go_simp⟩) HS.out ?_
        simp only [Act.put, sB, sZ, sS]
        refine wpAnyH_ready (rs := [23]) (by kernel_rfl) (by simp) ?_
        refine AllReadyH.cons rfl (fun K hK => ?_) AllReadyH.nil
        rw [if_pos (by rfl)]
        have hx9 := HX14.out.1.cell; have hf9 := HX14.out.1.frozen
        go_simp
        clear hx9 hf9
        have t0 := HX14.out.1.set 1 (.slice Av n2 cv)
        have t1 := HX14.out.2.1.far (k := w.heap.size + 1) 1 (.slice Av n2 cv) (by have := HNE.out; omega)
        have t2 := HX14.out.2.2.1.far (k := w.heap.size + 1) 1 (.slice Av n2 cv) (by have := HNE.out; omega)
        have t3 : (w14.setCell ⟨w.heap.size + 1, 1, none⟩ (.slice Av n2 cv)).cell? ⟨b2, o2 + kk, none⟩ = some (.int .i64 vk) := (World.cell?_of_block (a := ⟨b2, o2 + kk, none⟩) (Below.heap_setCell _ _ _ _ (by show b2 ≠ w.heap.size + 1; have := HNE.out; omega))).trans HX14.out.2.2.2
        have HS := Lib.hid (show (fun wx => (∃ v, Rw wx (w.heap.size + 1) 136 #[.slice (some ⟨b2, o2, none⟩) n cv0, v, .int .i64 d]) ∧ Rw wx (w.heap.size) 134 #[.slice s1.A s1.n s1.c, .slice s2.A s2.n s2.c, .slice s3.A s3.n s3.c, .slice (some ⟨b, o, none⟩) so.n so.c, .slice sk.A sk.n sk.c] ∧ Rw wx (fb) 58 #[.int .i64 x.pl, .int .i64 x.volts, .int .i64 x.siem, .int .i64 x.limit] ∧ wx.cell? ⟨b2, o2 + kk, none⟩ = some (.int .i64 vk)) (w14.setCell ⟨w.heap.size + 1, 1, none⟩ (.slice Av n2 cv)) from ⟨⟨_, t0⟩, t1, t2, t3⟩)
        have HR15 := Lib.hid t0
        clear t0 t1 t2 t3
        refine hK.out _ _ HS.out (fun _ => ?_)
        clear hK K
        try simp only [Act.put, sB, sZ, sS]
        refine wpAnyH_done (by kernel_rfl) ?_ _
        have HO14 := Lib.hid o14; have HB14 := Lib.hid hb14; have HBC14 := Lib.hid hbc14
        clear hbc14 hbc hbq HS hx HX14 o14 gr14 at14 ne14 hb14 ho0 ho13 hsn
        refine NoPanic.normal ?_
        have hbd := HBD.out
        have hne := HNE.out
        have HX1 := Lib.hid (show Below w.heap.size w (w14.setCell ⟨w.heap.size + 1, 1, none⟩ (.slice Av n2 cv)) from (HB6.out.trans ⟨HB14.out.os, HB14.out.tape, HB14.out.output, HB14.out.size, fun k hk => HB14.out.block k (.inl (by omega))⟩).setCell (p := ⟨w.heap.size + 1, 1, none⟩) (by show w.heap.size ≤ w.heap.size + 1; omega) _)
        have HX2 := Lib.hid (show Rw (w14.setCell ⟨w.heap.size + 1, 1, none⟩ (.slice Av n2 cv)) w.heap.size 134 #[.slice s1.A s1.n s1.c, .slice s2.A s2.n s2.c, .slice s3.A s3.n s3.c, .slice (some ⟨b, o, none⟩) so.n so.c, .slice sk.A sk.n sk.c] from (Below.heap_setCell _ _ _ _ (by show w.heap.size ≠ w.heap.size + 1; omega)).trans ((HB14.out.block _ (.inl (by omega))).trans HC6.out))
        have HR15w := Lib.hid (show Rw (w14.setCell ⟨w.heap.size + 1, 1, none⟩ (.slice Av n2 cv)) (w.heap.size + 1) 136 #[.slice Av0 n cv0, .slice Av n2 cv, .int .i64 d] from by rw [HVA.out]; exact HR15.out)
        have HX2w := Lib.hid (show Rw (w14.setCell ⟨w.heap.size + 1, 1, none⟩ (.slice Av n2 cv)) w.heap.size 134 #[.slice s1.A s1.n s1.c, .slice s2.A s2.n s2.c, .slice s3.A s3.n s3.c, .slice so.A so.n so.c, .slice sk.A sk.n sk.c] from by rw [HSA.out]; exact HX2.out)
        have HX3 := Lib.hid (show Rw (w14.setCell ⟨w.heap.size + 1, 1, none⟩ (.slice Av n2 cv)) (w.heap.size + 1 + 1) 136 #[.slice none 0 0, .slice none 0 0, .int .i64 0] from (Below.heap_setCell _ _ _ _ (by show w.heap.size + 1 + 1 ≠ w.heap.size + 1; omega)).trans ((HB14.out.block _ (.inl (by omega))).trans HR6.out))
        have HX4 := Lib.hid (show Own (w14.setCell ⟨w.heap.size + 1, 1, none⟩ (.slice Av n2 cv)) (w.heap.size + 3) 3 1 fI (.slice Av n2 cv) ((on.take (i + 1)).map (ampZ ns v d)) from by
          rw [HTK.out]
          exact HO14.out.of_blocks (fun j hj => Below.heap_setCell _ _ _ j (by show j ≠ w.heap.size + 1; have := (HO14.out.lt j hj).1; omega)))
        have HX5 := Lib.hid (show n2 = i + 1 from by rw [← hn2]; have := HI.out; have := HON.out; simp; omega)
        have HX6 := Lib.hid (show w.heap.size + 3 ≤ (w14.setCell ⟨w.heap.size + 1, 1, none⟩ (.slice Av n2 cv)).heap.size from by rw [World.size_setCell]; have := HB14.out.size; omega)
        have HXA := Lib.hid (show WaI Av0 n cv0 d v s1 s2 s3 so sk ns on w (i + 1) (w14.setCell ⟨w.heap.size + 1, 1, none⟩ (.slice Av n2 cv)) from ⟨Av, n2, cv, HR15w.out, HX4.out, HX5.out, HX2w.out, HX3.out, HX1.out, HX6.out⟩)
        clear hbd hne hn2
        (try simp only [Exit.inBlock, Exit.then])
        go_wp2
        refine ⟨⟨i + 1, by have := HI.out; omega, by simp, HXA.out⟩, ?_⟩
        have := HI.out; simp [intOf] <;> omega
      · rw [if_pos (by rfl)]
        go_simp
        go_at_call 95
        (with_reducible refine (HIX.out _ hbq).mono ?_)
        rintro e wc0 ⟨rfl, hbn⟩
        have hbc := Below.refl (w.heap.size + 3) wc0
        replace ho0 := ho0.below hbn (Nat.le_refl _)
        have hgz := hbq.size
        replace hbq := hbq.trans (Bf.of hbn (by have := HBD.out; omega))
        clear hbn hgz
        have HS := Lib.hid (show (fun wx => (∃ v, Rw wx (w.heap.size + 1) 136 #[.slice (some ⟨b2, o2, none⟩) n cv0, v, .int .i64 d]) ∧ Rw wx (w.heap.size) 134 #[.slice s1.A s1.n s1.c, .slice s2.A s2.n s2.c, .slice s3.A s3.n s3.c, .slice (some ⟨b, o, none⟩) so.n so.c, .slice sk.A sk.n sk.c] ∧ Rw wx (fb) 58 #[.int .i64 x.pl, .int .i64 x.volts, .int .i64 x.siem, .int .i64 x.limit] ∧ wx.cell? ⟨b2, o2 + kk, none⟩ = some (.int .i64 vk)) wc0 from ⟨⟨_, (HRS.out _ hbq).1⟩, (HRS.out _ hbq).2.1, (HRS.out _ hbq).2.2.1, (HRS.out _ hbq).2.2.2⟩)
        refine hK.out _ _ HS.out (fun _ => ?_)
        clear hK K
        try simp only [Act.put, sB, sZ, sS]
        refine hTk (i := 15) (d := 29) (v := .pointer (some ⟨b2, o2 + kk, none⟩)) rfl rfl (Or.inl ⟨rfl, by rintro W' ⟨⟨u0, s0⟩, r0, r1, r2⟩; have sy := s0.cell; have ry0 := r0.cell; have ry1 := r1.cell; go_simp⟩) HS.out ?_
        simp only [Act.put, sB, sZ, sS]
        refine hTk (i := 16) (d := 30) (v := .int .i64 vk) rfl rfl (Or.inl ⟨rfl, by rintro W' ⟨⟨u0, s0⟩, r0, r1, r2⟩; have sy := s0.cell; have ry0 := r0.cell; have ry1 := r1.cell; go_simp⟩) HS.out ?_
        simp only [Act.put, sB, sZ, sS]
        refine hTk (i := 17) (d := 31) (v := .int .i64 (x.volts * d - vk)) rfl rfl (Or.inl ⟨rfl, by rintro W' ⟨⟨u0, s0⟩, r0, r1, r2⟩; have sy := s0.cell; have ry0 := r0.cell; have ry1 := r1.cell; go_simp⟩) HS.out ?_
        simp only [Act.put, sB, sZ, sS]
        refine hTk (i := 18) (d := 32) (v := .int .i64 (max 0 (x.volts * d - vk))) rfl rfl (Or.inl ⟨rfl, by rintro W' ⟨⟨u0, s0⟩, r0, r1, r2⟩; have sy := s0.cell; have ry0 := r0.cell; have ry1 := r1.cell; go_simp⟩) HS.out ?_
        simp only [Act.put, sB, sZ, sS]
        refine hTk (i := 19) (d := 33) (v := .int .i64 am) rfl rfl (Or.inl ⟨rfl, by rintro W' ⟨⟨u0, s0⟩, r0, r1, r2⟩; have sy := s0.cell; have ry0 := r0.cell; have ry1 := r1.cell; go_simp⟩) HS.out ?_
        simp only [Act.put, sB, sZ, sS]
        refine wpAnyH_ready (rs := [1, 20]) (by kernel_rfl) (by simp) ?_
        refine AllReadyH.cons rfl (fun K hK => ?_) (AllReadyH.cons rfl (fun K hK => ?_) AllReadyH.nil)
        · rw [if_pos (by rfl)]
          have hx := (HRS.out _ hbq).1.cell
          go_simp
          clear hx
          have HS := Lib.hid (show (fun wx => (∃ v, Rw wx (w.heap.size + 1) 136 #[.slice (some ⟨b2, o2, none⟩) n cv0, v, .int .i64 d]) ∧ Rw wx (w.heap.size) 134 #[.slice s1.A s1.n s1.c, .slice s2.A s2.n s2.c, .slice s3.A s3.n s3.c, .slice (some ⟨b, o, none⟩) so.n so.c, .slice sk.A sk.n sk.c] ∧ Rw wx (fb) 58 #[.int .i64 x.pl, .int .i64 x.volts, .int .i64 x.siem, .int .i64 x.limit] ∧ wx.cell? ⟨b2, o2 + kk, none⟩ = some (.int .i64 vk)) wc0 from ⟨⟨_, (HRS.out _ hbq).1⟩, (HRS.out _ hbq).2.1, (HRS.out _ hbq).2.2.1, (HRS.out _ hbq).2.2.2⟩)
          refine hK.out _ _ HS.out (fun _ => ?_)
          clear hK K
          try simp only [Act.put, sB, sZ, sS]
          refine wpAnyH_ready (rs := [20]) (by kernel_rfl) (by simp) ?_
          refine AllReadyH.cons rfl (fun K hK => ?_) AllReadyH.nil
          rw [if_pos (by rfl)]
          go_simp
          have hsn := Sl.new (f := fI) (size := 1) wc0 3 (am : Int) #[.int .i64 am] rfl
          have hzw := hbq.size
          replace hbc := hbc.alloc (by have := HBD.out; omega) (.cells #[.int .i64 am] 3)
          replace hbq := hbq.alloc (by have := HBD.out; omega) (.cells #[.int .i64 am] 3)
          obtain ⟨w13, hw13⟩ : ∃ z, wc0.alloc (.cells #[.int .i64 am] 3) = z := ⟨_, rfl⟩
          have hgo := (show wc0.grownBy w13 none from by rw [← hw13]; exact World.grownBy_alloc _ _ _)
          rw [hw13] at hsn hbq hbc ⊢
          have ho13 := ho0.of_blocks (w' := w13) (fun k hk => hgo.block k (ho0.lt k hk).2 (by simp))
          clear hw13 hgo hzw
          have HS := Lib.hid (show (fun wx => (∃ v, Rw wx (w.heap.size + 1) 136 #[.slice (some ⟨b2, o2, none⟩) n cv0, v, .int .i64 d]) ∧ Rw wx (w.heap.size) 134 #[.slice s1.A s1.n s1.c, .slice s2.A s2.n s2.c, .slice s3.A s3.n s3.c, .slice (some ⟨b, o, none⟩) so.n so.c, .slice sk.A sk.n sk.c] ∧ Rw wx (fb) 58 #[.int .i64 x.pl, .int .i64 x.volts, .int .i64 x.siem, .int .i64 x.limit] ∧ wx.cell? ⟨b2, o2 + kk, none⟩ = some (.int .i64 vk)) w13 from ⟨⟨_, (HRS.out _ hbq).1⟩, (HRS.out _ hbq).2.1, (HRS.out _ hbq).2.2.1, (HRS.out _ hbq).2.2.2⟩)
          refine hK.out _ _ HS.out (fun _ => ?_)
          clear hK K
          try simp only [Act.put, sB, sZ, sS]
          refine wpAnyH_ready (rs := [21]) (by kernel_rfl) (by simp) ?_
          refine AllReadyH.cons rfl (fun K hK => ?_) AllReadyH.nil
          rw [if_pos (by rfl)]
          refine wp_app _ (.tmp 15) (.tmp 34) _ rfl (w.heap.size + 3) 3 i6 _ 1 8 Tryz.underlying40 hi6 hz6 hs6 hy6 rfl (by omega) fI_len fI_one (.slice A m c) ((on.take i).map (ampZ ns v d)) rfl ho13 _ _ [(am : Int)] 1 rfl hsn (by have := HLN.out; unfold maxLen; simp only [List.length_cons, List.length_nil]; omega) (by have := HLN.out; simp only [List.length_cons, List.length_nil]; omega) (by have := HBD.out; have := hbq.size; omega) (fun _ => .inr ⟨_, rfl⟩) ?_
          intro v2 w14 o14 gr14 at14 ne14
          obtain ⟨Av, cv, hve, _, _, _⟩ := o14.form
          generalize hn2 : List.length (_ ++ [_]) = n2 at hve
          subst hve
          have hb14 := bfGrown hbq gr14 (fun b hb => ⟨(ho13.lt b hb).1, HOB.out b hb⟩) (by have := HBD.out; have := hbq.size; omega)
          have hbc14 := bGrown hbc gr14 (fun b hb => (ho13.lt b hb).1) (by have := HBD.out; have := hbq.size; omega)
          have hx := HRS.out w14 hb14
          have HS := Lib.hid (show (fun wx => (∃ v, Rw wx (w.heap.size + 1) 136 #[.slice (some ⟨b2, o2, none⟩) n cv0, v, .int .i64 d]) ∧ Rw wx (w.heap.size) 134 #[.slice s1.A s1.n s1.c, .slice s2.A s2.n s2.c, .slice s3.A s3.n s3.c, .slice (some ⟨b, o, none⟩) so.n so.c, .slice sk.A sk.n sk.c] ∧ Rw wx (fb) 58 #[.int .i64 x.pl, .int .i64 x.volts, .int .i64 x.siem, .int .i64 x.limit] ∧ wx.cell? ⟨b2, o2 + kk, none⟩ = some (.int .i64 vk)) w14 from ⟨⟨_, (HRS.out _ hb14).1⟩, (HRS.out _ hb14).2.1, (HRS.out _ hb14).2.2.1, (HRS.out _ hb14).2.2.2⟩)
          have HX14 := Lib.hid hx
          refine hK.out _ _ HS.out (fun _ => ?_)
          clear hK K
          try simp only [Act.put, sB, sZ, sS]
          refine hTk (i := 22) (d := 36) (v := .pointer (some ⟨w.heap.size + 1, 1, none⟩)) rfl rfl (Or.inl ⟨rfl, by rintro W' ⟨⟨u0, s0⟩, r0, r1, r2⟩; have sy := s0.cell; have ry0 := r0.cell; have ry1 := r1.cell; go_simp⟩) HS.out ?_
          simp only [Act.put, sB, sZ, sS]
          refine wpAnyH_ready (rs := [23]) (by kernel_rfl) (by simp) ?_
          refine AllReadyH.cons rfl (fun K hK => ?_) AllReadyH.nil
          rw [if_pos (by rfl)]
          have hx9 := HX14.out.1.cell; have hf9 := HX14.out.1.frozen
          go_simp
          clear hx9 hf9
          have t0 := HX14.out.1.set 1 (.slice Av n2 cv)
          have t1 := HX14.out.2.1.far (k := w.heap.size + 1) 1 (.slice Av n2 cv) (by have := HNE.out; omega)
          have t2 := HX14.out.2.2.1.far (k := w.heap.size + 1) 1 (.slice Av n2 cv) (by have := HNE.out; omega)
          have t3 : (w14.setCell ⟨w.heap.size + 1, 1, none⟩ (.slice Av n2 cv)).cell? ⟨b2, o2 + kk, none⟩ = some (.int .i64 vk) := (World.cell?_of_block (a := ⟨b2, o2 + kk, none⟩) (Below.heap_setCell _ _ _ _ (by show b2 ≠ w.heap.size + 1; have := HNE.out; omega))).trans HX14.out.2.2.2
          have HS := Lib.hid (show (fun wx => (∃ v, Rw wx (w.heap.size + 1) 136 #[.slice (some ⟨b2, o2, none⟩) n cv0, v, .int .i64 d]) ∧ Rw wx (w.heap.size) 134 #[.slice s1.A s1.n s1.c, .slice s2.A s2.n s2.c, .slice s3.A s3.n s3.c, .slice (some ⟨b, o, none⟩) so.n so.c, .slice sk.A sk.n sk.c] ∧ Rw wx (fb) 58 #[.int .i64 x.pl, .int .i64 x.volts, .int .i64 x.siem, .int .i64 x.limit] ∧ wx.cell? ⟨b2, o2 + kk, none⟩ = some (.int .i64 vk)) (w14.setCell ⟨w.heap.size + 1, 1, none⟩ (.slice Av n2 cv)) from ⟨⟨_, t0⟩, t1, t2, t3⟩)
          have HR15 := Lib.hid t0
          clear t0 t1 t2 t3
          refine hK.out _ _ HS.out (fun _ => ?_)
          clear hK K
          try simp only [Act.put, sB, sZ, sS]
          refine wpAnyH_done (by kernel_rfl) ?_ _
          have HO14 := Lib.hid o14; have HB14 := Lib.hid hb14; have HBC14 := Lib.hid hbc14
          clear hbc14 hbc hbq HS hx HX14 o14 gr14 at14 ne14 hb14 ho0 ho13 hsn
          refine NoPanic.normal ?_
          have hbd := HBD.out
          have hne := HNE.out
          have HX1 := Lib.hid (show Below w.heap.size w (w14.setCell ⟨w.heap.size + 1, 1, none⟩ (.slice Av n2 cv)) from (HB6.out.trans ⟨HB14.out.os, HB14.out.tape, HB14.out.output, HB14.out.size, fun k hk => HB14.out.block k (.inl (by omega))⟩).setCell (p := ⟨w.heap.size + 1, 1, none⟩) (by show w.heap.size ≤ w.heap.size + 1; omega) _)
          have HX2 := Lib.hid (show Rw (w14.setCell ⟨w.heap.size + 1, 1, none⟩ (.slice Av n2 cv)) w.heap.size 134 #[.slice s1.A s1.n s1.c, .slice s2.A s2.n s2.c, .slice s3.A s3.n s3.c, .slice (some ⟨b, o, none⟩) so.n so.c, .slice sk.A sk.n sk.c] from (Below.heap_setCell _ _ _ _ (by show w.heap.size ≠ w.heap.size + 1; omega)).trans ((HB14.out.block _ (.inl (by omega))).trans HC6.out))
          have HR15w := Lib.hid (show Rw (w14.setCell ⟨w.heap.size + 1, 1, none⟩ (.slice Av n2 cv)) (w.heap.size + 1) 136 #[.slice Av0 n cv0, .slice Av n2 cv, .int .i64 d] from by rw [HVA.out]; exact HR15.out)
          have HX2w := Lib.hid (show Rw (w14.setCell ⟨w.heap.size + 1, 1, none⟩ (.slice Av n2 cv)) w.heap.size 134 #[.slice s1.A s1.n s1.c, .slice s2.A s2.n s2.c, .slice s3.A s3.n s3.c, .slice so.A so.n so.c, .slice sk.A sk.n sk.c] from by rw [HSA.out]; exact HX2.out)
          have HX3 := Lib.hid (show Rw (w14.setCell ⟨w.heap.size + 1, 1, none⟩ (.slice Av n2 cv)) (w.heap.size + 1 + 1) 136 #[.slice none 0 0, .slice none 0 0, .int .i64 0] from (Below.heap_setCell _ _ _ _ (by show w.heap.size + 1 + 1 ≠ w.heap.size + 1; omega)).trans ((HB14.out.block _ (.inl (by omega))).trans HR6.out))
          have HX4 := Lib.hid (show Own (w14.setCell ⟨w.heap.size + 1, 1, none⟩ (.slice Av n2 cv)) (w.heap.size + 3) 3 1 fI (.slice Av n2 cv) ((on.take (i + 1)).map (ampZ ns v d)) from by
            rw [HTK.out]
            exact HO14.out.of_blocks (fun j hj => Below.heap_setCell _ _ _ j (by show j ≠ w.heap.size + 1; have := (HO14.out.lt j hj).1; omega)))
          have HX5 := Lib.hid (show n2 = i + 1 from by rw [← hn2]; have := HI.out; have := HON.out; simp; omega)
          have HX6 := Lib.hid (show w.heap.size + 3 ≤ (w14.setCell ⟨w.heap.size + 1, 1, none⟩ (.slice Av n2 cv)).heap.size from by rw [World.size_setCell]; have := HB14.out.size; omega)
          have HXA := Lib.hid (show WaI Av0 n cv0 d v s1 s2 s3 so sk ns on w (i + 1) (w14.setCell ⟨w.heap.size + 1, 1, none⟩ (.slice Av n2 cv)) from ⟨Av, n2, cv, HR15w.out, HX4.out, HX5.out, HX2w.out, HX3.out, HX1.out, HX6.out⟩)
          clear hbd hne hn2
          (try simp only [Exit.inBlock, Exit.then])
          go_wp2
          refine ⟨⟨i + 1, by have := HI.out; omega, by simp, HXA.out⟩, ?_⟩
          have := HI.out; simp [intOf] <;> omega
        · rw [if_pos (by rfl)]
          go_simp
          have hsn := Sl.new (f := fI) (size := 1) wc0 3 (am : Int) #[.int .i64 am] rfl
          have hzw := hbq.size
          replace hbc := hbc.alloc (by have := HBD.out; omega) (.cells #[.int .i64 am] 3)
          replace hbq := hbq.alloc (by have := HBD.out; omega) (.cells #[.int .i64 am] 3)
          obtain ⟨w13, hw13⟩ : ∃ z, wc0.alloc (.cells #[.int .i64 am] 3) = z := ⟨_, rfl⟩
          have hgo := (show wc0.grownBy w13 none from by rw [← hw13]; exact World.grownBy_alloc _ _ _)
          rw [hw13] at hsn hbq hbc ⊢
          have ho13 := ho0.of_blocks (w' := w13) (fun k hk => hgo.block k (ho0.lt k hk).2 (by simp))
          clear hw13 hgo hzw
          have HS := Lib.hid (show (fun wx => (∃ v, Rw wx (w.heap.size + 1) 136 #[.slice (some ⟨b2, o2, none⟩) n cv0, v, .int .i64 d]) ∧ Rw wx (w.heap.size) 134 #[.slice s1.A s1.n s1.c, .slice s2.A s2.n s2.c, .slice s3.A s3.n s3.c, .slice (some ⟨b, o, none⟩) so.n so.c, .slice sk.A sk.n sk.c] ∧ Rw wx (fb) 58 #[.int .i64 x.pl, .int .i64 x.volts, .int .i64 x.siem, .int .i64 x.limit] ∧ wx.cell? ⟨b2, o2 + kk, none⟩ = some (.int .i64 vk)) w13 from ⟨⟨_, (HRS.out _ hbq).1⟩, (HRS.out _ hbq).2.1, (HRS.out _ hbq).2.2.1, (HRS.out _ hbq).2.2.2⟩)
          refine hK.out _ _ HS.out (fun _ => ?_)
          clear hK K
          try simp only [Act.put, sB, sZ, sS]
          refine wpAnyH_ready (rs := [1]) (by kernel_rfl) (by simp) ?_
          refine AllReadyH.cons rfl (fun K hK => ?_) AllReadyH.nil
          rw [if_pos (by rfl)]
          have hx := (HRS.out _ hbq).1.cell
          go_simp
          clear hx
          have HS := Lib.hid (show (fun wx => (∃ v, Rw wx (w.heap.size + 1) 136 #[.slice (some ⟨b2, o2, none⟩) n cv0, v, .int .i64 d]) ∧ Rw wx (w.heap.size) 134 #[.slice s1.A s1.n s1.c, .slice s2.A s2.n s2.c, .slice s3.A s3.n s3.c, .slice (some ⟨b, o, none⟩) so.n so.c, .slice sk.A sk.n sk.c] ∧ Rw wx (fb) 58 #[.int .i64 x.pl, .int .i64 x.volts, .int .i64 x.siem, .int .i64 x.limit] ∧ wx.cell? ⟨b2, o2 + kk, none⟩ = some (.int .i64 vk)) w13 from ⟨⟨_, (HRS.out _ hbq).1⟩, (HRS.out _ hbq).2.1, (HRS.out _ hbq).2.2.1, (HRS.out _ hbq).2.2.2⟩)
          refine hK.out _ _ HS.out (fun _ => ?_)
          clear hK K
          try simp only [Act.put, sB, sZ, sS]
          refine wpAnyH_ready (rs := [21]) (by kernel_rfl) (by simp) ?_
          refine AllReadyH.cons rfl (fun K hK => ?_) AllReadyH.nil
          rw [if_pos (by rfl)]
          refine wp_app _ (.tmp 15) (.tmp 34) _ rfl (w.heap.size + 3) 3 i6 _ 1 8 Tryz.underlying40 hi6 hz6 hs6 hy6 rfl (by omega) fI_len fI_one (.slice A m c) ((on.take i).map (ampZ ns v d)) rfl ho13 _ _ [(am : Int)] 1 rfl hsn (by have := HLN.out; unfold maxLen; simp only [List.length_cons, List.length_nil]; omega) (by have := HLN.out; simp only [List.length_cons, List.length_nil]; omega) (by have := HBD.out; have := hbq.size; omega) (fun _ => .inr ⟨_, rfl⟩) ?_
          intro v2 w14 o14 gr14 at14 ne14
          obtain ⟨Av, cv, hve, _, _, _⟩ := o14.form
          generalize hn2 : List.length (_ ++ [_]) = n2 at hve
          subst hve
          have hb14 := bfGrown hbq gr14 (fun b hb => ⟨(ho13.lt b hb).1, HOB.out b hb⟩) (by have := HBD.out; have := hbq.size; omega)
          have hbc14 := bGrown hbc gr14 (fun b hb => (ho13.lt b hb).1) (by have := HBD.out; have := hbq.size; omega)
          have hx := HRS.out w14 hb14
          have HS := Lib.hid (show (fun wx => (∃ v, Rw wx (w.heap.size + 1) 136 #[.slice (some ⟨b2, o2, none⟩) n cv0, v, .int .i64 d]) ∧ Rw wx (w.heap.size) 134 #[.slice s1.A s1.n s1.c, .slice s2.A s2.n s2.c, .slice s3.A s3.n s3.c, .slice (some ⟨b, o, none⟩) so.n so.c, .slice sk.A sk.n sk.c] ∧ Rw wx (fb) 58 #[.int .i64 x.pl, .int .i64 x.volts, .int .i64 x.siem, .int .i64 x.limit] ∧ wx.cell? ⟨b2, o2 + kk, none⟩ = some (.int .i64 vk)) w14 from ⟨⟨_, (HRS.out _ hb14).1⟩, (HRS.out _ hb14).2.1, (HRS.out _ hb14).2.2.1, (HRS.out _ hb14).2.2.2⟩)
          have HX14 := Lib.hid hx
          refine hK.out _ _ HS.out (fun _ => ?_)
          clear hK K
          try simp only [Act.put, sB, sZ, sS]
          refine hTk (i := 22) (d := 36) (v := .pointer (some ⟨w.heap.size + 1, 1, none⟩)) rfl rfl (Or.inl ⟨rfl, by rintro W' ⟨⟨u0, s0⟩, r0, r1, r2⟩; have sy := s0.cell; have ry0 := r0.cell; have ry1 := r1.cell; go_simp⟩) HS.out ?_
          simp only [Act.put, sB, sZ, sS]
          refine wpAnyH_ready (rs := [23]) (by kernel_rfl) (by simp) ?_
          refine AllReadyH.cons rfl (fun K hK => ?_) AllReadyH.nil
          rw [if_pos (by rfl)]
          have hx9 := HX14.out.1.cell; have hf9 := HX14.out.1.frozen
          go_simp
          clear hx9 hf9
          have t0 := HX14.out.1.set 1 (.slice Av n2 cv)
          have t1 := HX14.out.2.1.far (k := w.heap.size + 1) 1 (.slice Av n2 cv) (by have := HNE.out; omega)
          have t2 := HX14.out.2.2.1.far (k := w.heap.size + 1) 1 (.slice Av n2 cv) (by have := HNE.out; omega)
          have t3 : (w14.setCell ⟨w.heap.size + 1, 1, none⟩ (.slice Av n2 cv)).cell? ⟨b2, o2 + kk, none⟩ = some (.int .i64 vk) := (World.cell?_of_block (a := ⟨b2, o2 + kk, none⟩) (Below.heap_setCell _ _ _ _ (by show b2 ≠ w.heap.size + 1; have := HNE.out; omega))).trans HX14.out.2.2.2
          have HS := Lib.hid (show (fun wx => (∃ v, Rw wx (w.heap.size + 1) 136 #[.slice (some ⟨b2, o2, none⟩) n cv0, v, .int .i64 d]) ∧ Rw wx (w.heap.size) 134 #[.slice s1.A s1.n s1.c, .slice s2.A s2.n s2.c, .slice s3.A s3.n s3.c, .slice (some ⟨b, o, none⟩) so.n so.c, .slice sk.A sk.n sk.c] ∧ Rw wx (fb) 58 #[.int .i64 x.pl, .int .i64 x.volts, .int .i64 x.siem, .int .i64 x.limit] ∧ wx.cell? ⟨b2, o2 + kk, none⟩ = some (.int .i64 vk)) (w14.setCell ⟨w.heap.size + 1, 1, none⟩ (.slice Av n2 cv)) from ⟨⟨_, t0⟩, t1, t2, t3⟩)
          have HR15 := Lib.hid t0
          clear t0 t1 t2 t3
          refine hK.out _ _ HS.out (fun _ => ?_)
          clear hK K
          try simp only [Act.put, sB, sZ, sS]
          refine wpAnyH_done (by kernel_rfl) ?_ _
          have HO14 := Lib.hid o14; have HB14 := Lib.hid hb14; have HBC14 := Lib.hid hbc14
          clear hbc14 hbc hbq HS hx HX14 o14 gr14 at14 ne14 hb14 ho0 ho13 hsn
          refine NoPanic.normal ?_
          have hbd := HBD.out
          have hne := HNE.out
          have HX1 := Lib.hid (show Below w.heap.size w (w14.setCell ⟨w.heap.size + 1, 1, none⟩ (.slice Av n2 cv)) from (HB6.out.trans ⟨HB14.out.os, HB14.out.tape, HB14.out.output, HB14.out.size, fun k hk => HB14.out.block k (.inl (by omega))⟩).setCell (p := ⟨w.heap.size + 1, 1, none⟩) (by show w.heap.size ≤ w.heap.size + 1; omega) _)
          have HX2 := Lib.hid (show Rw (w14.setCell ⟨w.heap.size + 1, 1, none⟩ (.slice Av n2 cv)) w.heap.size 134 #[.slice s1.A s1.n s1.c, .slice s2.A s2.n s2.c, .slice s3.A s3.n s3.c, .slice (some ⟨b, o, none⟩) so.n so.c, .slice sk.A sk.n sk.c] from (Below.heap_setCell _ _ _ _ (by show w.heap.size ≠ w.heap.size + 1; omega)).trans ((HB14.out.block _ (.inl (by omega))).trans HC6.out))
          have HR15w := Lib.hid (show Rw (w14.setCell ⟨w.heap.size + 1, 1, none⟩ (.slice Av n2 cv)) (w.heap.size + 1) 136 #[.slice Av0 n cv0, .slice Av n2 cv, .int .i64 d] from by rw [HVA.out]; exact HR15.out)
          have HX2w := Lib.hid (show Rw (w14.setCell ⟨w.heap.size + 1, 1, none⟩ (.slice Av n2 cv)) w.heap.size 134 #[.slice s1.A s1.n s1.c, .slice s2.A s2.n s2.c, .slice s3.A s3.n s3.c, .slice so.A so.n so.c, .slice sk.A sk.n sk.c] from by rw [HSA.out]; exact HX2.out)
          have HX3 := Lib.hid (show Rw (w14.setCell ⟨w.heap.size + 1, 1, none⟩ (.slice Av n2 cv)) (w.heap.size + 1 + 1) 136 #[.slice none 0 0, .slice none 0 0, .int .i64 0] from (Below.heap_setCell _ _ _ _ (by show w.heap.size + 1 + 1 ≠ w.heap.size + 1; omega)).trans ((HB14.out.block _ (.inl (by omega))).trans HR6.out))
          have HX4 := Lib.hid (show Own (w14.setCell ⟨w.heap.size + 1, 1, none⟩ (.slice Av n2 cv)) (w.heap.size + 3) 3 1 fI (.slice Av n2 cv) ((on.take (i + 1)).map (ampZ ns v d)) from by
            rw [HTK.out]
            exact HO14.out.of_blocks (fun j hj => Below.heap_setCell _ _ _ j (by show j ≠ w.heap.size + 1; have := (HO14.out.lt j hj).1; omega)))
          have HX5 := Lib.hid (show n2 = i + 1 from by rw [← hn2]; have := HI.out; have := HON.out; simp; omega)
          have HX6 := Lib.hid (show w.heap.size + 3 ≤ (w14.setCell ⟨w.heap.size + 1, 1, none⟩ (.slice Av n2 cv)).heap.size from by rw [World.size_setCell]; have := HB14.out.size; omega)
          have HXA := Lib.hid (show WaI Av0 n cv0 d v s1 s2 s3 so sk ns on w (i + 1) (w14.setCell ⟨w.heap.size + 1, 1, none⟩ (.slice Av n2 cv)) from ⟨Av, n2, cv, HR15w.out, HX4.out, HX5.out, HX2w.out, HX3.out, HX1.out, HX6.out⟩)
          clear hbd hne hn2
          (try simp only [Exit.inBlock, Exit.then])
          go_wp2
          refine ⟨⟨i + 1, by have := HI.out; omega, by simp, HXA.out⟩, ?_⟩
          have := HI.out; simp [intOf] <;> omega
    · have hii : ¬ (i : Int) < (so.n : Int) := by omega
      have hie : i = so.n := by omega
      have hme : m = so.n := by omega
      clear hmi
      subst hme
      have htk : on.take i = on := List.take_of_length_le (by have := HON.out; omega)
      rw [htk] at hoo
      have x0 := hr1.cell 0; have x1 := hr1.cell 1; have x2 := hr1.cell 2
      have y0 := hr2.cell 0; have y1 := hr2.cell 1; have y2 := hr2.cell 2; have yf := hr2.frozen
      have h3 := set3 (w := wr) (k := w.heap.size + 1 + 1) (v0 := .slice Av0 n cv0) (v1 := .slice A so.n c) (v2 := .int .i64 d)
      have HB := Lib.hid (hbr.trans (h3.2.2 w.heap.size (by omega)))
      have HOE := Lib.hid (show Own (((wr.setCell ⟨w.heap.size + 1 + 1, 0, none⟩ (.slice Av0 n cv0)).setCell ⟨w.heap.size + 1 + 1, 1, none⟩ (.slice A so.n c)).setCell ⟨w.heap.size + 1 + 1, 2, none⟩ (.int .i64 d)) w.heap.size 3 1 fI (.slice A so.n c) (on.map (ampZ ns v d)) from (hoo.of_blocks (fun k hk => h3.2.1 k (by have := (hoo.lt k hk).1; omega))).lower (by omega))
      have HR3 := Lib.hid (h3.1 136 _ _ _ hr2)
      clear h3 hoo hbr hr0 hr1 hr2 hsz htk hie hin
      go_wp2
      (try simp only [Exit.inBlock, Exit.then])
      refine bodyPost_ret (res_c rfl _ _ (w.heap.size + 1 + 1) 136 _ _ rfl HR3.out Tryz.underlying136 rfl rfl) rfl ?_
      exact ⟨A, c, rfl, HOE.out, HB.out⟩
end Go.Proofs.YtbnfnpakibkboaaGreat
