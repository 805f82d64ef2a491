/- Contracts: Clear, known. -/
import Derived.Test.YtekambdnmaompaaGreatJ5
import Derived.Test.YtekambdnmaompaaGreatJ6
namespace Go.Proofs.YtekambdnmaompaaGreat.SW
set_option linter.unusedVariables false
set_option linter.unusedSimpArgs false
open Go.RowKit

def ClOk (p : Pl) (a b : List C3) (hx sx hy sy : Int) : Prop := Vld p ∧ (prB ⟨hx, sx⟩ && prB ⟨hy, sy⟩) = true ∧ TouchOk p a ∧ TouchOk p b
def metT (p : Pl) (a b : List C3) (hx sx hy sy : Int) : Bool := (touchedT p a).any fun x => (touchedT p b).any fun y => foulB x y hx sx hy sy
theorem any_map {xs : List SwM} {l : List Swp} (h : xs.map (·.s) = l) (f : Swp → Bool) : l.any f = xs.any fun x => f x.s := by
  rw [← h, List.any_map]; rfl
set_option maxRecDepth 100000 in
set_option maxHeartbeats 2000000 in
theorem Clear_any (A A2 AP AQ : Option Addr) (c c2 ca cb na nb : Nat) (p : Pl) (a b : List C3) (hx sx hy sy : Int) (w : World) (hP : PlAt w w.heap.size A c A2 c2 p) (hSa : Sl w w.heap.size 3 CC AP a) (hSb : Sl w w.heap.size 3 CC AQ b) (hna : a.length = na) (hnb : b.length = nb) :
    Calls Tryz.prog 41 #[.agg #[.slice A p.nodes.length c, .slice A2 p.rails.length c2], .slice AP na ca, .agg #[.int .i64 hx, .int .i64 sx], .slice AQ nb cb, .agg #[.int .i64 hy, .int .i64 sy]] w fun e w' => ((ClOk p a b hx sx hy sy ∧ e = .returned (.tuple #[.bool (!metT p a b hx sx hy sy), .int .i64 0])) ∨ (¬ ClOk p a b hx sx hy sy ∧ e = .returned (.tuple #[.bool false, .int .i64 2]))) ∧ Below w.heap.size w w' := by
  have hrm := hP.rm; have hrc := hP.rc
  have hb3 := (((Below.refl _ w).alloc (Nat.le_refl _) (.cells #[.slice A p.nodes.length c, .slice A2 p.rails.length c2] 25)).alloc (by simp) (.cells #[.int .i64 hx, .int .i64 sx] 46)).alloc (by simp; omega) (.cells #[.int .i64 hy, .int .i64 sy] 46)
  obtain ⟨q1, q2, q3⟩ := rows3 w #[.slice A p.nodes.length c, .slice A2 p.rails.length c2] #[.int .i64 hx, .int .i64 sx] #[.int .i64 hy, .int .i64 sy] 25 46 46
  have hz1 : (((w.alloc (.cells #[.slice A p.nodes.length c, .slice A2 p.rails.length c2] 25)).alloc (.cells #[.int .i64 hx, .int .i64 sx] 46)).alloc (.cells #[.int .i64 hy, .int .i64 sy] 46)).heap.size = w.heap.size + 3 := by simp
  obtain ⟨W1, hW1⟩ : ∃ z, (((w.alloc (.cells #[.slice A p.nodes.length c, .slice A2 p.rails.length c2] 25)).alloc (.cells #[.int .i64 hx, .int .i64 sx] 46)).alloc (.cells #[.int .i64 hy, .int .i64 sy] 46)) = z := ⟨_, rfl⟩
  rw [hW1] at hb3 q1 q2 q3 hz1
  have HB1 := Lib.hid hb3
  have HZ1 := Lib.hid hz1
  have HR := Lib.hid (show ∀ wx, Below W1.heap.size W1 wx → Rw wx w.heap.size 25 #[.slice A p.nodes.length c, .slice A2 p.rails.length c2] ∧ Rw wx (w.heap.size + 1) 46 #[.int .i64 hx, .int .i64 sx] ∧ Rw wx (w.heap.size + 1 + 1) 46 #[.int .i64 hy, .int .i64 sy] from fun wx h => ⟨q1.below h (by omega), q2.below h (by omega), q3.below h (by omega)⟩)
  have HPB := Lib.hid (show ∀ wx, Below W1.heap.size W1 wx → PlAt wx wx.heap.size A c A2 c2 p from fun wx h => ((hP.below hb3).below (h.mono hb3.size)).more (Nat.le_trans hb3.size h.size))
  have HTA := Lib.hid (show Vld p → ∀ wx, Below W1.heap.size W1 wx → Calls Tryz.prog 75 #[.agg #[.slice A p.nodes.length c, .slice A2 p.rails.length c2], .slice AP na ca] wx _ from fun hV wx h => touched_any A A2 c c2 p AP ca na a wx (HPB.out wx h) hV ((hSa.below (hb3.trans (h.mono hb3.size))).more (fun _ _ h => h) (Nat.le_trans hb3.size h.size)) hna)
  have HTB := Lib.hid (show Vld p → ∀ wx, Below W1.heap.size W1 wx → Calls Tryz.prog 75 #[.agg #[.slice A p.nodes.length c, .slice A2 p.rails.length c2], .slice AQ nb cb] wx _ from fun hV wx h => touched_any A A2 c c2 p AQ cb nb b wx (HPB.out wx h) hV ((hSb.below (hb3.trans (h.mono hb3.size))).more (fun _ _ h => h) (Nat.le_trans hb3.size h.size)) hnb)
  have HCK := Lib.hid (Check_any A A2 c c2 p W1 (HPB.out W1 (Below.refl _ _)))
  have HRT := Lib.hid (show ∀ wx : World, Calls Tryz.prog 66 #[.slice (some ⟨wx.heap.size, 0, none⟩) 2 2] (wx.alloc (.cells #[.int .i64 hx, .int .i64 sx, .int .i64 hy, .int .i64 sy] 46)) fun e w' => e = .returned (.bool (prB ⟨hx, sx⟩ && prB ⟨hy, sy⟩)) ∧ Below (wx.heap.size + 1) (wx.alloc (.cells #[.int .i64 hx, .int .i64 sx, .int .i64 hy, .int .i64 sy] 46)) w' from fun wx => by
    have h := right_any (some ⟨wx.heap.size, 0, none⟩) 2 2 [⟨hx, sx⟩, ⟨hy, sy⟩] (wx.alloc (.cells #[.int .i64 hx, .int .i64 sx, .int .i64 hy, .int .i64 sy] 46)) rfl (by omega) (by have := Sl.two wx 46 hx sx hy sy; simpa using this)
    simpa using h)
  have e0 := q1.cell 0; have e1 := q1.cell 1
  have HCL := Lib.hid (show ∀ h : ClOk p a b hx sx hy sy, Pr hx sx ∧ Pr hy sy from fun h => by
    have := h.2.1; rw [Bool.and_eq_true] at this; exact ⟨prB_pr this.1, prB_pr this.2⟩)
  clear hb3 q1 q2 q3 hP hSa hSb hna hnb hz1
  go_enter Tryz.func41, Tryz.ntmps41
  go_wp2_with fail
  refine (HCK.out).mono ?_
  rintro e w1 ⟨h, hb2⟩
  have HB2 := Lib.hid hb2
  have HBW := Lib.hid (HB1.out.trans (hb2.mono HB1.out.size))
  rcases h with ⟨hV, rfl⟩ | ⟨hV, rfl⟩
  case inr =>
    have HNO := Lib.hid (show ¬ ClOk p a b hx sx hy sy from fun h => hV h.1)
    clear hV hb2
    go_wp2
    go_ret2
    exact ⟨.inr ⟨HNO.out, rfl⟩, HBW.out⟩
  have HV := Lib.hid hV
  obtain ⟨r1, r2, r3⟩ := HR.out _ hb2
  have c0 := r2.cell 0; have c1 := r2.cell 1; have c2' := r3.cell 0; have c3 := r3.cell 1
  clear hV hb2 r1 r2 r3 e0 e1 hW1
  go_wp2_with fail
  refine (HRT.out _).mono ?_
  rintro e w2 ⟨rfl, hb4⟩
  have hb12 : Below w1.heap.size w1 w2 := ((Below.refl _ w1).alloc (Nat.le_refl _) _).trans (hb4.mono (by omega))
  have HB3 := Lib.hid (HB2.out.trans (hb12.mono HB2.out.size))
  clear hb4 hb12
  cases hpr : (prB ⟨hx, sx⟩ && prB ⟨hy, sy⟩) with
  | false =>
    have HNO := Lib.hid (show ¬ ClOk p a b hx sx hy sy from fun h => by have := h.2.1; rw [hpr] at this; cases this)
    clear hpr
    go_wp2
    go_ret2
    exact ⟨.inr ⟨HNO.out, rfl⟩, HB1.out.trans (HB3.out.mono HB1.out.size)⟩
  | true =>
  have HPR := Lib.hid hpr
  obtain ⟨r1, r2, r3⟩ := HR.out _ HB3.out
  have e0 := r1.cell 0; have e1 := r1.cell 1
  clear hpr r1 r2 r3 c0 c1 c2' c3
  go_wp2_with fail
  refine (HTA.out HV.out _ HB3.out).mono ?_
  rintro e w3 ⟨h, hb4⟩
  have HB4 := Lib.hid (HB3.out.trans (hb4.mono HB3.out.size))
  rcases h with ⟨hta, va, xs, rfl, hxs, hoa, hsa⟩ | ⟨hta, rfl⟩
  case inr =>
    have HNO := Lib.hid (show ¬ ClOk p a b hx sx hy sy from fun h => hta h.2.2.1)
    clear hta hb4
    go_wp2
    go_ret2
    exact ⟨.inr ⟨HNO.out, rfl⟩, HB1.out.trans (HB4.out.mono HB1.out.size)⟩
  have HTAO := Lib.hid hta
  have HXS := Lib.hid hxs
  have HOA := Lib.hid hoa
  have HSA := Lib.hid hsa
  obtain ⟨r1, r2, r3⟩ := HR.out _ HB4.out
  have e0 := r1.cell 0; have e1 := r1.cell 1
  clear hta hxs hoa hsa hb4 r1 r2 r3
  go_wp2_with fail
  refine (HTB.out HV.out _ HB4.out).mono ?_
  rintro e w4 ⟨h, hb5⟩
  have HB45 := Lib.hid hb5
  have HB5 := Lib.hid (HB4.out.trans (hb5.mono HB4.out.size))
  rcases h with ⟨htb, vb, ys, rfl, hys, hob, hsb⟩ | ⟨htb, rfl⟩
  case inr =>
    have HNO := Lib.hid (show ¬ ClOk p a b hx sx hy sy from fun h => htb h.2.2.2)
    clear htb hb5
    go_wp2
    go_ret2
    exact ⟨.inr ⟨HNO.out, rfl⟩, HB1.out.trans (HB5.out.mono HB1.out.size)⟩
  have HOK := Lib.hid (show ClOk p a b hx sx hy sy from ⟨HV.out, HPR.out, HTAO.out, htb⟩)
  have HMET := Lib.hid (show metT p a b hx sx hy sy = xs.any fun x => ys.any fun y => foulB x.s y.s hx sx hy sy from by
    unfold metT
    rw [any_map HXS.out]
    congr 1
    funext x
    rw [any_map hys])
  have HOB := Lib.hid hob
  have HSB := Lib.hid hsb
  obtain ⟨Aa, cva, rfl, hl1, hl2, _⟩ := HOA.out.form
  obtain ⟨Ab, cvb, rfl, hl3, hl4, _⟩ := HOB.out.form
  have hyl : ys.length ≤ 1000000 := by
    have h1 := congrArg List.length hys
    rw [List.length_map] at h1
    have h2 := touched_len p HV.out b htb.2
    have h3 := htb.1
    omega
  obtain ⟨n1, hn1⟩ : ∃ z, xs.length = z := ⟨_, rfl⟩
  obtain ⟨n2, hn2⟩ : ∃ z, ys.length = z := ⟨_, rfl⟩
  have hxl2 : xs.length ≤ 1000000 := by
    have h1 := congrArg List.length HXS.out
    rw [List.length_map] at h1
    have h2 := touched_len p HV.out a HTAO.out.2
    have h3 := HTAO.out.1
    omega
  have HN1 := Lib.hid hn1; have HN2 := Lib.hid hn2; have HYL := Lib.hid hyl
  rw [hn1] at hxl2
  have HOA2 := Lib.hid (HOA.out.below HB45.out (Nat.le_refl _))
  have HXA := Lib.hid (show ∀ wx, Below w4.heap.size w4 wx → ∀ (i : Nat) (x : SwM), xs[i]? = some x → ∃ b3 off3, Aa = some ⟨b3, off3, none⟩ ∧ ∀ q u, (fSw x)[q]? = some u → wx.cell? ⟨b3, off3 + i * 13 + q, none⟩ = some u from fun wx h i x hx => by
    obtain ⟨hi, e⟩ := List.getElem?_eq_some_iff.1 hx
    obtain ⟨b3, off3, cs, eA, hbb, hcc, hc⟩ := (HOA2.out.sl fSw_len rfl).at_ hi
    rw [e] at hcc
    subst hcc
    exact ⟨b3, off3, eA, fun q u hq => (h.cell (p := ⟨b3, off3 + i * 13 + q, none⟩) hbb).trans (hc q u hq)⟩)
  have HFS := Lib.hid (show ∀ (x : SwM) (wx : World), x ∈ xs → Below w4.heap.size w4 wx → Calls Tryz.prog 67 #[.agg (fSw x).toArray, .agg #[.int .i64 hx, .int .i64 sx], .slice Ab n2 cvb, .agg #[.int .i64 hy, .int .i64 sy]] wx fun e w' => e = .returned (.bool (ys.any fun y => foulB x.s y.s hx sx hy sy)) ∧ Below wx.heap.size wx w' from fun x wx hmem h =>
    foulSome_any x Ab cvb n2 hx sx hy sy ys wx HN2.out (by rw [← HN2.out]; exact HYL.out) (HCL.out HOK.out).1 (HCL.out HOK.out).2 ((((HSA.out x hmem).below HB45.out)).below h) (fun y hy => (HSB.out y hy).below h) ((HOB.out.below h (Nat.le_refl _)).sl fSw_len rfl))
  rw [hn1, hn2]
  clear htb hys hob hsb hl1 hl2 hl3 hl4 hyl hn1 hn2 hb5 e0 e1
  go_wp2
  go_loopw [45] (fun s45 wr => ∃ (i : Nat), i ≤ n1 ∧ s45 = .int .i64 (i : Int) ∧ ((xs.take i).any fun x => ys.any fun y => foulB x.s y.s hx sx hy sy) = false ∧ Below w4.heap.size w4 wr) (fun s45 _ => n1 - (intOf s45).toNat)
  case atStart => exact ⟨0, by omega, rfl, by simp, Below.refl _ _⟩
  case round =>
    obtain ⟨i, hi, rfl, hany, hb⟩ := hrel
    have HANY := Lib.hid hany; have HB := Lib.hid hb
    clear hany hb
    by_cases hin : i < n1
    · obtain ⟨x, hxm⟩ : ∃ z, xs[i]? = some z := ⟨_, List.getElem?_eq_getElem (by have := HN1.out; omega)⟩
      have HX := Lib.hid hxm
      have HIN := Lib.hid hin
      obtain ⟨b3, off3, eA, hxl⟩ := HXA.out _ HB.out i x hxm
      subst eA
      have d0 : wr.cell? ⟨b3, off3 + i * 13, none⟩ = some (.int .i64 x.s.rail) := hxl 0 _ rfl
      have d1 := hxl 1 _ rfl
      have d2 := hxl 2 _ rfl
      have d3 := hxl 3 _ rfl
      have d4 := hxl 4 _ rfl
      have d5 := hxl 5 _ rfl
      have d6 := hxl 6 _ rfl
      have d7 := hxl 7 _ rfl
      have d8 := hxl 8 _ rfl
      have d9 := hxl 9 _ rfl
      have d10 := hxl 10 _ rfl
      have d11 := hxl 11 _ rfl
      have d12 := hxl 12 _ rfl
      have g1 : (i : Int) < (n1 : Int) := by omega
      have g0 : (0 : Int) ≤ (i : Int) := by omega
      have hb5 := (Below.refl wr.heap.size wr).alloc (Nat.le_refl _) (.cells #[.int .i64 x.s.rail, .int .i64 x.s.seg, .int .i64 x.s.a.x, .int .i64 x.s.a.y, .int .i64 x.s.b.x, .int .i64 x.s.b.y, .int .i64 x.s.bg, .int .i64 x.s.en, .slice x.A x.s.bends.length x.c, .int .i64 (min x.s.a.x x.s.b.x), .int .i64 (min x.s.a.y x.s.b.y), .int .i64 (max x.s.a.x x.s.b.x), .int .i64 (max x.s.a.y x.s.b.y)] 98)
      have q5 := Rw.new wr #[.int .i64 x.s.rail, .int .i64 x.s.seg, .int .i64 x.s.a.x, .int .i64 x.s.a.y, .int .i64 x.s.b.x, .int .i64 x.s.b.y, .int .i64 x.s.bg, .int .i64 x.s.en, .slice x.A x.s.bends.length x.c, .int .i64 (min x.s.a.x x.s.b.x), .int .i64 (min x.s.a.y x.s.b.y), .int .i64 (max x.s.a.x x.s.b.x), .int .i64 (max x.s.a.y x.s.b.y)] 98
      obtain ⟨W5, hW5⟩ : ∃ z, wr.alloc (.cells #[.int .i64 x.s.rail, .int .i64 x.s.seg, .int .i64 x.s.a.x, .int .i64 x.s.a.y, .int .i64 x.s.b.x, .int .i64 x.s.b.y, .int .i64 x.s.bg, .int .i64 x.s.en, .slice x.A x.s.bends.length x.c, .int .i64 (min x.s.a.x x.s.b.x), .int .i64 (min x.s.a.y x.s.b.y), .int .i64 (max x.s.a.x x.s.b.x), .int .i64 (max x.s.a.y x.s.b.y)] 98) = z := ⟨_, rfl⟩
      rw [hW5] at hb5 q5
      have hb45 := HB.out.trans (hb5.mono HB.out.size)
      have HB55 := Lib.hid hb45
      obtain ⟨r1, r2, r3⟩ := HR.out _ (HB5.out.trans (hb45.mono HB5.out.size))
      have c0 := r2.cell 0; have c1 := r2.cell 1; have c2' := r3.cell 0; have c3 := r3.cell 1
      have x0 := q5.cell 0; have x1 := q5.cell 1; have x2 := q5.cell 2; have x3 := q5.cell 3; have x4 := q5.cell 4; have x5 := q5.cell 5; have x6 := q5.cell 6; have x7 := q5.cell 7; have x8 := q5.cell 8; have x9 := q5.cell 9; have x10 := q5.cell 10; have x11 := q5.cell 11; have x12 := q5.cell 12
      have hf := HFS.out x W5 (List.mem_of_getElem? hxm) hb45
      rw [show (fSw x).toArray = #[.int .i64 x.s.rail, .int .i64 x.s.seg, .int .i64 x.s.a.x, .int .i64 x.s.a.y, .int .i64 x.s.b.x, .int .i64 x.s.b.y, .int .i64 x.s.bg, .int .i64 x.s.en, .slice x.A x.s.bends.length x.c, .int .i64 (min x.s.a.x x.s.b.x), .int .i64 (min x.s.a.y x.s.b.y), .int .i64 (max x.s.a.x x.s.b.x), .int .i64 (max x.s.a.y x.s.b.y)] from rfl] at hf
      have HF := Lib.hid hf
      clear hb5 q5 hb45 r1 r2 r3 hf hxm hxl
      go_wp2_with fail
      refine (HF.out).mono ?_
      rintro e w6 ⟨rfl, hb6⟩
      have HB6 := Lib.hid (HB55.out.trans (hb6.mono HB55.out.size))
      clear hb6
      cases hq : (ys.any fun y => foulB x.s y.s hx sx hy sy) with
      | true =>
        have HT := Lib.hid (show metT p a b hx sx hy sy = true from by
          rw [HMET.out]; exact List.any_eq_true.2 ⟨x, List.mem_of_getElem? HX.out, hq⟩)
        clear hq
        go_wp2
        go_ret2
        exact ⟨.inl ⟨HOK.out, by rw [HT.out]; rfl⟩, HB1.out.trans ((HB5.out.trans (HB6.out.mono HB5.out.size)).mono HB1.out.size)⟩
      | false =>
        have HQ := Lib.hid hq
        clear hq
        go_wp2
        go_roundw
        case rel =>
          refine ⟨i + 1, by have := HIN.out; omega, by go_num, ?_, HB6.out⟩
          obtain ⟨hi2, e⟩ := List.getElem?_eq_some_iff.1 HX.out
          rw [List.take_succ_eq_append_getElem hi2, List.any_append, HANY.out, e]
          simpa using HQ.out
        case measure => have := HIN.out; simp [intOf]; omega
    · obtain rfl : i = n1 := by omega
      have HFIN := Lib.hid (show metT p a b hx sx hy sy = false from by
        rw [HMET.out]
        have := HANY.out
        rwa [List.take_of_length_le (by have := HN1.out; omega)] at this)
      go_wp2
      go_ret2
      exact ⟨.inl ⟨HOK.out, by rw [HFIN.out]; rfl⟩, HB1.out.trans ((HB5.out.trans (HB.out.mono HB5.out.size)).mono HB1.out.size)⟩
end Go.Proofs.YtekambdnmaompaaGreat.SW

namespace Go.Proofs.YtekambdnmaompaaGreat.SW
set_option linter.unusedVariables false
set_option linter.unusedSimpArgs false
open Go.RowKit

def exL0 : List S := [⟨0, 0⟩, ⟨1000, 0⟩]
def exL2 : List S := [⟨1000, 0⟩, ⟨1600, 0⟩, ⟨2000, 500⟩]
theorem ex_rl0 : RlOk exP 0 exL0 := Vld.rl ex_valid (r := 0) (by decide)
theorem ex_rl2 : RlOk exP 2 exL2 := Vld.rl ex_valid (r := 2) (by decide)
theorem ex_l1 : lenTo exL2 1 = 600 := by decide +kernel
theorem ex_l2 : lenTo exL2 2 = 1240 := by decide +kernel
theorem ex_gap : gapW (stripAt 0 exL0 0) (stripAt 2 exL2 1) = 600 := by decide +kernel
theorem ex_foul : foulB (stripAt 0 exL0 0) (stripAt 2 exL2 1) 275 50 275 50 = true := by decide +kernel
theorem ex_pr : prB ⟨275, 50⟩ = true ∧ prB ⟨100, 50⟩ = true := by decide
def exA : List C3 := [⟨0, 0, 500⟩]
def exB : List C3 := [⟨2, 700, 1240⟩]
def exC : List C3 := [⟨2, 0, 100⟩]
theorem ex_ta : TouchOk exP exA := ⟨by decide, by decide +kernel⟩
theorem ex_tb : TouchOk exP exB := ⟨by decide, by decide +kernel⟩
theorem ex_tc : TouchOk exP exC := ⟨by decide, by decide +kernel⟩
theorem ex_met : metT exP exA exB 100 50 100 50 = false := by decide +kernel
theorem ex_met2 : metT exP exA exC 100 50 100 50 = true := by decide +kernel
theorem ex_cl : ClOk exP exA exB 100 50 100 50 := ⟨ex_valid, by decide, ex_ta, ex_tb⟩
theorem ex_cl2 : ClOk exP exA exC 100 50 100 50 := ⟨ex_valid, by decide, ex_ta, ex_tc⟩
end Go.Proofs.YtekambdnmaompaaGreat.SW

namespace Go.Proofs.YtekambdnmaompaaGreat.SW
set_option linter.unusedVariables false
set_option linter.unusedSimpArgs false
open Go.RowKit

theorem cov_new (w : World) (x : C3) (cs : Array Value) (h : cs = #[.int .i64 x.rail, .int .i64 x.frm, .int .i64 x.to]) : Sl (w.alloc (.cells cs 79)) (w.heap.size + 1) 3 CC (some ⟨w.heap.size, 0, none⟩) [x] :=
  Sl.new (f := fun s : C3 => [.int .i64 s.rail, .int .i64 s.frm, .int .i64 s.to]) (size := 3) w 79 x cs h
theorem clear_two (A A2 : Option Addr) (wx : World) (x y : C3) (hP : PlAt wx wx.heap.size A 4 A2 3 exP) (r : Bool) (h : ClOk exP [x] [y] 100 50 100 50) (hm : metT exP [x] [y] 100 50 100 50 = !r) :
    Calls Tryz.prog 41 #[.agg #[.slice A 4 4, .slice A2 3 3], .slice (some ⟨wx.heap.size, 0, none⟩) 1 1, .agg #[.int .i64 100, .int .i64 50], .slice (some ⟨wx.heap.size + 1, 0, none⟩) 1 1, .agg #[.int .i64 100, .int .i64 50]]
      ((wx.alloc (.cells #[.int .i64 x.rail, .int .i64 x.frm, .int .i64 x.to] 79)).alloc (.cells #[.int .i64 y.rail, .int .i64 y.frm, .int .i64 y.to] 79)) fun e w' => e = .returned (.tuple #[.bool r, .int .i64 0]) ∧ Below wx.heap.size wx w' := by
  have hb := ((Below.refl wx.heap.size wx).alloc (Nat.le_refl _) (.cells #[.int .i64 x.rail, .int .i64 x.frm, .int .i64 x.to] 79)).alloc (by simp) (.cells #[.int .i64 y.rail, .int .i64 y.frm, .int .i64 y.to] 79)
  have s1 := cov_new wx x _ rfl
  have s2 := cov_new (wx.alloc (.cells #[.int .i64 x.rail, .int .i64 x.frm, .int .i64 x.to] 79)) y _ rfl
  have hz : (wx.alloc (.cells #[.int .i64 x.rail, .int .i64 x.frm, .int .i64 x.to] 79)).heap.size = wx.heap.size + 1 := by simp
  have hz2 : ((wx.alloc (.cells #[.int .i64 x.rail, .int .i64 x.frm, .int .i64 x.to] 79)).alloc (.cells #[.int .i64 y.rail, .int .i64 y.frm, .int .i64 y.to] 79)).heap.size = wx.heap.size + 1 + 1 := by simp
  rw [hz] at s2
  have hc := Clear_any A A2 (some ⟨wx.heap.size, 0, none⟩) (some ⟨wx.heap.size + 1, 0, none⟩) 4 3 1 1 1 1 exP [x] [y] 100 50 100 50 _ ((hP.below hb).more hb.size)
    ((s1.below (by rw [← hz]; exact (Below.refl _ _).alloc (Nat.le_refl _) _)).more (fun _ _ h => h) (by rw [hz2]; omega)) (s2.more (fun _ _ h => h) (by rw [hz2]; omega)) rfl rfl
  refine hc.mono ?_
  rintro e w' ⟨h1, hb2⟩
  refine ⟨?_, hb.trans (hb2.mono hb.size)⟩
  rcases h1 with ⟨_, rfl⟩ | ⟨hn, _⟩
  · rw [hm]; simp
  · exact absurd h hn
set_option maxRecDepth 100000 in
set_option maxHeartbeats 2000000 in
theorem known_any (w : World) : Calls Tryz.prog 16 #[] w fun e w' => e = .returned (.bool true) ∧ Below w.heap.size w w' := by
  have HE := Lib.hid (Example_any w)
  go_enter Tryz.func16, Tryz.ntmps16
  go_wp2_with fail
  refine (HE.out).mono ?_
  rintro e w1 ⟨⟨A, A2, rfl, hP⟩, hb1⟩
  have hb2 := (Below.refl w1.heap.size w1).alloc (Nat.le_refl _) (.cells #[.slice A 4 4, .slice A2 3 3] 25)
  have q1 := Rw.new w1 #[.slice A 4 4, .slice A2 3 3] 25
  have hz2 : (w1.alloc (.cells #[.slice A 4 4, .slice A2 3 3] 25)).heap.size = w1.heap.size + 1 := by simp
  obtain ⟨W2, hW2⟩ : ∃ z, w1.alloc (.cells #[.slice A 4 4, .slice A2 3 3] 25) = z := ⟨_, rfl⟩
  rw [hW2] at hb2 q1 hz2
  have HB2 := Lib.hid (hb1.trans (hb2.mono hb1.size))
  have HPB := Lib.hid (show ∀ wx, Below W2.heap.size W2 wx → PlAt wx wx.heap.size A 4 A2 3 exP from fun wx h => ((hP.below hb2).below (h.mono hb2.size)).more (Nat.le_trans hb2.size h.size))
  have HR := Lib.hid (show ∀ wx, Below W2.heap.size W2 wx → Rw wx w1.heap.size 25 #[.slice A 4 4, .slice A2 3 3] from fun wx h => q1.below h (by omega))
  have HPL := Lib.hid (show ∀ wx, Below W2.heap.size W2 wx → Calls Tryz.prog 18 #[.agg #[.slice A 4 4, .slice A2 3 3], .agg #[.int .i64 2, .int .i64 1]] wx fun e w' => e = .returned (.tuple #[.int .i64 600, .int .i64 1240, .int .i64 0]) ∧ Below wx.heap.size wx w' from fun wx h => by
    have := Place_yes A A2 4 3 exP 2 1 exL2 wx (HPB.out wx h) ex_valid ex_rl2 (by decide)
    rw [ex_l1, ex_l2] at this
    exact this)
  have HGP := Lib.hid (show ∀ wx, Below W2.heap.size W2 wx → Calls Tryz.prog 24 #[.agg #[.slice A 4 4, .slice A2 3 3], .agg #[.int .i64 0, .int .i64 0], .agg #[.int .i64 2, .int .i64 1]] wx fun e w' => e = .returned (.tuple #[.int .i64 600, .int .i64 0]) ∧ Below wx.heap.size wx w' from fun wx h => by
    have := Gap_yes A A2 4 3 exP 0 0 2 1 exL0 exL2 wx (HPB.out wx h) ex_valid ex_rl0 (by decide) ex_rl2 (by decide)
    rw [ex_gap] at this
    exact this)
  have HFO := Lib.hid (show ∀ wx, Below W2.heap.size W2 wx → Calls Tryz.prog 28 #[.agg #[.slice A 4 4, .slice A2 3 3], .agg #[.int .i64 0, .int .i64 0], .agg #[.int .i64 275, .int .i64 50], .agg #[.int .i64 2, .int .i64 1], .agg #[.int .i64 275, .int .i64 50]] wx fun e w' => e = .returned (.tuple #[.bool true, .int .i64 0]) ∧ Below wx.heap.size wx w' from fun wx h => by
    have := Foul_yes A A2 4 3 exP 0 0 2 1 exL0 exL2 275 50 275 50 wx (HPB.out wx h) ex_valid ex_rl0 (by decide) ex_rl2 (by decide) ex_pr.1 ex_pr.1
    rw [ex_foul] at this
    exact this)
  have HC1 := Lib.hid (show ∀ wx, Below W2.heap.size W2 wx → Calls Tryz.prog 41 #[.agg #[.slice A 4 4, .slice A2 3 3], .slice (some ⟨wx.heap.size, 0, none⟩) 1 1, .agg #[.int .i64 100, .int .i64 50], .slice (some ⟨wx.heap.size + 1, 0, none⟩) 1 1, .agg #[.int .i64 100, .int .i64 50]]
      ((wx.alloc (.cells #[.int .i64 0, .int .i64 0, .int .i64 500] 79)).alloc (.cells #[.int .i64 2, .int .i64 700, .int .i64 1240] 79)) fun e w' => e = .returned (.tuple #[.bool true, .int .i64 0]) ∧ Below wx.heap.size wx w' from fun wx h => clear_two A A2 wx ⟨0, 0, 500⟩ ⟨2, 700, 1240⟩ (HPB.out wx h) true ex_cl ex_met)
  have HC2 := Lib.hid (show ∀ wx, Below W2.heap.size W2 wx → Calls Tryz.prog 41 #[.agg #[.slice A 4 4, .slice A2 3 3], .slice (some ⟨wx.heap.size, 0, none⟩) 1 1, .agg #[.int .i64 100, .int .i64 50], .slice (some ⟨wx.heap.size + 1, 0, none⟩) 1 1, .agg #[.int .i64 100, .int .i64 50]]
      ((wx.alloc (.cells #[.int .i64 0, .int .i64 0, .int .i64 500] 79)).alloc (.cells #[.int .i64 2, .int .i64 0, .int .i64 100] 79)) fun e w' => e = .returned (.tuple #[.bool false, .int .i64 0]) ∧ Below wx.heap.size wx w' from fun wx h => clear_two A A2 wx ⟨0, 0, 500⟩ ⟨2, 0, 100⟩ (HPB.out wx h) false ex_cl2 ex_met2)
  have e0 := q1.cell 0; have e1 := q1.cell 1
  clear hb1 hb2 q1 hP hz2
  go_wp2_with fail
  refine (HPL.out _ (Below.refl _ _)).mono ?_
  rintro e w3 ⟨rfl, hb3⟩
  have HB3 := Lib.hid hb3
  have r3 := HR.out _ hb3
  have e0 := r3.cell 0; have e1 := r3.cell 1
  clear hb3 r3 hW2
  go_wp2_with fail
  refine (HGP.out _ HB3.out).mono ?_
  rintro e w4 ⟨rfl, hb4⟩
  have hb24 := HB3.out.trans (hb4.mono HB3.out.size)
  have hb5 := ((hb24.alloc hb24.size (.cells #[.int .i64 275, .int .i64 50] 46)).alloc (by have := hb24.size; simp; omega) (.cells #[.int .i64 100, .int .i64 50] 46))
  obtain ⟨q1, q2⟩ := rows2 w4 #[.int .i64 275, .int .i64 50] #[.int .i64 100, .int .i64 50] 46 46
  have hz5 : ((w4.alloc (.cells #[.int .i64 275, .int .i64 50] 46)).alloc (.cells #[.int .i64 100, .int .i64 50] 46)).heap.size = w4.heap.size + 2 := by simp
  obtain ⟨W5, hW5⟩ : ∃ z, (w4.alloc (.cells #[.int .i64 275, .int .i64 50] 46)).alloc (.cells #[.int .i64 100, .int .i64 50] 46) = z := ⟨_, rfl⟩
  rw [hW5] at hb5 q1 q2 hz5
  have HB5 := Lib.hid hb5
  have HQ := Lib.hid (show ∀ wx, Below W5.heap.size W5 wx → Rw wx w4.heap.size 46 #[.int .i64 275, .int .i64 50] ∧ Rw wx (w4.heap.size + 1) 46 #[.int .i64 100, .int .i64 50] from fun wx h => ⟨q1.below h (by omega), q2.below h (by omega)⟩)
  have r3 := HR.out _ hb5
  have e0 := r3.cell 0; have e1 := r3.cell 1
  have x0 := q1.cell 0; have x1 := q1.cell 1
  clear hb4 hb24 hb5 q1 q2 hz5 r3
  go_wp2_with fail
  refine (HFO.out _ HB5.out).mono ?_
  rintro e w6 ⟨rfl, hb6⟩
  have HB6 := Lib.hid hb6
  have HB26 := Lib.hid (HB5.out.trans (hb6.mono HB5.out.size))
  have r3 := HR.out _ HB26.out
  have e0 := r3.cell 0; have e1 := r3.cell 1
  obtain ⟨_, q2⟩ := HQ.out _ hb6
  have lt1 : w4.heap.size + 1 < w6.heap.size := q2.lt
  have lt2 : w4.heap.size + 1 < w6.heap.size + 1 := by omega
  have y0 := q2.cell 0; have y1 := q2.cell 1
  clear hb6 r3 q2 hW5
  go_wp2_with fail
  refine (HC1.out _ HB26.out).mono ?_
  rintro e w7 ⟨rfl, hb7⟩
  have HB7 := Lib.hid (HB6.out.trans (hb7.mono HB6.out.size))
  have HB27 := Lib.hid (HB26.out.trans (hb7.mono HB26.out.size))
  have r3 := HR.out _ HB27.out
  have e0 := r3.cell 0; have e1 := r3.cell 1
  obtain ⟨_, q2⟩ := HQ.out _ HB7.out
  have lt3 : w4.heap.size + 1 < w7.heap.size := q2.lt
  have lt4 : w4.heap.size + 1 < w7.heap.size + 1 := by omega
  have y0 := q2.cell 0; have y1 := q2.cell 1
  clear hb7 r3 q2
  go_wp2_with fail
  refine (HC2.out _ HB27.out).mono ?_
  rintro e w8 ⟨rfl, hb8⟩
  have HB8 := Lib.hid (HB2.out.trans ((HB27.out.trans (hb8.mono HB27.out.size)).mono HB2.out.size))
  clear hb8
  go_wp2
  go_ret
  exact ⟨rfl, HB8.out⟩
end Go.Proofs.YtekambdnmaompaaGreat.SW
