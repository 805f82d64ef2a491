/- Contracts of the specification: Same of fouls, Profiles, Rails. -/
import Derived.Test.YtekambdnmaompaaGreatJ4
import Derived.Test.YtekambdnmaompaaGreatJ7
import Derived.Test.YtekambdnmaompaaGreatJS
namespace Go.Proofs.YtekambdnmaompaaGreat.SW
set_option linter.unusedVariables false
set_option linter.unusedSimpArgs false
open Go.RowKit

/-- two rails and their profiles, by number -/
structure Fo4 where
  ra : Int
  pa : Int
  rb : Int
  pb : Int
def CFo (s : Fo4) (cs : List Value) : Prop := cs = [.int .i64 s.ra, .int .i64 s.pa, .int .i64 s.rb, .int .i64 s.pb]
def fF (s : Fo4) : List Value := [.int .i64 s.ra, .int .i64 s.pa, .int .i64 s.rb, .int .i64 s.pb]
theorem fF_len (s : Fo4) : (fF s).length = 4 := rfl
theorem fF_one (s : Fo4) : ∀ u ∈ fF s, u.oneCell' = true := by simp [fF, Value.oneCell']
theorem info60 : (Tryz.prog.info? 60).map (fun i => (i.zero, i.size, i.bytes)) = some (some (.agg #[.int .i64 0, .int .i64 0, .int .i64 0, .int .i64 0]), 4, 32) := by kernel_rfl
theorem foul_at {w : World} {B : Nat} {l : List Fo4} {A : Option Addr} (h : Sl w B 4 CFo A l) {i : Nat} (hi : i < l.length) :
    ∃ b off, A = some ⟨b, off, none⟩ ∧ b < B ∧ w.cell? ⟨b, off + i * 4, none⟩ = some (.int .i64 l[i].ra) ∧ w.cell? ⟨b, off + i * 4 + 1, none⟩ = some (.int .i64 l[i].pa) ∧ w.cell? ⟨b, off + i * 4 + 2, none⟩ = some (.int .i64 l[i].rb) ∧ w.cell? ⟨b, off + i * 4 + 3, none⟩ = some (.int .i64 l[i].pb) := by
  obtain ⟨b, off, cs, e, hb, rfl, hc⟩ := h.at_ hi
  exact ⟨b, off, e, hb, hc 0 _ rfl, hc 1 _ rfl, hc 2 _ rfl, hc 3 _ rfl⟩
set_option maxHeartbeats 1000000 in
theorem sameFouls_any (A B : Option Addr) (l m : List Fo4) (c d : Nat) (w : World) (hA : Sl w w.heap.size 4 CFo A l) (hB : Sl w w.heap.size 4 CFo B m) (hl : l.length ≤ 140737488351232) :
    Calls Tryz.prog 33 #[.slice A l.length c, .slice B m.length d] w (SamePost l m w) := by
  by_cases hlen : l.length = m.length
  · have H := Lib.hid hlen
    have h1 : ((l.length : Int) != (m.length : Int)) = false := by simp [hlen]
    have h2 : (!((l.length : Int) == (m.length : Int))) = false := by simp [hlen]
    clear hlen
    go_enter Tryz.func33, Tryz.ntmps33
    go_wp2
    go_loopw [5] (fun i wr => ∃ k : Nat, k ≤ l.length ∧ i = .int .i64 k ∧ l.take k = m.take k ∧ Below w.heap.size w wr) (fun i _ => l.length - (intOf i).toNat)
    case atStart => exact ⟨0, Nat.zero_le _, rfl, rfl, Below.refl _ _⟩
    case round =>
      obtain ⟨k, hk, rfl, htk, hb⟩ := hrel
      have HT := Lib.hid htk; clear htk
      by_cases hlt : k < l.length
      · have hlt' : k < m.length := by rw [← H.out]; exact hlt
        obtain ⟨b1, o1, e1, g1, q10, q11, q12, q13⟩ := foul_at (hA.below hb) hlt
        obtain ⟨b2, o2, e2, g2, q20, q21, q22, q23⟩ := foul_at (hB.below hb) hlt'
        obtain ⟨x0, x1, x2, x3, hx⟩ : ∃ x0 x1 x2 x3, l[k] = (⟨x0, x1, x2, x3⟩ : Fo4) := ⟨l[k].ra, l[k].pa, l[k].rb, l[k].pb, rfl⟩
        obtain ⟨y0, y1, y2, y3, hy⟩ : ∃ y0 y1 y2 y3, m[k] = (⟨y0, y1, y2, y3⟩ : Fo4) := ⟨m[k].ra, m[k].pa, m[k].rb, m[k].pb, rfl⟩
        rw [hx] at q10
        rw [hy] at q20
        rw [hx] at q11
        rw [hy] at q21
        rw [hx] at q12
        rw [hy] at q22
        rw [hx] at q13
        rw [hy] at q23
        have HX := Lib.hid hx; have HY := Lib.hid hy
        subst e1; subst e2
        clear hx hy
        by_cases h0 : x0 = y0
        case neg =>
          have HN := Lib.hid (show l ≠ m from ne_at hlt hlt' (by rw [HX.out, HY.out]; intro h; injection h; contradiction))
          have n1 : (x0 == y0) = false := by simpa using h0
          clear h0
          go_wp2
          go_quiet (fail)
          go_wp2
          go_ret
          exact ⟨⟨_, rfl, (fun h => by cases h), fun h => absurd h HN.out⟩, bDrewN hb _⟩
        subst h0
        by_cases h1 : x1 = y1
        case neg =>
          have HN := Lib.hid (show l ≠ m from ne_at hlt hlt' (by rw [HX.out, HY.out]; intro h; injection h; contradiction))
          have n1 : (x1 == y1) = false := by simpa using h1
          clear h1
          go_wp2
          go_quiet (fail)
          go_wp2
          go_ret
          exact ⟨⟨_, rfl, (fun h => by cases h), fun h => absurd h HN.out⟩, bDrewN hb _⟩
        subst h1
        by_cases h2 : x2 = y2
        case neg =>
          have HN := Lib.hid (show l ≠ m from ne_at hlt hlt' (by rw [HX.out, HY.out]; intro h; injection h; contradiction))
          have n1 : (x2 == y2) = false := by simpa using h2
          clear h2
          go_wp2
          go_quiet (fail)
          go_wp2
          go_ret
          exact ⟨⟨_, rfl, (fun h => by cases h), fun h => absurd h HN.out⟩, bDrewN hb _⟩
        subst h2
        by_cases h3 : x3 = y3
        case neg =>
          have HN := Lib.hid (show l ≠ m from ne_at hlt hlt' (by rw [HX.out, HY.out]; intro h; injection h; contradiction))
          have n1 : (x3 == y3) = false := by simpa using h3
          clear h3
          go_wp2
          go_quiet (fail)
          go_wp2
          go_ret
          exact ⟨⟨_, rfl, (fun h => by cases h), fun h => absurd h HN.out⟩, bDrewN hb _⟩
        subst h3
        go_wp2
        go_quiet (fail)
        go_wp2
        go_roundw
        case rel => exact ⟨k + 1, by omega, by go_num, take_next HT.out hlt hlt' (HX.out.trans HY.out.symm), bDrewN hb _⟩
        case measure => simp [intOf]; omega
      · obtain rfl : k = l.length := by omega
        have HQ := Lib.hid (show l = m by have := HT.out; rwa [List.take_length, H.out, List.take_length] at this)
        go_wp2
        go_ret
        exact ⟨⟨_, rfl, fun _ => HQ.out, fun _ => rfl⟩, hb⟩
  · have H := Lib.hid (show l ≠ m from fun e => hlen (by rw [e]))
    have h1 : ((l.length : Int) != (m.length : Int)) = true := by simp; omega
    have h2 : (!((l.length : Int) == (m.length : Int))) = true := by simp; omega
    clear hlen
    go_enter Tryz.func33, Tryz.ntmps33
    go_wp2
    go_ret
    exact ⟨⟨_, rfl, (fun h => by cases h), fun h => absurd h H.out⟩, Below.refl _ _⟩

/-- are two rails foul for two profiles -/
def railsB (L L2 : List S) (r r2 : Nat) (hx sx hy sy : Int) : Bool := (List.range (L.length - 1)).any fun i => (List.range (L2.length - 1)).any fun k => foulB (stripAt r L i) (stripAt r2 L2 k) hx sx hy sy
theorem any_range_s (f : Nat → Bool) (k : Nat) : (List.range (k + 1)).any f = ((List.range k).any f || f k) := by
  rw [List.range_succ, List.any_append]
  simp
theorem any_range_of {f : Nat → Bool} {n k : Nat} (hk : k < n) (h : f k = true) : (List.range n).any f = true := List.any_eq_true.2 ⟨k, List.mem_range.2 hk, h⟩
set_option maxRecDepth 100000 in
set_option maxHeartbeats 4000000 in
theorem rRails_any (A A2 : Option Addr) (c c2 : Nat) (p : Pl) (r r2 : Nat) (L L2 : List S) (hx sx hy sy : Int) (w : World) (hP : PlAt w w.heap.size A c A2 c2 p) (h : RlOk p r L) (h2 : RlOk p r2 L2) (hX : Pr hx sx) (hY : Pr hy sy) :
    Calls Tryz.prog 71 #[.agg #[.slice A p.nodes.length c, .slice A2 p.rails.length c2], .int .i64 (r : Int), .agg #[.int .i64 hx, .int .i64 sx], .int .i64 (r2 : Int), .agg #[.int .i64 hy, .int .i64 sy]] w fun e w' => e = .returned (.bool (railsB L L2 r r2 hx sx hy sy)) ∧ Below w.heap.size w w' := by
  have hle := h.le; have hle2 := h2.le
  obtain ⟨m, hm⟩ : ∃ m, L.length = m + 1 := ⟨L.length - 1, by omega⟩
  obtain ⟨m2, hm2⟩ : ∃ m, L2.length = m + 1 := ⟨L2.length - 1, by omega⟩
  have HM := Lib.hid (show 1 ≤ m ∧ m ≤ 41 ∧ 1 ≤ m2 ∧ m2 ≤ 41 from by omega)
  obtain ⟨F, hF⟩ : ∃ F : Nat → Nat → Bool, F = (fun i k => foulB (stripAt r L i) (stripAt r2 L2 k) hx sx hy sy) := ⟨_, rfl⟩
  have hres : railsB L L2 r r2 hx sx hy sy = (List.range m).any fun i => (List.range m2).any (F i) := by unfold railsB; rw [hm, hm2, hF]; rfl
  rw [hres]
  obtain ⟨res, hr⟩ : ∃ z, ((List.range m).any fun i => (List.range m2).any (F i)) = z := ⟨_, rfl⟩
  rw [hr]
  have HRES := Lib.hid hr
  have hb3 := (((Below.refl _ w).alloc (Nat.le_refl _) (.cells #[.slice A p.nodes.length c, .slice A2 p.rails.length c2] 25)).alloc (by simp) (.cells #[.int .i64 hx, .int .i64 sx] 46)).alloc (by simp; omega) (.cells #[.int .i64 hy, .int .i64 sy] 46)
  obtain ⟨q1, q2, q3⟩ := rows3 w #[.slice A p.nodes.length c, .slice A2 p.rails.length c2] #[.int .i64 hx, .int .i64 sx] #[.int .i64 hy, .int .i64 sy] 25 46 46
  have hz1' : (((w.alloc (.cells #[.slice A p.nodes.length c, .slice A2 p.rails.length c2] 25)).alloc (.cells #[.int .i64 hx, .int .i64 sx] 46)).alloc (.cells #[.int .i64 hy, .int .i64 sy] 46)).heap.size = w.heap.size + 3 := by simp
  obtain ⟨W1, hW1⟩ : ∃ z, (((w.alloc (.cells #[.slice A p.nodes.length c, .slice A2 p.rails.length c2] 25)).alloc (.cells #[.int .i64 hx, .int .i64 sx] 46)).alloc (.cells #[.int .i64 hy, .int .i64 sy] 46)) = z := ⟨_, rfl⟩
  rw [hW1] at hb3 q1 q2 q3 hz1'
  have HB1 := Lib.hid hb3
  have HR := Lib.hid (show ∀ wx, Below W1.heap.size W1 wx → Rw wx w.heap.size 25 #[.slice A p.nodes.length c, .slice A2 p.rails.length c2] ∧ Rw wx (w.heap.size + 1) 46 #[.int .i64 hx, .int .i64 sx] ∧ Rw wx (w.heap.size + 1 + 1) 46 #[.int .i64 hy, .int .i64 sy] from fun wx h => ⟨q1.below h (by omega), q2.below h (by omega), q3.below h (by omega)⟩)
  have HPB := Lib.hid (show ∀ wx, Below W1.heap.size W1 wx → PlAt wx wx.heap.size A c A2 c2 p from fun wx h => ((hP.below hb3).below (h.mono hb3.size)).more (Nat.le_trans hb3.size h.size))
  have HS1 := Lib.hid (show ∀ wx, Below W1.heap.size W1 wx → Calls Tryz.prog 20 #[.agg #[.slice A p.nodes.length c, .slice A2 p.rails.length c2], .int .i64 (r : Int)] wx fun e w' => e = .returned (.int .i64 (m : Int)) ∧ Below wx.heap.size wx w' from fun wx hx => rStrips_any A A2 c c2 p r m wx (HPB.out wx hx) h.hr (by have := h.len; omega) (by omega))
  have HS2 := Lib.hid (show ∀ wx, Below W1.heap.size W1 wx → Calls Tryz.prog 20 #[.agg #[.slice A p.nodes.length c, .slice A2 p.rails.length c2], .int .i64 (r2 : Int)] wx fun e w' => e = .returned (.int .i64 (m2 : Int)) ∧ Below wx.heap.size wx w' from fun wx hx => rStrips_any A A2 c c2 p r2 m2 wx (HPB.out wx hx) h2.hr (by have := h2.len; omega) (by omega))
  have HFU := Lib.hid (show ∀ i k, i < m → k < m2 → ∀ wx, Below W1.heap.size W1 wx → Calls Tryz.prog 30 #[.agg #[.slice A p.nodes.length c, .slice A2 p.rails.length c2], .agg #[.int .i64 (r : Int), .int .i64 (i : Int)], .agg #[.int .i64 hx, .int .i64 sx], .agg #[.int .i64 (r2 : Int), .int .i64 (k : Int)], .agg #[.int .i64 hy, .int .i64 sy]] wx fun e w' => e = .returned (.bool (F i k)) ∧ Below wx.heap.size wx w' from fun i k hi hk wx hw => by
    have o1 := stripAt_ok (r := r) h.hR h.hok (k := i) (by omega)
    have o2 := stripAt_ok (r := r2) h2.hR h2.hok (k := k) (by omega)
    have hh := rFoul_any A A2 c c2 p r i r2 k L L2 hx sx hy sy wx (HPB.out wx hw) h (by omega) h2 (by omega) hX hY
    rw [show foulQ (sAt L i) (sAt L (i + 1)) (sAt L2 k) (sAt L2 (k + 1)) (bendAt L i ++ bendAt L (i + 1)) (bendAt L2 k ++ bendAt L2 (k + 1)) hx sx hy sy = F i k from (foul_q o1 o2 hX hY).trans (by rw [hF])] at hh
    exact hh)
  clear hb3 q1 q2 q3 hP hz1' h h2 hm hm2 hX hY hF hres hr hle hle2
  go_enter Tryz.func71, Tryz.ntmps71
  go_wp2
  go_loopw [11] (fun s11 wr => ∃ i : Nat, i ≤ m ∧ s11 = .int .i64 (i : Int) ∧ ((List.range i).any fun i => (List.range m2).any (F i)) = false ∧ Below W1.heap.size W1 wr) (fun s11 _ => m - (intOf s11).toNat)
  case atStart => exact ⟨0, Nat.zero_le _, rfl, rfl, Below.refl _ _⟩
  case round =>
    obtain ⟨i, hi', rfl, hno, hb⟩ := hrel
    have HNO := Lib.hid hno; have HB := Lib.hid hb
    obtain ⟨r1, r2', r3⟩ := HR.out _ hb
    have e0 := r1.cell 0; have e1 := r1.cell 1
    have hi41 : i ≤ 41 := by have := HM.out; omega
    clear hno hb r1 r2' r3
    by_cases hin : i < m
    · have hii : (i : Int) < (m : Int) := by omega
      have HIN := Lib.hid hin
      go_wp2_with fail
      refine (HS1.out _ HB.out).mono ?_
      rintro e w2 ⟨rfl, hb2⟩
      have HB2 := Lib.hid (HB.out.trans (hb2.mono HB.out.size))
      clear hb2 e0 e1
      go_wp2
      go_loopw [12] (fun s12 wr => ∃ k : Nat, k ≤ m2 ∧ s12 = .int .i64 (k : Int) ∧ (List.range k).any (F i) = false ∧ Below W1.heap.size W1 wr) (fun s12 _ => m2 - (intOf s12).toNat)
      case atStart => exact ⟨0, Nat.zero_le _, rfl, rfl, HB2.out⟩
      case round =>
        obtain ⟨k, hk, rfl, hno2, hb⟩ := hrel
        have HNO2 := Lib.hid hno2; have HB4 := Lib.hid hb
        obtain ⟨r1, r2', r3⟩ := HR.out _ HB4.out
        have e0 := r1.cell 0; have e1 := r1.cell 1
        have hk41 : k ≤ 41 := by have := HM.out; omega
        clear hno2 hb r1 r2' r3
        by_cases hkm : k < m2
        · have hkk : (k : Int) < (m2 : Int) := by omega
          have HKM := Lib.hid hkm
          have HFK := Lib.hid (HFU.out i k HIN.out hkm)
          obtain ⟨f, hf⟩ : ∃ z, F i k = z := ⟨_, rfl⟩
          rw [hf] at HFK
          have HF := Lib.hid hf
          clear hf
          go_wp2_with fail
          refine (HS2.out _ HB4.out).mono ?_
          rintro e w5 ⟨rfl, hb5⟩
          have HB5 := Lib.hid (HB4.out.trans (hb5.mono HB4.out.size))
          obtain ⟨r1, r2', r3⟩ := HR.out _ HB5.out
          have e0 := r1.cell 0; have e1 := r1.cell 1; have e2 := r2'.cell 0; have e3 := r2'.cell 1; have e4 := r3.cell 0; have e5 := r3.cell 1
          clear hb5 r1 r2' r3
          go_wp2_with fail
          refine (HFK.out _ HB5.out).mono ?_
          rintro e w6 ⟨rfl, hb6⟩
          have HB6 := Lib.hid (HB5.out.trans (hb6.mono HB5.out.size))
          clear hb6
          cases f with
          | true =>
            have HT := Lib.hid (show res = true from by rw [← HRES.out]; exact any_range_of HIN.out (any_range_of HKM.out HF.out))
            go_wp2
            go_ret
            exact ⟨by rw [HT.out]; rfl, HB1.out.trans (HB6.out.mono HB1.out.size)⟩
          | false =>
            go_wp2
            go_roundw
            case rel => exact ⟨k + 1, by omega, vi (by omega), by rw [any_range_s, HNO2.out, HF.out]; rfl, HB6.out⟩
            case measure => simp [intOf] <;> omega
        · obtain rfl : k = m2 := by omega
          have hkk : ¬ (k : Int) < (k : Int) := by omega
          go_wp2_with fail
          refine (HS2.out _ HB4.out).mono ?_
          rintro e w5 ⟨rfl, hb5⟩
          have HB5 := Lib.hid (HB4.out.trans (hb5.mono HB4.out.size))
          clear hb5
          go_wp2
          go_roundw
          case rel => exact ⟨i + 1, by have := HIN.out; omega, vi (by omega), by rw [any_range_s, HNO.out, HNO2.out]; rfl, HB5.out⟩
          case measure => have := HIN.out; simp [intOf] <;> omega
    · obtain rfl : i = m := by omega
      have hii : ¬ (i : Int) < (i : Int) := by omega
      have HT := Lib.hid (show res = false from by rw [← HRES.out]; exact HNO.out)
      go_wp2_with fail
      refine (HS1.out _ HB.out).mono ?_
      rintro e w2 ⟨rfl, hb2⟩
      have HB2 := Lib.hid (HB.out.trans (hb2.mono HB.out.size))
      clear hb2 e0 e1
      go_wp2
      go_ret
      exact ⟨by rw [HT.out]; rfl, HB1.out.trans (HB2.out.mono HB1.out.size)⟩
theorem all_take_s {α : Type} {f : α → Bool} {l : List α} {i : Nat} {x : α} (h : l[i]? = some x) : (l.take (i + 1)).all f = ((l.take i).all f && f x) := by
  obtain ⟨hi, e⟩ := List.getElem?_eq_some_iff.1 h
  rw [List.take_succ_eq_append_getElem hi, List.all_append, e]
  simp
theorem all_no {α : Type} {f : α → Bool} {l : List α} {i : Nat} {x : α} (h : l[i]? = some x) (hf : f x = false) : l.all f = false := by
  cases ha : l.all f with
  | false => rfl
  | true =>
    rw [List.all_eq_true] at ha
    rw [ha x (List.mem_of_getElem? h)] at hf
    cases hf
set_option maxHeartbeats 2000000 in
theorem rProfiles_any (A : Option Addr) (c n : Nat) (l : List S) (w : World) (hn : l.length = n) (hn2 : n ≤ 1000000) (hS : Sl w w.heap.size 2 CS A l) :
    Calls Tryz.prog 32 #[.slice A n c] w fun e w' => e = .returned (.bool (l.all prB && inB n 1 6)) ∧ Below w.heap.size w w' := by
  have HN := Lib.hid hn
  have HSL := Lib.hid (show ∀ wx, Below w.heap.size w wx → ∀ i x, l[i]? = some x → ∃ b o, A = some ⟨b, o, none⟩ ∧ wx.cell? ⟨b, o + i * 2, none⟩ = some (.int .i64 x.x) ∧ wx.cell? ⟨b, o + i * 2 + 1, none⟩ = some (.int .i64 x.y) from fun wx hx i x hi => by
    obtain ⟨hl, e⟩ := List.getElem?_eq_some_iff.1 hi
    obtain ⟨b, o, rfl, hb, p0, p1⟩ := spot_at hS hl
    rw [e] at p0 p1
    exact ⟨b, o, rfl, (hx.cell (p := ⟨b, o + i * 2, none⟩) hb).trans p0, (hx.cell (p := ⟨b, o + i * 2 + 1, none⟩) hb).trans p1⟩)
  clear hS hn
  go_enter Tryz.func32, Tryz.ntmps32
  go_wp2
  go_loopw [3] (fun s3 wr => ∃ i : Nat, i ≤ n ∧ s3 = .int .i64 (i : Int) ∧ (l.take i).all prB = true ∧ Below w.heap.size w wr) (fun s3 _ => n - (intOf s3).toNat)
  case atStart => exact ⟨0, Nat.zero_le _, rfl, by simp, Below.refl _ _⟩
  case round =>
    obtain ⟨i, hi, rfl, hall, hb⟩ := hrel
    have HALL := Lib.hid hall; have HB := Lib.hid hb
    clear hall
    by_cases hin : i < n
    · obtain ⟨x, hx⟩ : ∃ z, l[i]? = some z := ⟨_, List.getElem?_eq_getElem (by have := HN.out; omega)⟩
      obtain ⟨b, o, rfl, p0, p1⟩ := HSL.out _ hb i x hx
      have HX := Lib.hid hx
      have i1 : (i : Int) < (n : Int) := by omega
      have i0 : (0 : Int) ≤ (i : Int) := by omega
      clear hb hx
      go_wp2_with fail
      refine (rProfile_any ⟨x.x, x.y⟩ _).mono ?_
      rintro e w2 ⟨rfl, hb2⟩
      have HB2 := Lib.hid (HB.out.trans (hb2.mono HB.out.size))
      clear hb2 p0 p1
      obtain ⟨q, hq⟩ : ∃ z, prB ⟨x.x, x.y⟩ = z := ⟨_, rfl⟩
      rw [hq]
      have HQ := Lib.hid (show prB x = q from hq)
      clear hq
      cases q with
      | false =>
        have HE := Lib.hid (show (l.all prB && inB n 1 6) = false from by rw [all_no HX.out HQ.out]; rfl)
        go_wp2
        go_ret
        exact ⟨by rw [HE.out]; rfl, HB2.out⟩
      | true =>
        go_wp2
        go_roundw
        case rel => exact ⟨i + 1, by omega, vi (by omega), by rw [all_take_s HX.out, HALL.out, HQ.out]; rfl, HB2.out⟩
        case measure => simp [intOf] <;> omega
    · obtain rfl : i = n := by omega
      have HE := Lib.hid (show (l.all prB && inB i 1 6) = inB i 1 6 from by
        have := HALL.out
        rw [List.take_of_length_le (by rw [HN.out]; omega)] at this
        rw [this]; rfl)
      clear hb
      go_wp2_with fail
      refine (rin_any _ _ _ _).mono ?_
      rintro e w2 ⟨rfl, rfl⟩
      go_wp2
      go_ret
      exact ⟨by rw [HE.out]; rfl, HB.out⟩
end Go.Proofs.YtekambdnmaompaaGreat.SW
