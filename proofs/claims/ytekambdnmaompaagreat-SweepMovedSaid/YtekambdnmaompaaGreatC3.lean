/- Contracts: sizesRight, nodesRight. -/
import Derived.Test.YtekambdnmaompaaGreatC2
namespace Go.Proofs.YtekambdnmaompaaGreat
set_option linter.unusedVariables false
set_option linter.unusedSimpArgs false
open Go.RowKit

/-- The network in block g, the plan below it. -/
structure Net (w : World) (g : Nat) (A : Option Addr) (c : Nat) (A2 : Option Addr) (c2 : Nat) (p : Pl) (Lv Sv Nv Bv : Value) : Prop where
  blk : w.heap[g]? = some (.cells #[.slice A p.nodes.length c, .slice A2 p.rails.length c2, Lv, Sv, Nv, Bv] 118 (0, 0))
  pl : PlAt w g A c A2 c2 p
section
variable {w w' : World} {g : Nat} {A A2 : Option Addr} {c c2 : Nat} {p : Pl} {Lv Sv Nv Bv : Value}
theorem Net.lt (h : Net w g A c A2 c2 p Lv Sv Nv Bv) : g < w.heap.size := (Array.getElem?_eq_some_iff.1 h.blk).1
theorem Net.cell (h : Net w g A c A2 c2 p Lv Sv Nv Bv) :
    w.cell? ⟨g, 0, none⟩ = some (.slice A p.nodes.length c) ∧ w.cell? ⟨g, 1, none⟩ = some (.slice A2 p.rails.length c2) ∧ w.cell? ⟨g, 2, none⟩ = some Lv ∧ w.cell? ⟨g, 3, none⟩ = some Sv ∧ w.cell? ⟨g, 4, none⟩ = some Nv ∧ w.cell? ⟨g, 5, none⟩ = some Bv := by
  refine ⟨?_, ?_, ?_, ?_, ?_, ?_⟩ <;> (rw [cell_of_row _ g _ _ 118 (0, 0) h.blk]; rfl)
theorem Net.frozen (h : Net w g A c A2 c2 p Lv Sv Nv Bv) (j : Nat) : w.frozen? ⟨g, j, none⟩ = false := by
  simp [World.frozen?, h.blk]
theorem Net.below {B : Nat} (h : Net w g A c A2 c2 p Lv Sv Nv Bv) (hb : Below B w w') (hg : g < B) : Net w' g A c A2 c2 p Lv Sv Nv Bv :=
  ⟨(hb.block g hg).trans h.blk, h.pl.below (hb.mono (by omega))⟩
end

def sizesB (p : Pl) : Bool := decide (1 ≤ p.nodes.length ∧ p.nodes.length ≤ 300 ∧ 1 ≤ p.rails.length ∧ p.rails.length ≤ 400)
theorem ret_bool' {a b : Bool} (h : a = b) : Ending.returned (.bool a) = .returned (.bool b) := by rw [h]
set_option maxHeartbeats 1000000 in
theorem sizesRight_any (g : Nat) (A A2 : Option Addr) (c c2 : Nat) (p : Pl) (Lv Sv Nv Bv : Value) (w : World) (hN : Net w g A c A2 c2 p Lv Sv Nv Bv) :
    Calls Tryz.prog 81 #[.pointer (some ⟨g, 0, none⟩)] w fun e w' => e = .returned (.bool (sizesB p)) ∧ Below w.heap.size w w' := by
  obtain ⟨c0, c1, _, _, _, _⟩ := hN.cell
  have hnc := hN.pl.nc; have hnm := hN.pl.nm; have hrc := hN.pl.rc; have hrm := hN.pl.rm
  obtain ⟨n, hn⟩ : ∃ n, p.nodes.length = n := ⟨_, rfl⟩
  obtain ⟨m, hm⟩ : ∃ m, p.rails.length = m := ⟨_, rfl⟩
  have HS := Lib.hid (show sizesB p = decide (1 ≤ n ∧ n ≤ 300 ∧ 1 ≤ m ∧ m ≤ 400) by simp only [sizesB, hn, hm])
  rw [hn] at c0 hnc
  rw [hm] at c1 hrc
  clear hN hn hm
  by_cases h1 : 1 ≤ n
  · by_cases h2 : n ≤ 300
    · by_cases h3 : 1 ≤ m
      · by_cases h4 : m ≤ 400
        · have HT := Lib.hid (show sizesB p = true by rw [HS.out]; simp; omega)
          go_enter Tryz.func81, Tryz.ntmps81
          go_wp2
          go_quiet (fail)
          go_wp2
          go_ret
          exact ⟨by rw [HT.out]; first | rfl | exact ret_bool' (by simp; omega), bDrewN (Below.refl _ _) _⟩
        · have HT := Lib.hid (show sizesB p = false by rw [HS.out]; simp; omega)
          go_enter Tryz.func81, Tryz.ntmps81
          go_wp2
          go_quiet (fail)
          go_wp2
          go_ret
          exact ⟨by rw [HT.out]; first | rfl | exact ret_bool' (by simp; omega), bDrewN (Below.refl _ _) _⟩
      · have HT := Lib.hid (show sizesB p = false by rw [HS.out]; simp; omega)
        go_enter Tryz.func81, Tryz.ntmps81
        go_wp2
        go_quiet (fail)
        go_wp2
        go_ret
        exact ⟨by rw [HT.out]; first | rfl | exact ret_bool' (by simp; omega), bDrewN (Below.refl _ _) _⟩
    · have HT := Lib.hid (show sizesB p = false by rw [HS.out]; simp; omega)
      go_enter Tryz.func81, Tryz.ntmps81
      go_wp2
      go_quiet (fail)
      go_wp2
      go_ret
      exact ⟨by rw [HT.out]; first | rfl | exact ret_bool' (by simp; omega), bDrewN (Below.refl _ _) _⟩
  · have HT := Lib.hid (show sizesB p = false by rw [HS.out]; simp; omega)
    go_enter Tryz.func81, Tryz.ntmps81
    go_wp2
    go_quiet (fail)
    go_wp2
    go_ret
    exact ⟨by rw [HT.out]; first | rfl | exact ret_bool' (by simp; omega), bDrewN (Below.refl _ _) _⟩

theorem all_no' {α : Type} {l : List α} {f : α → Bool} {k : Nat} (hk : k < l.length) (h : f l[k] = false) : l.all f = false := by
  rw [Bool.eq_false_iff]; intro ha
  rw [List.all_eq_true] at ha
  have := ha l[k] (List.getElem_mem hk)
  simp [h] at this
theorem all_yes' {α : Type} {l : List α} {f : α → Bool} (h : ∀ k (hk : k < l.length), f l[k] = true) : l.all f = true := by
  rw [List.all_eq_true]; intro x hx
  obtain ⟨k, hk, rfl⟩ := List.getElem_of_mem hx
  exact h k hk

set_option maxRecDepth 100000 in
set_option maxHeartbeats 2000000 in
theorem nodesRight_any (g : Nat) (A A2 : Option Addr) (c c2 : Nat) (p : Pl) (Lv Sv Nv Bv : Value) (w : World) (hN : Net w g A c A2 c2 p Lv Sv Nv Bv) :
    Calls Tryz.prog 82 #[.pointer (some ⟨g, 0, none⟩)] w fun e w' => e = .returned (.bool (p.nodes.all nodeB)) ∧ Below w.heap.size w w' := by
  obtain ⟨c0, c1, _, _, _, _⟩ := hN.cell
  have hnc := hN.pl.nc; have hnm := hN.pl.nm
  have hP := hN.pl
  have hgl := hN.lt
  go_enter Tryz.func82, Tryz.ntmps82
  go_wp2
  go_loopw [11] (fun i wr => ∃ k : Nat, k ≤ p.nodes.length ∧ i = .int .i64 (k : Int) ∧ (∀ j (hj : j < p.nodes.length), j < k → nodeB p.nodes[j] = true) ∧ Below w.heap.size w wr) (fun i _ => p.nodes.length - (intOf i).toNat)
  case atStart => exact ⟨0, by omega, rfl, fun j _ h => absurd h (by omega), Below.refl _ _⟩
  case round =>
    obtain ⟨k, hk, rfl, hall, hbw⟩ := hrel
    have HA := Lib.hid hall; clear hall
    by_cases hlt : k < p.nodes.length
    · obtain ⟨b, off, A', c', hA, hb, hE, hc1, hc2, k0, k1, k2, k3, k4⟩ := hP.node hlt
      subst hA
      have hsz := hbw.size
      have d0 := (hbw.cell (p := ⟨b, off + k * 5, none⟩) (by simp; omega)).trans k0
      have d1 := (hbw.cell (p := ⟨b, off + k * 5 + 1, none⟩) (by simp; omega)).trans k1
      have d2 := (hbw.cell (p := ⟨b, off + k * 5 + 2, none⟩) (by simp; omega)).trans k2
      have d3 := (hbw.cell (p := ⟨b, off + k * 5 + 3, none⟩) (by simp; omega)).trans k3
      have d4 := (hbw.cell (p := ⟨b, off + k * 5 + 4, none⟩) (by simp; omega)).trans k4
      have hbb : b < wr.heap.size := by omega
      clear k0 k1 k2 k3 k4 hN hP c0 c1 hE
      cases hs : spotB p.nodes[k].spot
      · have HB := Lib.hid (show p.nodes.all nodeB = false from all_no' hlt (by simp [nodeB, hs]))
        go_wp2_with (go_at_call 102; refine (spotRight_any p.nodes[k].spot _).mono ?_; rintro e w2 ⟨rfl, hb2⟩)
        go_ret
        exact ⟨by rw [HB.out]; rfl, (hbw.alloc (by omega) _).trans (hb2.mono (by simp; omega))⟩
      · cases hk : kindB p.nodes[k]
        · have HB := Lib.hid (show p.nodes.all nodeB = false from all_no' hlt (by simp [nodeB, hk]))
          go_wp2_with (first
            | (go_at_call 102; refine (spotRight_any p.nodes[k].spot _).mono ?_; rintro e w2 ⟨rfl, hb2⟩; obtain ⟨hc2', hf2'⟩ := bcell hb2; have hz2 := hb2.size; simp at hz2)
            | (go_at_call 103; refine (kindRight_any p.nodes[k] A' c' _ hc1 hc2).mono ?_; rintro e w3 ⟨rfl, hb3⟩))
          go_ret
          exact ⟨by rw [HB.out]; rfl, ((hbw.alloc (by omega) _).trans (hb2.mono (by simp; omega))).trans (hb3.mono (by omega))⟩
        · have HB := Lib.hid (show nodeB p.nodes[k] = true by simp [nodeB, hs, hk])
          go_wp2_with (first
            | (go_at_call 102; refine (spotRight_any p.nodes[k].spot _).mono ?_; rintro e w2 ⟨rfl, hb2⟩; obtain ⟨hc2', hf2'⟩ := bcell hb2; have hz2 := hb2.size; simp at hz2)
            | (go_at_call 103; refine (kindRight_any p.nodes[k] A' c' _ hc1 hc2).mono ?_; rintro e w3 ⟨rfl, hb3⟩))
          go_roundw
          case rel => exact ⟨k + 1, by omega, by go_num, fun j hj hjk => if h : j = k then by subst h; exact HB.out else HA.out j hj (by omega), ((hbw.alloc (by omega) _).trans (hb2.mono (by simp; omega))).trans (hb3.mono (by omega))⟩
          case measure => simp [intOf]; omega
    · obtain rfl : k = p.nodes.length := by omega
      have HB := Lib.hid (show p.nodes.all nodeB = true from all_yes' fun j hj => HA.out j hj hj)
      go_wp2
      go_ret
      exact ⟨by rw [HB.out]; rfl, hbw⟩
end Go.Proofs.YtekambdnmaompaaGreat
