/- Contracts: railRight. -/
import Derived.Test.YtekambdnmaompaaGreatC3
import Derived.Test.YtekambdnmaompaaGreatJB
namespace Go.Proofs.YtekambdnmaompaaGreat
set_option linter.unusedVariables false
set_option linter.unusedSimpArgs false
open Go.RowKit

def railN (n : Nat) (r : R) : Bool := decide (0 ≤ r.frm ∧ r.frm < (n : Int) ∧ 0 ≤ r.to ∧ r.to < (n : Int) ∧ r.shape.length ≤ 30 ∧ 1 ≤ r.limit ∧ r.limit ≤ 50000 ∧ -120 ≤ r.slope ∧ r.slope ≤ 120)
def railB (n : Nat) (r : R) : Bool := railN n r && r.shape.all spotB

set_option maxRecDepth 100000 in
set_option maxHeartbeats 4000000 in
theorem railRight_any (g : Nat) (A A2 : Option Addr) (c c2 : Nat) (p : Pl) (Lv Sv Nv Bv : Value) (r : R) (A' : Option Addr) (c' : Nat) (w : World) (hN : Net w g A c A2 c2 p Lv Sv Nv Bv)
    (hS : Sl w g 2 CS A' r.shape) (hc1 : r.shape.length ≤ c') (hc2 : c' ≤ 9223372036854775807) :
    Calls Tryz.prog 104 #[.pointer (some ⟨g, 0, none⟩), .agg #[.int .i64 r.frm, .int .i64 r.to, .slice A' r.shape.length c', .int .i64 r.limit, .int .i64 r.slope]] w fun e w' => e = .returned (.bool (railB p.nodes.length r)) ∧ Below w.heap.size w w' := by
  obtain ⟨c0, c1, _, _, _, _⟩ := hN.cell
  have hnc := hN.pl.nc; have hnm := hN.pl.nm
  have hgl := hN.lt
  obtain ⟨n, hn⟩ : ∃ n, p.nodes.length = n := ⟨_, rfl⟩
  rw [hn] at c0 hnc ⊢
  clear hN hn c1
  have HN := Lib.hid (fun h : railN n r = false => show railB n r = false by simp [railB, h])
  by_cases q1 : 0 ≤ r.frm
  · have d1 : decide (r.frm < 0) = false := by simp; omega
    by_cases q2 : r.frm < (n : Int)
    · have d2 : decide ((n : Int) ≤ r.frm) = false := by simp; omega
      by_cases q3 : 0 ≤ r.to
      · have d3 : decide (r.to < 0) = false := by simp; omega
        by_cases q4 : r.to < (n : Int)
        · have d4 : decide ((n : Int) ≤ r.to) = false := by simp; omega
          by_cases q5 : r.shape.length ≤ 30
          · have d5 : decide (30 < (r.shape.length : Int)) = false := by simp; omega
            by_cases q6 : 1 ≤ r.limit
            · have d6 : decide (r.limit < 1) = false := by simp; omega
              by_cases q7 : r.limit ≤ 50000
              · have d7 : decide (50000 < r.limit) = false := by simp; omega
                by_cases q8 : -120 ≤ r.slope
                · have d8 : decide (r.slope < -120) = false := by simp; omega
                  by_cases q9 : r.slope ≤ 120
                  · have d9 : decide (120 < r.slope) = false := by simp; omega
                    have HP := Lib.hid (show railN n r = true by simp [railN]; omega)
                    clear d1 d2 d3 d4
                    have d1 : decide (r.frm < 0) = false := by simp; omega
                    have d2 : decide ((n : Int) ≤ r.frm) = false := by simp; omega
                    have d3 : decide (r.to < 0) = false := by simp; omega
                    have d4 : decide ((n : Int) ≤ r.to) = false := by simp; omega
                    go_enter Tryz.func104, Tryz.ntmps104
                    go_wp2
                    go_quiet (fail)
                    go_wp2
                    go_loopw [62] (fun i wr => ∃ k : Nat, k ≤ r.shape.length ∧ i = .int .i64 (k : Int) ∧ (∀ j (hj : j < r.shape.length), j < k → spotB r.shape[j] = true) ∧ Below w.heap.size w wr) (fun i _ => r.shape.length - (intOf i).toNat)
                    case atStart => exact ⟨0, by omega, rfl, fun j _ h => absurd h (by omega), bDrewN ((Below.refl _ _).alloc (Nat.le_refl _) _) _⟩
                    case round =>
                      obtain ⟨k, hk, rfl, hall, hbw⟩ := hrel
                      have HA := Lib.hid hall; clear hall
                      by_cases hlt : k < r.shape.length
                      · obtain ⟨b, off, hA, hb, k0, k1⟩ := spot_at hS hlt
                        subst hA
                        have hsz := hbw.size
                        have d0 := (hbw.cell (p := ⟨b, off + k * 2, none⟩) (by simp; omega)).trans k0
                        have d1 := (hbw.cell (p := ⟨b, off + k * 2 + 1, none⟩) (by simp; omega)).trans k1
                        have hbb : b < wr.heap.size := by omega
                        clear k0 k1 c0
                        cases hs : spotB r.shape[k]
                        · have HB := Lib.hid (show railB n r = false by simp only [railB]; rw [all_no' hlt hs]; simp)
                          go_wp2_with (go_at_call 102; refine (spotRight_any r.shape[k] _).mono ?_; rintro e w2 ⟨rfl, hb2⟩)
                          go_ret
                          exact ⟨by rw [HB.out]; rfl, (hbw.alloc (by omega) _).trans (hb2.mono (by simp; omega))⟩
                        · have HB := Lib.hid hs
                          go_wp2_with (go_at_call 102; refine (spotRight_any r.shape[k] _).mono ?_; rintro e w2 ⟨rfl, hb2⟩)
                          go_roundw
                          case rel => exact ⟨k + 1, by omega, by go_num, fun j hj hjk => if h : j = k then by subst h; exact HB.out else HA.out j hj (by omega), (hbw.alloc (by omega) _).trans (hb2.mono (by simp; omega))⟩
                          case measure => simp [intOf]; omega
                      · obtain rfl : k = r.shape.length := by omega
                        have HB := Lib.hid (show railB n r = true by simp only [railB]; rw [HP.out, all_yes' fun j hj => HA.out j hj hj]; rfl)
                        go_wp2
                        go_ret
                        exact ⟨by rw [HB.out]; rfl, hbw⟩
                  · have e9 : decide (120 < r.slope) = true := by simp; omega
                    have HB := Lib.hid (HN.out (by simp [railN]; omega)); clear HN
                    go_enter Tryz.func104, Tryz.ntmps104
                    go_wp2
                    go_quiet (fail)
                    go_wp2
                    go_ret
                    exact ⟨by rw [HB.out]; rfl, bDrewN ((Below.refl _ _).alloc (Nat.le_refl _) _) _⟩
                · have e8 : decide (r.slope < -120) = true := by simp; omega
                  have HB := Lib.hid (HN.out (by simp [railN]; omega)); clear HN
                  go_enter Tryz.func104, Tryz.ntmps104
                  go_wp2
                  go_quiet (fail)
                  go_wp2
                  go_ret
                  exact ⟨by rw [HB.out]; rfl, bDrewN ((Below.refl _ _).alloc (Nat.le_refl _) _) _⟩
              · have e7 : decide (50000 < r.limit) = true := by simp; omega
                have HB := Lib.hid (HN.out (by simp [railN]; omega)); clear HN
                go_enter Tryz.func104, Tryz.ntmps104
                go_wp2
                go_quiet (fail)
                go_wp2
                go_ret
                exact ⟨by rw [HB.out]; rfl, bDrewN ((Below.refl _ _).alloc (Nat.le_refl _) _) _⟩
            · have e6 : decide (r.limit < 1) = true := by simp; omega
              have HB := Lib.hid (HN.out (by simp [railN]; omega)); clear HN
              go_enter Tryz.func104, Tryz.ntmps104
              go_wp2
              go_quiet (fail)
              go_wp2
              go_ret
              exact ⟨by rw [HB.out]; rfl, bDrewN ((Below.refl _ _).alloc (Nat.le_refl _) _) _⟩
          · have e5 : decide (30 < (r.shape.length : Int)) = true := by simp; omega
            have HB := Lib.hid (HN.out (by simp [railN]; omega)); clear HN
            go_enter Tryz.func104, Tryz.ntmps104
            go_wp2
            go_quiet (fail)
            go_wp2
            go_ret
            exact ⟨by rw [HB.out]; rfl, bDrewN ((Below.refl _ _).alloc (Nat.le_refl _) _) _⟩
        · have e4 : decide ((n : Int) ≤ r.to) = true := by simp; omega
          have HB := Lib.hid (HN.out (by simp [railN]; omega)); clear HN
          go_enter Tryz.func104, Tryz.ntmps104
          go_wp2
          go_quiet (fail)
          go_wp2
          go_ret
          exact ⟨by rw [HB.out]; rfl, bDrewN ((Below.refl _ _).alloc (Nat.le_refl _) _) _⟩
      · have e3 : decide (r.to < 0) = true := by simp; omega
        have HB := Lib.hid (HN.out (by simp [railN]; omega)); clear HN
        go_enter Tryz.func104, Tryz.ntmps104
        go_wp2
        go_quiet (fail)
        go_wp2
        go_ret
        exact ⟨by rw [HB.out]; rfl, bDrewN ((Below.refl _ _).alloc (Nat.le_refl _) _) _⟩
    · have e2 : decide ((n : Int) ≤ r.frm) = true := by simp; omega
      have HB := Lib.hid (HN.out (by simp [railN]; omega)); clear HN
      go_enter Tryz.func104, Tryz.ntmps104
      go_wp2
      go_quiet (fail)
      go_wp2
      go_ret
      exact ⟨by rw [HB.out]; rfl, bDrewN ((Below.refl _ _).alloc (Nat.le_refl _) _) _⟩
  · have e1 : decide (r.frm < 0) = true := by simp; omega
    have HB := Lib.hid (HN.out (by simp [railN]; omega)); clear HN
    go_enter Tryz.func104, Tryz.ntmps104
    go_wp2
    go_quiet (fail)
    go_wp2
    go_ret
    exact ⟨by rw [HB.out]; rfl, bDrewN ((Below.refl _ _).alloc (Nat.le_refl _) _) _⟩
end Go.Proofs.YtekambdnmaompaaGreat
