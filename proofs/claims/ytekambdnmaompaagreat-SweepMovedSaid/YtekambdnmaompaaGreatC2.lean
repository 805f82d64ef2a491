/- Contracts: what nodes have to be. -/
import Derived.Test.YtekambdnmaompaaGreatJC
import Derived.Deep.RegionHeld3
namespace Go.Proofs.YtekambdnmaompaaGreat
set_option linter.unusedVariables false
set_option linter.unusedSimpArgs false
open Go.RowKit
def normB (nd : N) : Bool := if nd.kind = 5 ∨ nd.kind = 6 then (decide (1 ≤ nd.normal) && decide (nd.normal ≤ 2)) else decide (nd.normal = 0)
def kindB (nd : N) : Bool := decide (endsZ nd.kind ≠ 0) && decide ((nd.ends.length : Int) = endsZ nd.kind) && normB nd
def nodeB (nd : N) : Bool := spotB nd.spot && kindB nd

set_option maxRecDepth 100000 in
set_option maxHeartbeats 4000000 in
theorem kindRight_any (nd : N) (A : Option Addr) (c : Nat) (w : World) (hc : nd.ends.length ≤ c) (hm : c ≤ 9223372036854775807) :
    Calls Tryz.prog 103 #[.agg #[.int .i64 nd.spot.x, .int .i64 nd.spot.y, .int .i64 nd.kind, .slice A nd.ends.length c, .int .i64 nd.normal]] w fun e w' => e = .returned (.bool (kindB nd)) ∧ Below w.heap.size w w' := by
  obtain ⟨⟨x, y⟩, k, ends, nm⟩ := nd
  obtain ⟨n, hn⟩ : ∃ n, ends.length = n := ⟨_, rfl⟩
  by_cases h1 : k < 1
  · have HK := Lib.hid (show kindB ⟨⟨x, y⟩, k, ends, nm⟩ = false by simp only [kindB]; rw [show endsZ k = 0 by unfold endsZ; repeat (rw [if_neg (by omega)])]; rfl)
    have hk1 : decide (k < 1) = true := by simp; omega
    go_enter Tryz.func103, Tryz.ntmps103
    go_wp2
    go_quiet (fail)
    go_wp2
    go_ret
    exact ⟨by rw [HK.out]; rfl, bDrewN ((Below.refl _ _).alloc (Nat.le_refl _) _) _⟩
  by_cases h6 : 6 < k
  · have HK := Lib.hid (show kindB ⟨⟨x, y⟩, k, ends, nm⟩ = false by simp only [kindB]; rw [show endsZ k = 0 by unfold endsZ; repeat (rw [if_neg (by omega)])]; rfl)
    have hk1 : decide (k < 1) = false := by simp; omega
    have hk6 : decide (6 < k) = true := by simp; omega
    go_enter Tryz.func103, Tryz.ntmps103
    go_wp2
    go_quiet (fail)
    go_wp2
    go_ret
    exact ⟨by rw [HK.out]; rfl, bDrewN ((Below.refl _ _).alloc (Nat.le_refl _) _) _⟩
  have hk1 : decide (k < 1) = false := by simp; omega
  have hk6 : decide (6 < k) = false := by simp; omega
  have hnn : ∀ w2 : World, Below (w.heap.size + 1) (w.alloc (.cells #[.int .i64 x, .int .i64 y, .int .i64 k, .slice A n c, .int .i64 nm] 87)).drew w2 →
      w2.cell? ⟨w.heap.size, 2, none⟩ = some (.int .i64 k) ∧ w2.cell? ⟨w.heap.size, 3, none⟩ = some (.slice A n c) ∧ w2.cell? ⟨w.heap.size, 4, none⟩ = some (.int .i64 nm) ∧ Below w.heap.size w w2 := fun w2 hb =>
    ⟨(hb.cell (p := ⟨w.heap.size, 2, none⟩) (by simp)).trans (by go_keep), (hb.cell (p := ⟨w.heap.size, 3, none⟩) (by simp)).trans (by go_keep), (hb.cell (p := ⟨w.heap.size, 4, none⟩) (by simp)).trans (by go_keep),
      (((Below.refl _ _).alloc (Nat.le_refl _) _).drew).trans (hb.mono (by omega))⟩
  have HN := Lib.hid hnn; clear hnn
  by_cases hl : (n : Int) = endsZ k
  · have hl' : (!((n : Int) == endsZ k)) = false := by simp [hl]
    have hl2 : ((n : Int) != endsZ k) = false := by simp [hl]
    have HK := Lib.hid (show kindB ⟨⟨x, y⟩, k, ends, nm⟩ = normB ⟨⟨x, y⟩, k, ends, nm⟩ by
      simp only [kindB, hn, hl]
      rw [show decide (endsZ k ≠ 0) = true by
        rcases (show k = 1 ∨ k = 2 ∨ k = 3 ∨ k = 4 ∨ k = 5 ∨ k = 6 by omega) with h | h | h | h | h | h <;> subst h <;> rfl]
      simp)
    simp only [hn] at *
    have HL := Lib.hid hl; clear hl
    by_cases hk : k = 5 ∨ k = 6
    · rcases hk with hk | hk
      · subst hk
        by_cases n1 : nm = 1
        · subst n1
          have HM := Lib.hid (show kindB ⟨⟨x, y⟩, 5, ends, 1⟩ = true by rw [HK.out]; rfl)
          go_enter Tryz.func103, Tryz.ntmps103
          go_wp2_with fail
          go_region_held3 (fun w' => w'.cell? ⟨w.heap.size, 2, none⟩ = some (.int .i64 5) ∧ w'.cell? ⟨w.heap.size, 3, none⟩ = some (.slice A n c))
            (first | go_keep | exact ⟨(hbf.cell (p := ⟨w.heap.size, 2, none⟩) (by simp)).trans (by first | assumption | go_keep), (hbf.cell (p := ⟨w.heap.size, 3, none⟩) (by simp)).trans (by first | assumption | go_keep)⟩)
            ((go_at_call 129; refine (endsOf_any _ _ (by omega) (by omega)).mono ?_; rintro e w2 ⟨rfl, hbf⟩))
          obtain ⟨e2, e3, e4, hb⟩ := HN.out _ (hbf.mono (by simp))
          go_wp2
          go_ret
          exact ⟨by rw [HM.out]; rfl, hb⟩
        · have n1' : (nm == 1) = false := by simp [n1]
          by_cases n2 : nm = 2
          · subst n2
            have HM := Lib.hid (show kindB ⟨⟨x, y⟩, 5, ends, 2⟩ = true by rw [HK.out]; rfl)
            go_enter Tryz.func103, Tryz.ntmps103
            go_wp2_with fail
            go_region_held3 (fun w' => w'.cell? ⟨w.heap.size, 2, none⟩ = some (.int .i64 5) ∧ w'.cell? ⟨w.heap.size, 3, none⟩ = some (.slice A n c))
              (first | go_keep | exact ⟨(hbf.cell (p := ⟨w.heap.size, 2, none⟩) (by simp)).trans (by first | assumption | go_keep), (hbf.cell (p := ⟨w.heap.size, 3, none⟩) (by simp)).trans (by first | assumption | go_keep)⟩)
              ((go_at_call 129; refine (endsOf_any _ _ (by omega) (by omega)).mono ?_; rintro e w2 ⟨rfl, hbf⟩))
            obtain ⟨e2, e3, e4, hb⟩ := HN.out _ (hbf.mono (by simp))
            go_wp2
            go_ret
            exact ⟨by rw [HM.out]; rfl, hb⟩
          · have n2' : (nm == 2) = false := by simp [n2]
            have HM := Lib.hid (show kindB ⟨⟨x, y⟩, 5, ends, nm⟩ = false by rw [HK.out]; simp [normB]; omega)
            clear n1 n2
            go_enter Tryz.func103, Tryz.ntmps103
            go_wp2_with fail
            go_region_held3 (fun w' => w'.cell? ⟨w.heap.size, 2, none⟩ = some (.int .i64 5) ∧ w'.cell? ⟨w.heap.size, 3, none⟩ = some (.slice A n c))
              (first | go_keep | exact ⟨(hbf.cell (p := ⟨w.heap.size, 2, none⟩) (by simp)).trans (by first | assumption | go_keep), (hbf.cell (p := ⟨w.heap.size, 3, none⟩) (by simp)).trans (by first | assumption | go_keep)⟩)
              ((go_at_call 129; refine (endsOf_any _ _ (by omega) (by omega)).mono ?_; rintro e w2 ⟨rfl, hbf⟩))
            obtain ⟨e2, e3, e4, hb⟩ := HN.out _ (hbf.mono (by simp))
            go_wp2
            go_ret
            exact ⟨by rw [HM.out]; rfl, hb⟩
      · subst hk
        by_cases n1 : nm = 1
        · subst n1
          have HM := Lib.hid (show kindB ⟨⟨x, y⟩, 6, ends, 1⟩ = true by rw [HK.out]; rfl)
          go_enter Tryz.func103, Tryz.ntmps103
          go_wp2_with fail
          go_region_held3 (fun w' => w'.cell? ⟨w.heap.size, 2, none⟩ = some (.int .i64 6) ∧ w'.cell? ⟨w.heap.size, 3, none⟩ = some (.slice A n c))
            (first | go_keep | exact ⟨(hbf.cell (p := ⟨w.heap.size, 2, none⟩) (by simp)).trans (by first | assumption | go_keep), (hbf.cell (p := ⟨w.heap.size, 3, none⟩) (by simp)).trans (by first | assumption | go_keep)⟩)
            ((go_at_call 129; refine (endsOf_any _ _ (by omega) (by omega)).mono ?_; rintro e w2 ⟨rfl, hbf⟩))
          obtain ⟨e2, e3, e4, hb⟩ := HN.out _ (hbf.mono (by simp))
          go_wp2
          go_ret
          exact ⟨by rw [HM.out]; rfl, hb⟩
        · have n1' : (nm == 1) = false := by simp [n1]
          by_cases n2 : nm = 2
          · subst n2
            have HM := Lib.hid (show kindB ⟨⟨x, y⟩, 6, ends, 2⟩ = true by rw [HK.out]; rfl)
            go_enter Tryz.func103, Tryz.ntmps103
            go_wp2_with fail
            go_region_held3 (fun w' => w'.cell? ⟨w.heap.size, 2, none⟩ = some (.int .i64 6) ∧ w'.cell? ⟨w.heap.size, 3, none⟩ = some (.slice A n c))
              (first | go_keep | exact ⟨(hbf.cell (p := ⟨w.heap.size, 2, none⟩) (by simp)).trans (by first | assumption | go_keep), (hbf.cell (p := ⟨w.heap.size, 3, none⟩) (by simp)).trans (by first | assumption | go_keep)⟩)
              ((go_at_call 129; refine (endsOf_any _ _ (by omega) (by omega)).mono ?_; rintro e w2 ⟨rfl, hbf⟩))
            obtain ⟨e2, e3, e4, hb⟩ := HN.out _ (hbf.mono (by simp))
            go_wp2
            go_ret
            exact ⟨by rw [HM.out]; rfl, hb⟩
          · have n2' : (nm == 2) = false := by simp [n2]
            have HM := Lib.hid (show kindB ⟨⟨x, y⟩, 6, ends, nm⟩ = false by rw [HK.out]; simp [normB]; omega)
            clear n1 n2
            go_enter Tryz.func103, Tryz.ntmps103
            go_wp2_with fail
            go_region_held3 (fun w' => w'.cell? ⟨w.heap.size, 2, none⟩ = some (.int .i64 6) ∧ w'.cell? ⟨w.heap.size, 3, none⟩ = some (.slice A n c))
              (first | go_keep | exact ⟨(hbf.cell (p := ⟨w.heap.size, 2, none⟩) (by simp)).trans (by first | assumption | go_keep), (hbf.cell (p := ⟨w.heap.size, 3, none⟩) (by simp)).trans (by first | assumption | go_keep)⟩)
              ((go_at_call 129; refine (endsOf_any _ _ (by omega) (by omega)).mono ?_; rintro e w2 ⟨rfl, hbf⟩))
            obtain ⟨e2, e3, e4, hb⟩ := HN.out _ (hbf.mono (by simp))
            go_wp2
            go_ret
            exact ⟨by rw [HM.out]; rfl, hb⟩
    · have hk5 : (k == 5) = false := by simp; omega
      have hk6' : (k == 6) = false := by simp; omega
      by_cases n0 : nm = 0
      · have HM := Lib.hid (show kindB ⟨⟨x, y⟩, k, ends, nm⟩ = true by rw [HK.out]; simp only [normB]; rw [if_neg hk]; simp [n0])
        have n0' : (nm == 0) = true := by simp [n0]
        clear hk n0
        go_enter Tryz.func103, Tryz.ntmps103
        go_wp2_with fail
        go_region_held3 (fun w' => w'.cell? ⟨w.heap.size, 2, none⟩ = some (.int .i64 k) ∧ w'.cell? ⟨w.heap.size, 3, none⟩ = some (.slice A n c))
          (first | go_keep | exact ⟨(hbf.cell (p := ⟨w.heap.size, 2, none⟩) (by simp)).trans (by first | assumption | go_keep), (hbf.cell (p := ⟨w.heap.size, 3, none⟩) (by simp)).trans (by first | assumption | go_keep)⟩)
          ((go_at_call 129; refine (endsOf_any _ _ (by omega) (by omega)).mono ?_; rintro e w2 ⟨rfl, hbf⟩))
        obtain ⟨e2, e3, e4, hb⟩ := HN.out _ (hbf.mono (by simp))
        go_wp2
        go_ret
        exact ⟨by rw [HM.out]; rfl, hb⟩
      · have HM := Lib.hid (show kindB ⟨⟨x, y⟩, k, ends, nm⟩ = false by rw [HK.out]; simp only [normB]; rw [if_neg hk]; simp [n0])
        have n0' : (nm == 0) = false := by simp [n0]
        clear hk n0
        go_enter Tryz.func103, Tryz.ntmps103
        go_wp2_with fail
        go_region_held3 (fun w' => w'.cell? ⟨w.heap.size, 2, none⟩ = some (.int .i64 k) ∧ w'.cell? ⟨w.heap.size, 3, none⟩ = some (.slice A n c))
          (first | go_keep | exact ⟨(hbf.cell (p := ⟨w.heap.size, 2, none⟩) (by simp)).trans (by first | assumption | go_keep), (hbf.cell (p := ⟨w.heap.size, 3, none⟩) (by simp)).trans (by first | assumption | go_keep)⟩)
          ((go_at_call 129; refine (endsOf_any _ _ (by omega) (by omega)).mono ?_; rintro e w2 ⟨rfl, hbf⟩))
        obtain ⟨e2, e3, e4, hb⟩ := HN.out _ (hbf.mono (by simp))
        go_wp2
        go_ret
        exact ⟨by rw [HM.out]; rfl, hb⟩
  · have hl' : (!((n : Int) == endsZ k)) = true := by simp [hl]
    have HK := Lib.hid (show kindB ⟨⟨x, y⟩, k, ends, nm⟩ = false by simp only [kindB, hn]; simp [hl])
    simp only [hn] at *
    go_enter Tryz.func103, Tryz.ntmps103
    go_wp2_with fail
    go_region_held3 (fun w' => w'.cell? ⟨w.heap.size, 2, none⟩ = some (.int .i64 k) ∧ w'.cell? ⟨w.heap.size, 3, none⟩ = some (.slice A n c))
      (first | go_keep | exact ⟨(hbf.cell (p := ⟨w.heap.size, 2, none⟩) (by simp)).trans (by first | assumption | go_keep), (hbf.cell (p := ⟨w.heap.size, 3, none⟩) (by simp)).trans (by first | assumption | go_keep)⟩)
      ((go_at_call 129; refine (endsOf_any _ _ (by omega) (by omega)).mono ?_; rintro e w2 ⟨rfl, hbf⟩))
    obtain ⟨e2, e3, e4, hb⟩ := HN.out _ (hbf.mono (by simp))
    go_wp2
    go_ret
    exact ⟨by rw [HK.out]; rfl, hb⟩
end Go.Proofs.YtekambdnmaompaaGreat
