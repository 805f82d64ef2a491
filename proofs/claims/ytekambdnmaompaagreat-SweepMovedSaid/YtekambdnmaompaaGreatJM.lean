/- Texts L8 L10 L11. -/
import Derived.Test.YtekambdnmaompaaGreatJL
import Derived.Test.YtekambdnmaompaaGreatL5
import Derived.Test.YtekambdnmaompaaGreatL1
import Derived.Test.YtekambdnmaompaaGreatJ9
namespace Go.Proofs.YtekambdnmaompaaGreat.SW
set_option linter.unusedVariables false
set_option linter.unusedSimpArgs false
theorem least_near {nr : Swp → Swp → Int → Bool} (hm : MonoN nr) (a b : List SwM) (m : Nat) (r : Int) (h0 : 0 ≤ r) (h1 : r ≤ (m : Int)) :
    (r ≥ ((leastL nr a b (m + 1) : Nat) : Int)) ↔ ∃ x ∈ a, ∃ y ∈ b, nr x.s y.s r = true := by
  obtain ⟨k, rfl⟩ : ∃ k : Nat, r = (k : Int) := ⟨r.toNat, by omega⟩
  have h := leastL_iff hm a b (n := m + 1) (r := k)
  constructor
  · intro hr
    rcases h.1 (by omega) with h2 | ⟨_, h2⟩
    · omega
    · exact h2
  · intro hr
    have := h.2 (.inr ⟨by omega, hr⟩)
    omega
theorem foulB_near (x y : Swp) (hx sx hy sy : Int) : foulB x y hx sx hy sy = ((!farB x y (hx + hy) && sidesB x y (hx + hy)) || ((!farB x y (hx + sx + hy) && bendsB x y (hx + sx + hy)) || ((!farB x y (hx + hy + sy) && bendsB y x (hx + hy + sy)) || (!farB x y (hx + sx + hy + sy) && bothB x y (hx + sx + hy + sy))))) := by
  unfold foulB
  rfl
theorem drop_far {nr : Swp → Swp → Int → Bool} (hf : FarN nr) {x y : SwM} {r : Int} {w : World} (hX : SwIn w x) (hY : SwIn w y) (h0 : 0 ≤ r) : (!farB x.s y.s r && nr x.s y.s r) = nr x.s y.s r := by
  cases h : farB x.s y.s r with
  | false => rfl
  | true => rw [hf x y r w hX hY h0 h]; rfl
theorem met_foul (w : World) (a b : List SwM) (hXA : ∀ x ∈ a, SwIn w x) (hXB : ∀ x ∈ b, SwIn w x) (m0 m1 m2 m3 : Nat) {hx sx hy sy : Int} (hP : Pr hx sx) (hQ : Pr hy sy)
    (g0 : hx + hy ≤ (m0 : Int)) (g1 : hx + sx + hy ≤ (m1 : Int)) (g2 : hx + hy + sy ≤ (m2 : Int)) (g3 : hx + sx + hy + sy ≤ (m3 : Int)) :
    metB ((leastL sidesB a b (m0 + 1) : Nat) : Int) ((leastL bendsB a b (m1 + 1) : Nat) : Int) ((leastL bendsC a b (m2 + 1) : Nat) : Int) ((leastL bothB a b (m3 + 1) : Nat) : Int) hx sx hy sy = a.any fun x => b.any fun y => foulB x.s y.s hx sx hy sy := by
  obtain ⟨p1, p2, p3, p4⟩ := hP
  obtain ⟨q1, q2, q3, q4⟩ := hQ
  have n0 := least_near mono0 a b m0 (hx + hy) (by omega) g0
  have n1 := least_near mono1 a b m1 (hx + sx + hy) (by omega) g1
  have n2 := least_near mono2 a b m2 (hx + hy + sy) (by omega) g2
  have n3 := least_near mono3 a b m3 (hx + sx + hy + sy) (by omega) g3
  have hf : ∀ x ∈ a, ∀ y ∈ b, (foulB x.s y.s hx sx hy sy = true ↔ (sidesB x.s y.s (hx + hy) = true ∨ bendsB x.s y.s (hx + sx + hy) = true ∨ bendsC x.s y.s (hx + hy + sy) = true ∨ bothB x.s y.s (hx + sx + hy + sy) = true)) := by
    intro x hxa y hyb
    have hX := hXA x hxa; have hY := hXB y hyb
    rw [foulB_near, drop_far far0 hX hY (by omega), drop_far far1 hX hY (by omega), show (!farB x.s y.s (hx + hy + sy) && bendsB y.s x.s (hx + hy + sy)) = (!farB x.s y.s (hx + hy + sy) && bendsC x.s y.s (hx + hy + sy)) from rfl, drop_far far2 hX hY (by omega), drop_far far3 hX hY (by omega)]
    simp only [Bool.or_eq_true]
  rw [Bool.eq_iff_iff]
  unfold metB
  simp only [Bool.or_eq_true, decide_eq_true_eq, n0, n1, n2, n3, List.any_eq_true]
  constructor
  · rintro (⟨x, hx', y, hy', h⟩ | ⟨x, hx', y, hy', h⟩ | ⟨x, hx', y, hy', h⟩ | ⟨x, hx', y, hy', h⟩)
    · exact ⟨x, hx', y, hy', (hf x hx' y hy').2 (.inl h)⟩
    · exact ⟨x, hx', y, hy', (hf x hx' y hy').2 (.inr (.inl h))⟩
    · exact ⟨x, hx', y, hy', (hf x hx' y hy').2 (.inr (.inr (.inl h)))⟩
    · exact ⟨x, hx', y, hy', (hf x hx' y hy').2 (.inr (.inr (.inr h)))⟩
  · rintro ⟨x, hx', y, hy', h⟩
    rcases (hf x hx' y hy').1 h with h | h | h | h
    · exact .inl ⟨x, hx', y, hy', h⟩
    · exact .inr (.inl ⟨x, hx', y, hy', h⟩)
    · exact .inr (.inr (.inl ⟨x, hx', y, hy', h⟩))
    · exact .inr (.inr (.inr ⟨x, hx', y, hy', h⟩))
end Go.Proofs.YtekambdnmaompaaGreat.SW

namespace Go.Proofs.YtekambdnmaompaaGreat.SW
set_option linter.unusedVariables false
set_option linter.unusedSimpArgs false
open Go.RowKit
theorem any_rails {xs ys : List SwM} {L L2 : List S} {r r2 : Nat} (h1 : xs.map (·.s) = alongL r L) (h2 : ys.map (·.s) = alongL r2 L2) (hx sx hy sy : Int) :
    (xs.any fun x => ys.any fun y => foulB x.s y.s hx sx hy sy) = railsB L L2 r r2 hx sx hy sy := by
  have e2 : ∀ s : Swp, (ys.any fun y => foulB s y.s hx sx hy sy) = (alongL r2 L2).any fun t => foulB s t hx sx hy sy := fun s => by
    rw [← h2, List.any_map]; rfl
  have e1 : (xs.any fun x => ys.any fun y => foulB x.s y.s hx sx hy sy) = (alongL r L).any fun s => (alongL r2 L2).any fun t => foulB s t hx sx hy sy := by
    rw [← h1, List.any_map]
    congr 1
    funext x
    exact e2 x.s
  rw [e1]
  unfold railsB alongL
  rw [List.any_map]
  congr 1
  funext i
  show ((List.range (L2.length - 1)).map (stripAt r2 L2)).any (fun t => foulB (stripAt r L i) t hx sx hy sy) = _
  rw [List.any_map]
  rfl
/-- the needs of two rails, met by two profiles: the rails are foul -/
theorem met_rails (w : World) {xs ys : List SwM} {L L2 : List S} {r r2 : Nat} (h1 : xs.map (·.s) = alongL r L) (h2 : ys.map (·.s) = alongL r2 L2) (hXA : ∀ x ∈ xs, SwIn w x) (hXB : ∀ x ∈ ys, SwIn w x) (m0 m1 m2 m3 : Nat) {hx sx hy sy : Int} (hP : Pr hx sx) (hQ : Pr hy sy)
    (g0 : hx + hy ≤ (m0 : Int)) (g1 : hx + sx + hy ≤ (m1 : Int)) (g2 : hx + hy + sy ≤ (m2 : Int)) (g3 : hx + sx + hy + sy ≤ (m3 : Int)) :
    metB ((leastL sidesB xs ys (m0 + 1) : Nat) : Int) ((leastL bendsB xs ys (m1 + 1) : Nat) : Int) ((leastL bendsC xs ys (m2 + 1) : Nat) : Int) ((leastL bothB xs ys (m3 + 1) : Nat) : Int) hx sx hy sy = railsB L L2 r r2 hx sx hy sy := by
  rw [met_foul w xs ys hXA hXB m0 m1 m2 m3 hP hQ g0 g1 g2 g3, any_rails h1 h2]
/-- what a symmetry of the law does with a spot: kind 1 swaps, kind 2 mirrors; then it is moved -/
def movedS (s by_ : S) (kind : Int) : S := if kind = 1 then ⟨s.y + by_.x, s.x + by_.y⟩ else if kind = 2 then ⟨s.x + by_.x, -s.y + by_.y⟩ else ⟨s.x + by_.x, s.y + by_.y⟩
set_option maxRecDepth 100000 in
set_option maxHeartbeats 4000000 in
theorem moved_any (s b : S) (kind : Int) (w : World) (hs : inR s) (hb : inR b) :
    Calls Tryz.prog 45 #[.agg #[.int .i64 s.x, .int .i64 s.y], .agg #[.int .i64 b.x, .int .i64 b.y], .int .i64 kind] w fun e w' => e = .returned (.agg #[.int .i64 (movedS s b kind).x, .int .i64 (movedS s b kind).y]) ∧ Below w.heap.size w w' := by
  obtain ⟨s1, s2, s3, s4⟩ := id hs
  obtain ⟨b1, b2, b3, b4⟩ := id hb
  have hbe := (((Below.refl _ w).alloc (Nat.le_refl _) (.cells #[.int .i64 s.x, .int .i64 s.y] 82)).alloc (by simp) (.cells #[.int .i64 b.x, .int .i64 b.y] 82)).alloc (by simp; omega) (.cells #[.int .i64 0, .int .i64 0] 82)
  have q3 := ((Rw.new w #[.int .i64 s.x, .int .i64 s.y] 82).below ((Below.refl _ (w.alloc (.cells #[.int .i64 s.x, .int .i64 s.y] 82))).alloc (Nat.le_refl _) (.cells #[.int .i64 b.x, .int .i64 b.y] 82)) (by simp)).below ((Below.refl _ ((w.alloc (.cells #[.int .i64 s.x, .int .i64 s.y] 82)).alloc (.cells #[.int .i64 b.x, .int .i64 b.y] 82))).alloc (Nat.le_refl _) (.cells #[.int .i64 0, .int .i64 0] 82)) (by simp; omega)
  have q4 := (Rw.new (w.alloc (.cells #[.int .i64 s.x, .int .i64 s.y] 82)) #[.int .i64 b.x, .int .i64 b.y] 82).below ((Below.refl _ ((w.alloc (.cells #[.int .i64 s.x, .int .i64 s.y] 82)).alloc (.cells #[.int .i64 b.x, .int .i64 b.y] 82))).alloc (Nat.le_refl _) (.cells #[.int .i64 0, .int .i64 0] 82)) (by simp)
  have q6 := Rw.new ((w.alloc (.cells #[.int .i64 s.x, .int .i64 s.y] 82)).alloc (.cells #[.int .i64 b.x, .int .i64 b.y] 82)) #[.int .i64 0, .int .i64 0] 82
  simp only [World.size_alloc] at q4 q6
  obtain ⟨W1, hW1⟩ : ∃ z, (((w.alloc (.cells #[.int .i64 s.x, .int .i64 s.y] 82)).alloc (.cells #[.int .i64 b.x, .int .i64 b.y] 82)).alloc (.cells #[.int .i64 0, .int .i64 0] 82)) = z := ⟨_, rfl⟩
  rw [hW1] at hbe q3 q4 q6
  have HB := Lib.hid hbe
  have e0 := q3.cell 0; have e1 := q3.cell 1; have f0 := q4.cell 0; have f1 := q4.cell 1; have k0 := q6.cell 0; have k1 := q6.cell 1
  have e2 := q3.frozen 0; have e3 := q3.frozen 1; have k2 := q6.frozen 0; have k3 := q6.frozen 1
  simp only [List.getElem?_toArray, List.getElem?_cons_zero, List.getElem?_cons_succ] at e0 e1 f0 f1 k0 k1
  clear hbe q3 q4 q6
  by_cases h1 : kind = 1
  · subst h1
    have hm : movedS s b 1 = ⟨s.y + b.x, s.x + b.y⟩ := by unfold movedS; simp
    rw [hm]
    go_enter Tryz.func45, Tryz.ntmps45
    go_wp2
    exact bodyPost_ret (v := .agg #[.int .i64 (s.y + b.x), .int .i64 (s.x + b.y)]) (by simp [results, Tryz.results45, go_sem, k0, k1]) rfl ⟨rfl, (((HB.out.setCell (by simp) _).setCell (by simp) _).setCell (by simp <;> omega) _).setCell (by simp <;> omega) _⟩
  · by_cases h2 : kind = 2
    · subst h2
      have hm : movedS s b 2 = ⟨s.x + b.x, -s.y + b.y⟩ := by unfold movedS; simp
      rw [hm]
      go_enter Tryz.func45, Tryz.ntmps45
      go_wp2
      exact bodyPost_ret (v := .agg #[.int .i64 (s.x + b.x), .int .i64 (-s.y + b.y)]) (by simp [results, Tryz.results45, go_sem, k0, k1]) rfl ⟨rfl, ((HB.out.setCell (by simp) _).setCell (by simp <;> omega) _).setCell (by simp <;> omega) _⟩
    · have hm : movedS s b kind = ⟨s.x + b.x, s.y + b.y⟩ := by unfold movedS; rw [if_neg h1, if_neg h2]
      rw [hm]
      go_enter Tryz.func45, Tryz.ntmps45
      go_wp2
      exact bodyPost_ret (v := .agg #[.int .i64 (s.x + b.x), .int .i64 (s.y + b.y)]) (by simp [results, Tryz.results45, go_sem, k0, k1]) rfl ⟨rfl, (HB.out.setCell (by simp <;> omega) _).setCell (by simp <;> omega) _⟩
end Go.Proofs.YtekambdnmaompaaGreat.SW

namespace Go.Proofs.YtekambdnmaompaaGreat.SW
set_option linter.unusedVariables false
set_option linter.unusedSimpArgs false
open Go.RowKit
end Go.Proofs.YtekambdnmaompaaGreat.SW
