/- The list of fouls, plain. -/
import Derived.Test.YtekambdnmaompaaGreatL1
import Derived.Test.YtekambdnmaompaaGreatJ6
namespace Go.Proofs.YtekambdnmaompaaGreat.SW
set_option linter.unusedVariables false
set_option linter.unusedSimpArgs false
open Go.RowKit

def f4 (R : Nat → Nat → Nat → Nat → Bool) (a x b k : Nat) : List Fo4 := ((List.range k).filter fun y => (decide (a < b) || decide (x ≤ y)) && R a x b y).map fun y : Nat => (⟨(a : Int), (x : Int), (b : Int), (y : Int)⟩ : Fo4)
def f3 (R : Nat → Nat → Nat → Nat → Bool) (n a x k : Nat) : List Fo4 := (List.range k).flatMap fun j => f4 R a x (a + j) n
def f2 (R : Nat → Nat → Nat → Nat → Bool) (N n a k : Nat) : List Fo4 := (List.range k).flatMap fun x => f3 R n a x (N - a)
def f1 (R : Nat → Nat → Nat → Nat → Bool) (N n k : Nat) : List Fo4 := (List.range k).flatMap fun a => f2 R N n a n
theorem f4_succ (R : Nat → Nat → Nat → Nat → Bool) (a x b k : Nat) : f4 R a x b (k + 1) = f4 R a x b k ++ (if ((decide (a < b) || decide (x ≤ k)) && R a x b k) = true then [(⟨(a : Int), (x : Int), (b : Int), (k : Int)⟩ : Fo4)] else []) := by
  unfold f4
  rw [List.range_succ, List.filter_append, List.map_append]
  congr 1
  cases h : ((decide (a < b) || decide (x ≤ k)) && R a x b k) <;> simp [List.filter_cons, h]
theorem f3_succ (R : Nat → Nat → Nat → Nat → Bool) (n a x k : Nat) : f3 R n a x (k + 1) = f3 R n a x k ++ f4 R a x (a + k) n := by unfold f3; rw [List.range_succ, List.flatMap_append]; simp
theorem f2_succ (R : Nat → Nat → Nat → Nat → Bool) (N n a k : Nat) : f2 R N n a (k + 1) = f2 R N n a k ++ f3 R n a k (N - a) := by unfold f2; rw [List.range_succ, List.flatMap_append]; simp
theorem f1_succ (R : Nat → Nat → Nat → Nat → Bool) (N n k : Nat) : f1 R N n (k + 1) = f1 R N n k ++ f2 R N n k n := by unfold f1; rw [List.range_succ, List.flatMap_append]; simp
theorem f4_len (R : Nat → Nat → Nat → Nat → Bool) (a x b k : Nat) : (f4 R a x b k).length ≤ k := by
  unfold f4
  rw [List.length_map]
  have := List.length_filter_le (fun y => (decide (a < b) || decide (x ≤ y)) && R a x b y) (List.range k)
  rwa [List.length_range] at this
theorem f3_len (R : Nat → Nat → Nat → Nat → Bool) (n a x : Nat) : ∀ k, (f3 R n a x k).length ≤ k * n
  | 0 => by simp [f3]
  | k + 1 => by
    have h1 := f3_len R n a x k
    have h2 := f4_len R a x (a + k) n
    rw [f3_succ, List.length_append, Nat.succ_mul]
    omega
theorem f2_len (R : Nat → Nat → Nat → Nat → Bool) (N n a : Nat) : ∀ k, (f2 R N n a k).length ≤ k * (N * n)
  | 0 => by simp [f2]
  | k + 1 => by
    have h1 := f2_len R N n a k
    have h2 := f3_len R n a k (N - a)
    have h3 := Nat.mul_le_mul_right n (Nat.sub_le N a)
    rw [f2_succ, List.length_append, Nat.succ_mul]
    omega
theorem f1_len (R : Nat → Nat → Nat → Nat → Bool) (N n : Nat) : ∀ k, (f1 R N n k).length ≤ k * (n * (N * n))
  | 0 => by simp [f1]
  | k + 1 => by
    have h1 := f1_len R N n k
    have h2 := f2_len R N n k n
    rw [f1_succ, List.length_append, Nat.succ_mul]
    omega
theorem f_len {R : Nat → Nat → Nat → Nat → Bool} {N n a x j y : Nat} (hN : N ≤ 12) (hn : n ≤ 6) (ha : a ≤ N) (hx : x ≤ n) (hj : j ≤ N) (hy : y ≤ n) (b : Nat) : (((f1 R N n a ++ f2 R N n a x) ++ f3 R n a x j) ++ f4 R a x b y).length ≤ 6000 := by
  have h1 := f1_len R N n a
  have h2 := f2_len R N n a x
  have h3 := f3_len R n a x j
  have h4 := f4_len R a x b y
  have g0 := Nat.mul_le_mul hN hn
  have g1 := Nat.mul_le_mul hn g0
  have g2 := Nat.mul_le_mul (Nat.le_trans ha hN) g1
  have g3 := Nat.mul_le_mul (Nat.le_trans hx hn) g0
  have g4 := Nat.mul_le_mul (Nat.le_trans hj hN) hn
  simp only [List.length_append]
  omega
/-- are two rails foul for two profiles of a list -/
def rF (p : Pl) (l : List S) (a x b y : Nat) : Bool := match l[x]?, l[y]? with
  | some u, some v => railsB (lnR p (a : Int)) (lnR p (b : Int)) a b u.x u.y v.x v.y
  | _, _ => false
def foulsL (p : Pl) (l : List S) : List Fo4 := f1 (rF p l) p.rails.length l.length p.rails.length
end Go.Proofs.YtekambdnmaompaaGreat.SW
