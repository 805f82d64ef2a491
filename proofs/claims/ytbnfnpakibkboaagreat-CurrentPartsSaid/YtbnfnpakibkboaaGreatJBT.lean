/- Plain: bits of small numbers. -/
import Derived.Test.YtbnfnpakibkboaaGreatKC
namespace Go.Proofs.YtbnfnpakibkboaaGreat
set_option linter.unusedVariables false
set_option linter.unusedSimpArgs false

def bitsL (m S : Nat) : List Nat := (List.range m).filter (fun i => S.testBit i)
theorem bitsL_succ (m S : Nat) : bitsL (m + 1) S = bitsL m S ++ (if S.testBit m then [m] else []) := by
  unfold bitsL
  rw [List.range_succ, List.filter_append]
  congr 1
  simp only [List.filter_cons, List.filter_nil]
theorem bitsL_nodup (m S : Nat) : (bitsL m S).Nodup := List.Nodup.sublist List.filter_sublist List.nodup_range
theorem mem_bitsL {m S i : Nat} : i ∈ bitsL m S ↔ i < m ∧ S.testBit i = true := by unfold bitsL; rw [List.mem_filter, List.mem_range]
set_option maxRecDepth 100000 in
set_option maxHeartbeats 4000000 in
theorem popc_bits : ∀ S : Nat, S < 2048 → popc 11 S = (bitsL 11 S).length := by decide +kernel
set_option maxRecDepth 100000 in
set_option maxHeartbeats 4000000 in
theorem sub_bits : ∀ i : Nat, i < 11 → ∀ S : Nat, S < 2048 → S.testBit i = true → S - 2 ^ i = S ^^^ 2 ^ i := by decide +kernel
set_option maxRecDepth 100000 in
set_option maxHeartbeats 4000000 in
theorem andNot_bits : ∀ i : Nat, i < 11 → ∀ S : Nat, S < 2048 → S.testBit i = true → bits BinOp.andNot .i64 (S : Int) ((2 ^ i : Nat) : Int) = ((S - 2 ^ i : Nat) : Int) := by decide +kernel
set_option maxRecDepth 100000 in
set_option maxHeartbeats 4000000 in
theorem shr_bits : ∀ i : Nat, i < 11 → ∀ S : Nat, S < 2048 → bits BinOp.and .i64 ((S : Int) / ((2 ^ i : Nat) : Int)) 1 = (if S.testBit i = true then 1 else 0) := by decide +kernel
theorem erase_bits (i : Nat) (hi : i < 11) (S : Nat) (hS : S < 2048) (hb : S.testBit i = true) : bitsL 11 (S - 2 ^ i) = (bitsL 11 S).erase i := by
  rw [sub_bits i hi S hS hb, List.Nodup.erase_eq_filter (bitsL_nodup 11 S)]
  unfold bitsL
  rw [List.filter_filter]
  refine List.filter_congr (fun j _ => ?_)
  rw [Nat.testBit_xor, Nat.testBit_two_pow]
  by_cases e : i = j
  · subst e; rw [hb]; simp
  · have : (j != i) = true := by simp; exact fun h => e h.symm
    rw [this]; simp [e]
end Go.Proofs.YtbnfnpakibkboaaGreat
