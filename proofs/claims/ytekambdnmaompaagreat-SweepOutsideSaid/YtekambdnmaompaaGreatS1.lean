/- Contracts: the specification's comparisons of lists. -/
import Derived.Test.YtekambdnmaompaaGreatMem
import Derived.Test.YtekambdnmaompaaGreatProg
import Derived.WalkKit
import Derived.Lib.Hide
import Derived.Outline
import Derived.BigQuiet
import Derived.Deep.QuietTactic
import Derived.Deep.LoopGhost
namespace Go.Proofs.YtekambdnmaompaaGreat
set_option linter.unusedVariables false
set_option linter.unusedSimpArgs false
open Go.RowKit

def SamePost {α : Type} (l m : List α) (w : World) (e : Ending) (w' : World) : Prop := (∃ b, e = .returned (.bool b) ∧ (b = true ↔ l = m)) ∧ Below w.heap.size w w'
theorem take_next {α : Type} {l m : List α} {k : Nat} (h : l.take k = m.take k) (hl : k < l.length) (hm : k < m.length) (he : l[k] = m[k]) : l.take (k + 1) = m.take (k + 1) := by
  rw [List.take_succ_eq_append_getElem hl, List.take_succ_eq_append_getElem hm, h, he]
theorem ne_at {α : Type} {l m : List α} {k : Nat} (hl : k < l.length) (hm : k < m.length) (he : l[k] ≠ m[k]) : l ≠ m := by
  intro e; subst e; exact he rfl

/-- a part of a rail -/
structure C3 where
  rail : Int
  frm : Int
  to : Int
def CC (s : C3) (cs : List Value) : Prop := cs = [.int .i64 s.rail, .int .i64 s.frm, .int .i64 s.to]
theorem cov_at {w : World} {B : Nat} {l : List C3} {A : Option Addr} (h : Sl w B 3 CC A l) {i : Nat} (hi : i < l.length) :
    ∃ b off, A = some ⟨b, off, none⟩ ∧ b < B ∧ w.cell? ⟨b, off + i * 3, none⟩ = some (.int .i64 l[i].rail) ∧ w.cell? ⟨b, off + i * 3 + 1, none⟩ = some (.int .i64 l[i].frm) ∧ w.cell? ⟨b, off + i * 3 + 2, none⟩ = some (.int .i64 l[i].to) := by
  obtain ⟨b, off, cs, e, hb, rfl, hc⟩ := h.at_ hi
  exact ⟨b, off, e, hb, hc 0 _ rfl, hc 1 _ rfl, hc 2 _ rfl⟩
set_option maxHeartbeats 1000000 in
theorem sameCovers_any (A B : Option Addr) (l m : List C3) (c d : Nat) (w : World) (hA : Sl w w.heap.size 3 CC A l) (hB : Sl w w.heap.size 3 CC B m) (hl : l.length ≤ 140737488351232) :
    Calls Tryz.prog 39 #[.slice A l.length c, .slice B m.length d] w (SamePost l m w) := by
  by_cases hlen : l.length = m.length
  · have H := Lib.hid hlen
    have h1 : ((l.length : Int) != (m.length : Int)) = false := by simp [hlen]
    have h2 : (!((l.length : Int) == (m.length : Int))) = false := by simp [hlen]
    clear hlen
    go_enter Tryz.func39, Tryz.ntmps39
    go_wp2
    go_loopw [5] (fun i wr => ∃ k : Nat, k ≤ l.length ∧ i = .int .i64 k ∧ l.take k = m.take k ∧ Below w.heap.size w wr) (fun i _ => l.length - (intOf i).toNat)
    case atStart => exact ⟨0, Nat.zero_le _, rfl, rfl, Below.refl _ _⟩
    case round =>
      obtain ⟨k, hk, rfl, htk, hb⟩ := hrel
      have HT := Lib.hid htk; clear htk
      by_cases hlt : k < l.length
      · have hlt' : k < m.length := by rw [← H.out]; exact hlt
        obtain ⟨b1, o1, e1, g1, q10, q11, q12⟩ := cov_at (hA.below hb) hlt
        obtain ⟨b2, o2, e2, g2, q20, q21, q22⟩ := cov_at (hB.below hb) hlt'
        obtain ⟨x0, x1, x2, hx⟩ : ∃ x0 x1 x2, l[k] = (⟨x0, x1, x2⟩ : C3) := ⟨l[k].rail, l[k].frm, l[k].to, rfl⟩
        obtain ⟨y0, y1, y2, hy⟩ : ∃ y0 y1 y2, m[k] = (⟨y0, y1, y2⟩ : C3) := ⟨m[k].rail, m[k].frm, m[k].to, rfl⟩
        rw [hx] at q10
        rw [hy] at q20
        rw [hx] at q11
        rw [hy] at q21
        rw [hx] at q12
        rw [hy] at q22
        have HX := Lib.hid hx; have HY := Lib.hid hy
        subst e1; subst e2
        clear hx hy
        by_cases h0 : x0 = y0
        case neg =>
          have HN := Lib.hid (show l ≠ m from ne_at hlt hlt' (by rw [HX.out, HY.out]; intro h; injection h; contradiction))
          have n1 : (x0 == y0) = false := by simpa using h0
          clear h0
          go_wp2
          go_quiet (fail)
          go_wp2
          go_ret
          exact ⟨⟨_, rfl, (fun h => by cases h), fun h => absurd h HN.out⟩, bDrewN hb _⟩
        subst h0
        by_cases h1 : x1 = y1
        case neg =>
          have HN := Lib.hid (show l ≠ m from ne_at hlt hlt' (by rw [HX.out, HY.out]; intro h; injection h; contradiction))
          have n1 : (x1 == y1) = false := by simpa using h1
          clear h1
          go_wp2
          go_quiet (fail)
          go_wp2
          go_ret
          exact ⟨⟨_, rfl, (fun h => by cases h), fun h => absurd h HN.out⟩, bDrewN hb _⟩
        subst h1
        by_cases h2 : x2 = y2
        case neg =>
          have HN := Lib.hid (show l ≠ m from ne_at hlt hlt' (by rw [HX.out, HY.out]; intro h; injection h; contradiction))
          have n1 : (x2 == y2) = false := by simpa using h2
          clear h2
          go_wp2
          go_quiet (fail)
          go_wp2
          go_ret
          exact ⟨⟨_, rfl, (fun h => by cases h), fun h => absurd h HN.out⟩, bDrewN hb _⟩
        subst h2
        go_wp2
        go_quiet (fail)
        go_wp2
        go_roundw
        case rel => exact ⟨k + 1, by omega, by go_num, take_next HT.out hlt hlt' (HX.out.trans HY.out.symm), bDrewN hb _⟩
        case measure => simp [intOf]; omega
      · obtain rfl : k = l.length := by omega
        have HQ := Lib.hid (show l = m by have := HT.out; rwa [List.take_length, H.out, List.take_length] at this)
        go_wp2
        go_ret
        exact ⟨⟨_, rfl, fun _ => HQ.out, fun _ => rfl⟩, hb⟩
  · have H := Lib.hid (show l ≠ m from fun e => hlen (by rw [e]))
    have h1 : ((l.length : Int) != (m.length : Int)) = true := by simp; omega
    have h2 : (!((l.length : Int) == (m.length : Int))) = true := by simp; omega
    clear hlen
    go_enter Tryz.func39, Tryz.ntmps39
    go_wp2
    go_ret
    exact ⟨⟨_, rfl, (fun h => by cases h), fun h => absurd h H.out⟩, Below.refl _ _⟩
end Go.Proofs.YtekambdnmaompaaGreat
