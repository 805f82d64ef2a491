/- Contracts: Index, Contains, move, moves. -/
import Derived.Test.YtcpanfpijljeaaaGreatOwn
import Derived.Test.YtcpanfpijljeaaaGreatS1
import Derived.Deep.DeepMust
namespace Go.Proofs.YtcpanfpijljeaaaGreat
set_option linter.unusedVariables false
set_option linter.unusedSimpArgs false
open Go.RowKit

theorem info27 : (Tryz.prog.info? 27).map (fun i => (i.zero, i.size, i.bytes)) = some (some (.agg #[.int .i64 0, .bool false]), 2, 16) := by kernel_rfl

theorem not_mem_next {l : List Int} {k : Nat} {v : Int} (hl : k < l.length) (h : v ∉ l.take k) (hne : v ≠ l[k]) : v ∉ l.take (k + 1) := by
  rw [List.take_succ_eq_append_getElem hl]
  simp only [List.mem_append, List.mem_singleton, not_or]
  exact ⟨h, hne⟩
set_option maxHeartbeats 1000000 in
theorem index_any (A : Option Addr) (l : List Int) (c : Nat) (v : Int) (w : World) (hA : Sl w w.heap.size 1 CI A l) (hl : l.length ≤ 140737488351232) :
    Calls Tryz.prog 101 #[.slice A l.length c, .int .i64 v] w fun e w' => (∃ i : Int, e = .returned (.int .i64 i) ∧ (0 ≤ i ↔ v ∈ l)) ∧ w = w' := by
  go_enter Tryz.func101, Tryz.ntmps101
  go_wp2
  go_loop [8] (fun i => ∃ k : Nat, k ≤ l.length ∧ i = .int .i64 k ∧ v ∉ l.take k) (fun i => l.length - (intOf i).toNat)
  case atStart => exact ⟨0, Nat.zero_le _, rfl, by simp⟩
  case round =>
    obtain ⟨k, hk, rfl, hn⟩ := hrel
    have HN := Lib.hid hn; clear hn
    by_cases hlt : k < l.length
    · obtain ⟨b1, o1, e1, g1, q1⟩ := int_at hA hlt
      obtain ⟨x, hx⟩ : ∃ x, l[k] = x := ⟨_, rfl⟩
      rw [hx] at q1
      have HX := Lib.hid hx
      subst e1
      clear hx
      by_cases hxy : v = x
      · have HM := Lib.hid (show v ∈ l by rw [hxy, ← HX.out]; exact List.getElem_mem hlt)
        have n1 : (v == x) = true := by simpa using hxy
        clear hxy
        go_wp2
        go_ret
        exact ⟨⟨_, rfl, fun _ => HM.out, fun _ => by omega⟩, rfl⟩
      · have HM := Lib.hid (not_mem_next hlt HN.out (by rw [HX.out]; exact hxy))
        have n1 : (v == x) = false := by simpa using hxy
        clear hxy
        go_wp2
        go_round
        case rel => exact ⟨k + 1, by omega, by go_num, HM.out⟩
        case measure => simp [intOf]; omega
    · obtain rfl : k = l.length := by omega
      have HQ := Lib.hid (show v ∉ l by have := HN.out; rwa [List.take_length] at this)
      go_wp2
      go_ret
      exact ⟨⟨_, rfl, fun h => absurd h (by omega), fun h => absurd h HQ.out⟩, rfl⟩

set_option maxHeartbeats 1000000 in
theorem contains_any (A : Option Addr) (l : List Int) (c : Nat) (v : Int) (w : World) (hA : Sl w w.heap.size 1 CI A l) (hl : l.length ≤ 140737488351232) :
    Calls Tryz.prog 78 #[.slice A l.length c, .int .i64 v] w fun e w' => e = .returned (.bool (decide (v ∈ l))) ∧ w = w' := by
  go_enter Tryz.func78, Tryz.ntmps78
  go_wp2_with fail
  refine (index_any A l c v _ hA hl).mono ?_
  rintro e w1 ⟨⟨i, rfl, hi⟩, rfl⟩
  by_cases h : 0 ≤ i
  · have HD := Lib.hid (show decide (v ∈ l) = true by simpa using hi.1 h)
    clear hi
    go_wp2
    go_ret
    exact ⟨by rw [HD.out]; rfl, rfl⟩
  · have HD := Lib.hid (show decide (v ∈ l) = false by simpa using fun hm => h (hi.2 hm))
    have hd : decide (0 ≤ i) = false := by simpa using h
    clear hi
    go_wp2
    go_ret
    exact ⟨by rw [HD.out]; rfl, rfl⟩

/-- the move with a number -/
def moveE (x : Int) : E := ⟨x / 2, decide (x % 2 = 1)⟩
set_option maxHeartbeats 1000000 in
theorem move_any (x : Int) (w : World) (h0 : 0 ≤ x) (h1 : x ≤ 1000000) :
    Calls Tryz.prog 77 #[.int .i64 x] w fun e w' => e = .returned (.agg #[.int .i64 (moveE x).rail, .bool (moveE x).last]) ∧ Below w.heap.size w w' := by
  by_cases h : x % 2 = 1
  · have HD := Lib.hid (show moveE x = ⟨x / 2, true⟩ by simp [moveE, h])
    have h2 : (x % 2 == 1) = true := by simp [h]
    clear h
    go_enter Tryz.func77, Tryz.ntmps77
    go_wp2
    exact bodyPost_ret (v := .agg #[.int .i64 (x / 2), .bool true]) (by simp [results, Tryz.results77, go_sem]) rfl ⟨by rw [HD.out], ((Below.refl _ _).alloc (Nat.le_refl _) _)⟩
  · have HD := Lib.hid (show moveE x = ⟨x / 2, false⟩ by simp [moveE, h])
    have h2 : (x % 2 == 1) = false := by simp; omega
    clear h
    go_enter Tryz.func77, Tryz.ntmps77
    go_wp2
    exact bodyPost_ret (v := .agg #[.int .i64 (x / 2), .bool false]) (by simp [results, Tryz.results77, go_sem]) rfl ⟨by rw [HD.out], ((Below.refl _ _).alloc (Nat.le_refl _) _)⟩

def MovesPost (l : List Int) (w : World) (e : Ending) (w' : World) : Prop := (∃ v, e = .returned v ∧ Own w' w.heap.size 27 2 fE v (l.map moveE)) ∧ Below w.heap.size w w'
set_option maxRecDepth 100000 in
set_option maxHeartbeats 2000000 in
theorem moves_any (A : Option Addr) (l : List Int) (c : Nat) (w : World) (hA : Sl w w.heap.size 1 CI A l) (hl : l.length ≤ 100000) (hr : ∀ x ∈ l, 0 ≤ x ∧ x ≤ 1000000) :
    Calls Tryz.prog 50 #[.slice A l.length c] w (MovesPost l w) := by
  obtain ⟨i0, hi, hz0, hz1, hz2⟩ := info_parts info27
  have hmk := fun W : World => run_mk (P := Tryz.prog) 31 27 i0 _ 2 Tryz.underlying31 hi hz0 hz1 0 (l.length : Int) 0 l.length rfl rfl (by omega) (by rw [hz2]; omega) (by omega) W
  have HO := Lib.hid (show Own (w.alloc (.cells (madeCells #[.int .i64 0, .bool false] (l.length * 2)) 27)) w.heap.size 27 2 fE (.slice (some ⟨w.heap.size, 0, none⟩) 0 l.length) [] from
    Own.made w _ _ (Nat.le_refl _) (by simp [maxLen]; omega) (by simp [madeCells]))
  have HR := Lib.hid hr; clear hr
  go_enter Tryz.func50, Tryz.ntmps50
  go_wp2
  clear hmk
  go_loopw [3, 11] (fun v i wr => ∃ k : Nat, k ≤ l.length ∧ i = .int .i64 k ∧ Own wr w.heap.size 27 2 fE v ((l.take k).map moveE) ∧ Below w.heap.size w wr) (fun _ i _ => l.length - (intOf i).toNat)
  case atStart => exact ⟨0, Nat.zero_le _, rfl, by simpa using HO.out, (Below.refl _ _).alloc (Nat.le_refl _) _⟩
  case round =>
    obtain ⟨k, hk, rfl, ho, hb⟩ := hrel
    clear HO
    by_cases hlt : k < l.length
    · obtain ⟨b1, o1, e1, g1, q1⟩ := int_at (hA.below hb) hlt
      obtain ⟨x, hx⟩ : ∃ x, l[k] = x := ⟨_, rfl⟩
      have hx01 := HR.out x (by rw [← hx]; exact List.getElem_mem hlt)
      obtain ⟨hx0, hx1⟩ := hx01
      rw [hx] at q1
      have HX := Lib.hid (show (l.take (k + 1)).map moveE = (l.take k).map moveE ++ [moveE x] by rw [List.take_succ_eq_append_getElem hlt, List.map_append, hx]; rfl)
      subst e1
      clear hx
      have hsz := hb.size
      have HO := Lib.hid ho
      have HB := Lib.hid hb
      clear ho hb
      go_wp2_with fail
      refine (move_any x _ hx0 hx1).mono ?_
      rintro e w1 ⟨rfl, hb1⟩
      have hz1' := hb1.size
      have HO1 := Lib.hid (HO.out.below hb1 (Nat.le_refl _))
      have HB1 := Lib.hid (HB.out.trans (hb1.mono hsz))
      have hlen : ((l.take k).map moveE).length ≤ k := by simp; omega
      clear hb1
      go_wp2_with (at_builtin; go_must (refine wpList_app _ rfl (.tmp 15) (.tmp 18) _ rfl w.heap.size 27 i0 _ 2 16 Tryz.underlying31 hi hz0 hz1 hz2 rfl (by omega) fE_len fE_one u3 _ rfl (HO1.out.alloc _) _ _ [moveE x] 1 rfl (Sl.new _ _ (moveE x) _ rfl) (by simp [maxLen]; omega) (by simp; omega) (by simp; omega) (fun _ => .inr ⟨_, rfl⟩) ?_); intro v2 w2 o2 gr2 at2 ne2)
      go_roundw
      case rel => exact ⟨k + 1, by omega, by go_num, by rw [HX.out]; exact o2, (HB1.out.alloc (by omega) _).grown gr2 (by simp; omega) (fun k hk => (HO1.out.lt k hk).1)⟩
      case measure => simp [intOf]; omega
    · obtain rfl : k = l.length := by omega
      have HQ := Lib.hid (show Own wr w.heap.size 27 2 fE u3 (l.map moveE) by rwa [List.take_length] at ho)
      clear ho
      go_wp2
      go_ret
      exact ⟨⟨_, rfl, HQ.out⟩, hb⟩
end Go.Proofs.YtcpanfpijljeaaaGreat
