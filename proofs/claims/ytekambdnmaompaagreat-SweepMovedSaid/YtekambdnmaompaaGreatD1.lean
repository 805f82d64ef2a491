/- Contracts: what a node lets through. -/
import Derived.Test.YtekambdnmaompaaGreatC2
import Derived.Laws.EntriesVeiled
namespace Go.Proofs.YtekambdnmaompaaGreat
set_option linter.unusedVariables false
set_option linter.unusedSimpArgs false
open Go.RowKit

/-- '[]T{..}' as a slice of the call's own -/
theorem Own.builtL {α : Type} {f : α → List Value} {size : Nat} (w : World) (base : Nat) (e : TypeId) (l : List α) (cs : Array Value) (h : cs = (l.flatMap f).toArray) (hf : ∀ x, (f x).length = size) (hb : base ≤ w.heap.size) (hm : l.length ≤ maxLen) :
    Own (w.alloc (.cells cs e)) base e size f (.slice (some ⟨w.heap.size, 0, none⟩) l.length l.length) l := by
  subst h
  refine ⟨flat_len hf l, .inr ⟨w.heap.size, l.length, _, rfl, hb, heap_alloc_new w _, Nat.le_refl _, hm, by simp [flat_len hf], ?_⟩⟩
  rw [List.take_of_length_le (by simp [flat_len hf])]

/-- the ends by which a car can go on -/
def thru (k nm a : Int) : List Int :=
  if k = 1 then [] else if k = 2 then [1 - a] else if k = 3 then [(a + 2) % 4] else if k = 4 then (if a = 0 then [1, 2] else [0])
  else if k = 5 then (if a = 0 then [nm] else [0]) else (if a = 0 then [nm] else if a = nm then [0] else [])

def ThruPost (l : List Int) (w : World) (e : Ending) (w' : World) : Prop := ∃ v, e = .returned v ∧ Own w' w.heap.size 3 1 fI v l ∧ Below w.heap.size w w'
theorem thru_one (w : World) (x : Int) (o : Obj) : ThruPost [x] w (.returned (.slice (some ⟨w.heap.size + 1, 0, none⟩) 1 1)) ((w.alloc o).alloc (.cells #[.int .i64 x] 3)) := by
  refine ⟨_, rfl, ?_, ((Below.refl _ _).alloc (Nat.le_refl _) _).alloc (by simp) _⟩
  have := Own.built (f := fI) (size := 1) (w.alloc o) w.heap.size 3 x #[.int .i64 x] rfl fI_len (by simp)
  simpa using this
theorem thru_two (w : World) (x y : Int) (o : Obj) : ThruPost [x, y] w (.returned (.slice (some ⟨w.heap.size + 1, 0, none⟩) 2 2)) ((w.alloc o).alloc (.cells #[.int .i64 x, .int .i64 y] 3)) := by
  refine ⟨_, rfl, ?_, ((Below.refl _ _).alloc (Nat.le_refl _) _).alloc (by simp) _⟩
  have := Own.builtL (f := fI) (size := 1) (w.alloc o) w.heap.size 3 [x, y] #[.int .i64 x, .int .i64 y] rfl fI_len (by simp) (by simp [maxLen])
  simpa using this
theorem thru_nil (w : World) (o : Obj) : ThruPost [] w (.returned (.slice none 0 0)) (w.alloc o) :=
  ⟨_, rfl, Own.nil _ _ _ _ _, (Below.refl _ _).alloc (Nat.le_refl _) _⟩

theorem nowhere_any (a nm : Int) (w : World) : Calls Tryz.prog 141 #[.agg #[.int .i64 a, .int .i64 nm]] w (ThruPost [] w) := by
  go_enter Tryz.func141, Tryz.ntmps141
  go_wp2
  go_ret
  exact thru_nil w _
theorem straight_any (a nm : Int) (w : World) (h0 : 0 ≤ a) (h1 : a ≤ 4) : Calls Tryz.prog 142 #[.agg #[.int .i64 a, .int .i64 nm]] w (ThruPost [1 - a] w) := by
  go_enter Tryz.func142, Tryz.ntmps142
  go_wp2
  go_ret
  exact thru_one w _ _
theorem across_any (a nm : Int) (w : World) (h0 : 0 ≤ a) (h1 : a ≤ 4) : Calls Tryz.prog 143 #[.agg #[.int .i64 a, .int .i64 nm]] w (ThruPost [(a + 2) % 4] w) := by
  go_enter Tryz.func143, Tryz.ntmps143
  go_wp2
  go_ret
  exact thru_one w _ _
theorem anyLeg_any (a nm : Int) (w : World) : Calls Tryz.prog 144 #[.agg #[.int .i64 a, .int .i64 nm]] w (ThruPost (if a = 0 then [1, 2] else [0]) w) := by
  by_cases h : a = 0
  · rw [if_pos h]
    have h' : (a == 0) = true := by simpa using h
    clear h
    go_enter Tryz.func144, Tryz.ntmps144
    go_wp2
    go_ret
    exact thru_two w _ _ _
  · rw [if_neg h]
    have h' : (a == 0) = false := by simpa using h
    clear h
    go_enter Tryz.func144, Tryz.ntmps144
    go_wp2
    go_ret
    exact thru_one w _ _
theorem normalLeg_any (a nm : Int) (w : World) : Calls Tryz.prog 145 #[.agg #[.int .i64 a, .int .i64 nm]] w (ThruPost (if a = 0 then [nm] else [0]) w) := by
  by_cases h : a = 0
  · rw [if_pos h]
    have h' : (a == 0) = true := by simpa using h
    clear h
    go_enter Tryz.func145, Tryz.ntmps145
    go_wp2
    go_ret
    exact thru_one w _ _
  · rw [if_neg h]
    have h' : (a == 0) = false := by simpa using h
    clear h
    go_enter Tryz.func145, Tryz.ntmps145
    go_wp2
    go_ret
    exact thru_one w _ _
theorem onlyNormalLeg_any (a nm : Int) (w : World) : Calls Tryz.prog 146 #[.agg #[.int .i64 a, .int .i64 nm]] w (ThruPost (if a = 0 then [nm] else if a = nm then [0] else []) w) := by
  by_cases h : a = 0
  · rw [if_pos h]
    have h' : (a == 0) = true := by simpa using h
    clear h
    go_enter Tryz.func146, Tryz.ntmps146
    go_wp2
    go_ret
    exact thru_one w _ _
  · rw [if_neg h]
    have h' : (a == 0) = false := by simpa using h
    clear h
    by_cases h : a = nm
    · rw [if_pos h]
      have h2 : (a == nm) = true := by simpa using h
      clear h
      go_enter Tryz.func146, Tryz.ntmps146
      go_wp2
      go_ret
      exact thru_one w _ _
    · rw [if_neg h]
      have h2 : (a == nm) = false := by simpa using h
      clear h
      go_enter Tryz.func146, Tryz.ntmps146
      go_wp2
      go_ret
      exact thru_nil w _

set_option maxRecDepth 100000 in
set_option maxHeartbeats 4000000 in
theorem through_any (nd : N) (A : Option Addr) (c : Nat) (a : Int) (w : World) (hk1 : 1 ≤ nd.kind) (hk6 : nd.kind ≤ 6) (h0 : 0 ≤ a) (h4 : a ≤ 4) :
    Calls Tryz.prog 131 #[.agg #[.int .i64 nd.spot.x, .int .i64 nd.spot.y, .int .i64 nd.kind, .slice A nd.ends.length c, .int .i64 nd.normal], .int .i64 a] w (ThruPost (thru nd.kind nd.normal a) w) := by
  obtain ⟨⟨x, y⟩, k, ends, nm⟩ := nd
  obtain ⟨n, hn⟩ : ∃ n, ends.length = n := ⟨_, rfl⟩
  simp only at hk1 hk6 ⊢
  rw [hn]
  clear hn
  rcases (show k = 1 ∨ k = 2 ∨ k = 3 ∨ k = 4 ∨ k = 5 ∨ k = 6 by omega) with h | h | h | h | h | h
  · subst h
    have hS0 : ((w.alloc (.cells #[.int .i64 x, .int .i64 y, .int .i64 1, .slice A n c, .int .i64 nm] 87)).alloc (.cells #[.nilFunc, .func (.func 141) #[] #[], .func (.func 142) #[] #[], .func (.func 143) #[] #[], .func (.func 144) #[] #[], .func (.func 145) #[] #[], .func (.func 146) #[] #[]] 209)).cell? ⟨w.heap.size, 2, none⟩ = some (.int .i64 1) ∧ ((w.alloc (.cells #[.int .i64 x, .int .i64 y, .int .i64 1, .slice A n c, .int .i64 nm] 87)).alloc (.cells #[.nilFunc, .func (.func 141) #[] #[], .func (.func 142) #[] #[], .func (.func 143) #[] #[], .func (.func 144) #[] #[], .func (.func 145) #[] #[], .func (.func 146) #[] #[]] 209)).cell? ⟨w.heap.size + 1, 1, none⟩ = some (.func (.func 141) #[] #[]) ∧ ((w.alloc (.cells #[.int .i64 x, .int .i64 y, .int .i64 1, .slice A n c, .int .i64 nm] 87)).alloc (.cells #[.nilFunc, .func (.func 141) #[] #[], .func (.func 142) #[] #[], .func (.func 143) #[] #[], .func (.func 144) #[] #[], .func (.func 145) #[] #[], .func (.func 146) #[] #[]] 209)).cell? ⟨w.heap.size, 4, none⟩ = some (.int .i64 nm) := by
      refine ⟨by go_keep, by go_keep, by go_keep⟩
    have hB0 : Below w.heap.size w ((w.alloc (.cells #[.int .i64 x, .int .i64 y, .int .i64 1, .slice A n c, .int .i64 nm] 87)).alloc (.cells #[.nilFunc, .func (.func 141) #[] #[], .func (.func 142) #[] #[], .func (.func 143) #[] #[], .func (.func 144) #[] #[], .func (.func 145) #[] #[], .func (.func 146) #[] #[]] 209)) := ((Below.refl _ _).alloc (Nat.le_refl _) _).alloc (by simp) _
    have HS := Lib.hid hS0; have HB := Lib.hid hB0; clear hS0 hB0
    go_enter Tryz.func131, Tryz.ntmps131
    go_wp2_with fail
    go_region_held3 (fun w' => w'.cell? ⟨w.heap.size, 2, none⟩ = some (.int .i64 1) ∧ w'.cell? ⟨w.heap.size + 1, 1, none⟩ = some (.func (.func 141) #[] #[]) ∧ w'.cell? ⟨w.heap.size, 4, none⟩ = some (.int .i64 nm))
      (first | go_keep | exact ⟨(hb.cell (p := ⟨w.heap.size, 2, none⟩) (by simp; omega)).trans HS.out.1, (hb.cell (p := ⟨w.heap.size + 1, 1, none⟩) (by simp)).trans HS.out.2.1, (hb.cell (p := ⟨w.heap.size, 4, none⟩) (by simp; omega)).trans HS.out.2.2⟩)
      ((go_at_call 141; refine (nowhere_any a nm _).mono ?_; rintro e w2 ⟨v, rfl, ho, hb⟩))
    go_wp2
    go_ret
    have hb' : Below w.heap.size ((w.alloc (.cells #[.int .i64 x, .int .i64 y, .int .i64 1, .slice A n c, .int .i64 nm] 87)).alloc (.cells #[.nilFunc, .func (.func 141) #[] #[], .func (.func 142) #[] #[], .func (.func 143) #[] #[], .func (.func 144) #[] #[], .func (.func 145) #[] #[], .func (.func 146) #[] #[]] 209)) w2 := (Below.refl _ _).drew.trans (hb.mono (by simp; omega))
    exact ⟨v, rfl, (ho.lower (by simp; omega)), HB.out.trans hb'⟩
  · subst h
    have hS0 : ((w.alloc (.cells #[.int .i64 x, .int .i64 y, .int .i64 2, .slice A n c, .int .i64 nm] 87)).alloc (.cells #[.nilFunc, .func (.func 141) #[] #[], .func (.func 142) #[] #[], .func (.func 143) #[] #[], .func (.func 144) #[] #[], .func (.func 145) #[] #[], .func (.func 146) #[] #[]] 209)).cell? ⟨w.heap.size, 2, none⟩ = some (.int .i64 2) ∧ ((w.alloc (.cells #[.int .i64 x, .int .i64 y, .int .i64 2, .slice A n c, .int .i64 nm] 87)).alloc (.cells #[.nilFunc, .func (.func 141) #[] #[], .func (.func 142) #[] #[], .func (.func 143) #[] #[], .func (.func 144) #[] #[], .func (.func 145) #[] #[], .func (.func 146) #[] #[]] 209)).cell? ⟨w.heap.size + 1, 2, none⟩ = some (.func (.func 142) #[] #[]) ∧ ((w.alloc (.cells #[.int .i64 x, .int .i64 y, .int .i64 2, .slice A n c, .int .i64 nm] 87)).alloc (.cells #[.nilFunc, .func (.func 141) #[] #[], .func (.func 142) #[] #[], .func (.func 143) #[] #[], .func (.func 144) #[] #[], .func (.func 145) #[] #[], .func (.func 146) #[] #[]] 209)).cell? ⟨w.heap.size, 4, none⟩ = some (.int .i64 nm) := by
      refine ⟨by go_keep, by go_keep, by go_keep⟩
    have hB0 : Below w.heap.size w ((w.alloc (.cells #[.int .i64 x, .int .i64 y, .int .i64 2, .slice A n c, .int .i64 nm] 87)).alloc (.cells #[.nilFunc, .func (.func 141) #[] #[], .func (.func 142) #[] #[], .func (.func 143) #[] #[], .func (.func 144) #[] #[], .func (.func 145) #[] #[], .func (.func 146) #[] #[]] 209)) := ((Below.refl _ _).alloc (Nat.le_refl _) _).alloc (by simp) _
    have HS := Lib.hid hS0; have HB := Lib.hid hB0; clear hS0 hB0
    go_enter Tryz.func131, Tryz.ntmps131
    go_wp2_with fail
    go_region_held3 (fun w' => w'.cell? ⟨w.heap.size, 2, none⟩ = some (.int .i64 2) ∧ w'.cell? ⟨w.heap.size + 1, 2, none⟩ = some (.func (.func 142) #[] #[]) ∧ w'.cell? ⟨w.heap.size, 4, none⟩ = some (.int .i64 nm))
      (first | go_keep | exact ⟨(hb.cell (p := ⟨w.heap.size, 2, none⟩) (by simp; omega)).trans HS.out.1, (hb.cell (p := ⟨w.heap.size + 1, 2, none⟩) (by simp)).trans HS.out.2.1, (hb.cell (p := ⟨w.heap.size, 4, none⟩) (by simp; omega)).trans HS.out.2.2⟩)
      ((go_at_call 142; refine (straight_any a nm _ h0 h4).mono ?_; rintro e w2 ⟨v, rfl, ho, hb⟩))
    go_wp2
    go_ret
    have hb' : Below w.heap.size ((w.alloc (.cells #[.int .i64 x, .int .i64 y, .int .i64 2, .slice A n c, .int .i64 nm] 87)).alloc (.cells #[.nilFunc, .func (.func 141) #[] #[], .func (.func 142) #[] #[], .func (.func 143) #[] #[], .func (.func 144) #[] #[], .func (.func 145) #[] #[], .func (.func 146) #[] #[]] 209)) w2 := (Below.refl _ _).drew.trans (hb.mono (by simp; omega))
    exact ⟨v, rfl, (ho.lower (by simp; omega)), HB.out.trans hb'⟩
  · subst h
    have hS0 : ((w.alloc (.cells #[.int .i64 x, .int .i64 y, .int .i64 3, .slice A n c, .int .i64 nm] 87)).alloc (.cells #[.nilFunc, .func (.func 141) #[] #[], .func (.func 142) #[] #[], .func (.func 143) #[] #[], .func (.func 144) #[] #[], .func (.func 145) #[] #[], .func (.func 146) #[] #[]] 209)).cell? ⟨w.heap.size, 2, none⟩ = some (.int .i64 3) ∧ ((w.alloc (.cells #[.int .i64 x, .int .i64 y, .int .i64 3, .slice A n c, .int .i64 nm] 87)).alloc (.cells #[.nilFunc, .func (.func 141) #[] #[], .func (.func 142) #[] #[], .func (.func 143) #[] #[], .func (.func 144) #[] #[], .func (.func 145) #[] #[], .func (.func 146) #[] #[]] 209)).cell? ⟨w.heap.size + 1, 3, none⟩ = some (.func (.func 143) #[] #[]) ∧ ((w.alloc (.cells #[.int .i64 x, .int .i64 y, .int .i64 3, .slice A n c, .int .i64 nm] 87)).alloc (.cells #[.nilFunc, .func (.func 141) #[] #[], .func (.func 142) #[] #[], .func (.func 143) #[] #[], .func (.func 144) #[] #[], .func (.func 145) #[] #[], .func (.func 146) #[] #[]] 209)).cell? ⟨w.heap.size, 4, none⟩ = some (.int .i64 nm) := by
      refine ⟨by go_keep, by go_keep, by go_keep⟩
    have hB0 : Below w.heap.size w ((w.alloc (.cells #[.int .i64 x, .int .i64 y, .int .i64 3, .slice A n c, .int .i64 nm] 87)).alloc (.cells #[.nilFunc, .func (.func 141) #[] #[], .func (.func 142) #[] #[], .func (.func 143) #[] #[], .func (.func 144) #[] #[], .func (.func 145) #[] #[], .func (.func 146) #[] #[]] 209)) := ((Below.refl _ _).alloc (Nat.le_refl _) _).alloc (by simp) _
    have HS := Lib.hid hS0; have HB := Lib.hid hB0; clear hS0 hB0
    go_enter Tryz.func131, Tryz.ntmps131
    go_wp2_with fail
    go_region_held3 (fun w' => w'.cell? ⟨w.heap.size, 2, none⟩ = some (.int .i64 3) ∧ w'.cell? ⟨w.heap.size + 1, 3, none⟩ = some (.func (.func 143) #[] #[]) ∧ w'.cell? ⟨w.heap.size, 4, none⟩ = some (.int .i64 nm))
      (first | go_keep | exact ⟨(hb.cell (p := ⟨w.heap.size, 2, none⟩) (by simp; omega)).trans HS.out.1, (hb.cell (p := ⟨w.heap.size + 1, 3, none⟩) (by simp)).trans HS.out.2.1, (hb.cell (p := ⟨w.heap.size, 4, none⟩) (by simp; omega)).trans HS.out.2.2⟩)
      ((go_at_call 143; refine (across_any a nm _ h0 h4).mono ?_; rintro e w2 ⟨v, rfl, ho, hb⟩))
    go_wp2
    go_ret
    have hb' : Below w.heap.size ((w.alloc (.cells #[.int .i64 x, .int .i64 y, .int .i64 3, .slice A n c, .int .i64 nm] 87)).alloc (.cells #[.nilFunc, .func (.func 141) #[] #[], .func (.func 142) #[] #[], .func (.func 143) #[] #[], .func (.func 144) #[] #[], .func (.func 145) #[] #[], .func (.func 146) #[] #[]] 209)) w2 := (Below.refl _ _).drew.trans (hb.mono (by simp; omega))
    exact ⟨v, rfl, (ho.lower (by simp; omega)), HB.out.trans hb'⟩
  · subst h
    have hS0 : ((w.alloc (.cells #[.int .i64 x, .int .i64 y, .int .i64 4, .slice A n c, .int .i64 nm] 87)).alloc (.cells #[.nilFunc, .func (.func 141) #[] #[], .func (.func 142) #[] #[], .func (.func 143) #[] #[], .func (.func 144) #[] #[], .func (.func 145) #[] #[], .func (.func 146) #[] #[]] 209)).cell? ⟨w.heap.size, 2, none⟩ = some (.int .i64 4) ∧ ((w.alloc (.cells #[.int .i64 x, .int .i64 y, .int .i64 4, .slice A n c, .int .i64 nm] 87)).alloc (.cells #[.nilFunc, .func (.func 141) #[] #[], .func (.func 142) #[] #[], .func (.func 143) #[] #[], .func (.func 144) #[] #[], .func (.func 145) #[] #[], .func (.func 146) #[] #[]] 209)).cell? ⟨w.heap.size + 1, 4, none⟩ = some (.func (.func 144) #[] #[]) ∧ ((w.alloc (.cells #[.int .i64 x, .int .i64 y, .int .i64 4, .slice A n c, .int .i64 nm] 87)).alloc (.cells #[.nilFunc, .func (.func 141) #[] #[], .func (.func 142) #[] #[], .func (.func 143) #[] #[], .func (.func 144) #[] #[], .func (.func 145) #[] #[], .func (.func 146) #[] #[]] 209)).cell? ⟨w.heap.size, 4, none⟩ = some (.int .i64 nm) := by
      refine ⟨by go_keep, by go_keep, by go_keep⟩
    have hB0 : Below w.heap.size w ((w.alloc (.cells #[.int .i64 x, .int .i64 y, .int .i64 4, .slice A n c, .int .i64 nm] 87)).alloc (.cells #[.nilFunc, .func (.func 141) #[] #[], .func (.func 142) #[] #[], .func (.func 143) #[] #[], .func (.func 144) #[] #[], .func (.func 145) #[] #[], .func (.func 146) #[] #[]] 209)) := ((Below.refl _ _).alloc (Nat.le_refl _) _).alloc (by simp) _
    have HS := Lib.hid hS0; have HB := Lib.hid hB0; clear hS0 hB0
    go_enter Tryz.func131, Tryz.ntmps131
    go_wp2_with fail
    go_region_held3 (fun w' => w'.cell? ⟨w.heap.size, 2, none⟩ = some (.int .i64 4) ∧ w'.cell? ⟨w.heap.size + 1, 4, none⟩ = some (.func (.func 144) #[] #[]) ∧ w'.cell? ⟨w.heap.size, 4, none⟩ = some (.int .i64 nm))
      (first | go_keep | exact ⟨(hb.cell (p := ⟨w.heap.size, 2, none⟩) (by simp; omega)).trans HS.out.1, (hb.cell (p := ⟨w.heap.size + 1, 4, none⟩) (by simp)).trans HS.out.2.1, (hb.cell (p := ⟨w.heap.size, 4, none⟩) (by simp; omega)).trans HS.out.2.2⟩)
      ((go_at_call 144; refine (anyLeg_any a nm _).mono ?_; rintro e w2 ⟨v, rfl, ho, hb⟩))
    go_wp2
    go_ret
    have hb' : Below w.heap.size ((w.alloc (.cells #[.int .i64 x, .int .i64 y, .int .i64 4, .slice A n c, .int .i64 nm] 87)).alloc (.cells #[.nilFunc, .func (.func 141) #[] #[], .func (.func 142) #[] #[], .func (.func 143) #[] #[], .func (.func 144) #[] #[], .func (.func 145) #[] #[], .func (.func 146) #[] #[]] 209)) w2 := (Below.refl _ _).drew.trans (hb.mono (by simp; omega))
    exact ⟨v, rfl, (ho.lower (by simp; omega)), HB.out.trans hb'⟩
  · subst h
    have hS0 : ((w.alloc (.cells #[.int .i64 x, .int .i64 y, .int .i64 5, .slice A n c, .int .i64 nm] 87)).alloc (.cells #[.nilFunc, .func (.func 141) #[] #[], .func (.func 142) #[] #[], .func (.func 143) #[] #[], .func (.func 144) #[] #[], .func (.func 145) #[] #[], .func (.func 146) #[] #[]] 209)).cell? ⟨w.heap.size, 2, none⟩ = some (.int .i64 5) ∧ ((w.alloc (.cells #[.int .i64 x, .int .i64 y, .int .i64 5, .slice A n c, .int .i64 nm] 87)).alloc (.cells #[.nilFunc, .func (.func 141) #[] #[], .func (.func 142) #[] #[], .func (.func 143) #[] #[], .func (.func 144) #[] #[], .func (.func 145) #[] #[], .func (.func 146) #[] #[]] 209)).cell? ⟨w.heap.size + 1, 5, none⟩ = some (.func (.func 145) #[] #[]) ∧ ((w.alloc (.cells #[.int .i64 x, .int .i64 y, .int .i64 5, .slice A n c, .int .i64 nm] 87)).alloc (.cells #[.nilFunc, .func (.func 141) #[] #[], .func (.func 142) #[] #[], .func (.func 143) #[] #[], .func (.func 144) #[] #[], .func (.func 145) #[] #[], .func (.func 146) #[] #[]] 209)).cell? ⟨w.heap.size, 4, none⟩ = some (.int .i64 nm) := by
      refine ⟨by go_keep, by go_keep, by go_keep⟩
    have hB0 : Below w.heap.size w ((w.alloc (.cells #[.int .i64 x, .int .i64 y, .int .i64 5, .slice A n c, .int .i64 nm] 87)).alloc (.cells #[.nilFunc, .func (.func 141) #[] #[], .func (.func 142) #[] #[], .func (.func 143) #[] #[], .func (.func 144) #[] #[], .func (.func 145) #[] #[], .func (.func 146) #[] #[]] 209)) := ((Below.refl _ _).alloc (Nat.le_refl _) _).alloc (by simp) _
    have HS := Lib.hid hS0; have HB := Lib.hid hB0; clear hS0 hB0
    go_enter Tryz.func131, Tryz.ntmps131
    go_wp2_with fail
    go_region_held3 (fun w' => w'.cell? ⟨w.heap.size, 2, none⟩ = some (.int .i64 5) ∧ w'.cell? ⟨w.heap.size + 1, 5, none⟩ = some (.func (.func 145) #[] #[]) ∧ w'.cell? ⟨w.heap.size, 4, none⟩ = some (.int .i64 nm))
      (first | go_keep | exact ⟨(hb.cell (p := ⟨w.heap.size, 2, none⟩) (by simp; omega)).trans HS.out.1, (hb.cell (p := ⟨w.heap.size + 1, 5, none⟩) (by simp)).trans HS.out.2.1, (hb.cell (p := ⟨w.heap.size, 4, none⟩) (by simp; omega)).trans HS.out.2.2⟩)
      ((go_at_call 145; refine (normalLeg_any a nm _).mono ?_; rintro e w2 ⟨v, rfl, ho, hb⟩))
    go_wp2
    go_ret
    have hb' : Below w.heap.size ((w.alloc (.cells #[.int .i64 x, .int .i64 y, .int .i64 5, .slice A n c, .int .i64 nm] 87)).alloc (.cells #[.nilFunc, .func (.func 141) #[] #[], .func (.func 142) #[] #[], .func (.func 143) #[] #[], .func (.func 144) #[] #[], .func (.func 145) #[] #[], .func (.func 146) #[] #[]] 209)) w2 := (Below.refl _ _).drew.trans (hb.mono (by simp; omega))
    exact ⟨v, rfl, (ho.lower (by simp; omega)), HB.out.trans hb'⟩
  · subst h
    have hS0 : ((w.alloc (.cells #[.int .i64 x, .int .i64 y, .int .i64 6, .slice A n c, .int .i64 nm] 87)).alloc (.cells #[.nilFunc, .func (.func 141) #[] #[], .func (.func 142) #[] #[], .func (.func 143) #[] #[], .func (.func 144) #[] #[], .func (.func 145) #[] #[], .func (.func 146) #[] #[]] 209)).cell? ⟨w.heap.size, 2, none⟩ = some (.int .i64 6) ∧ ((w.alloc (.cells #[.int .i64 x, .int .i64 y, .int .i64 6, .slice A n c, .int .i64 nm] 87)).alloc (.cells #[.nilFunc, .func (.func 141) #[] #[], .func (.func 142) #[] #[], .func (.func 143) #[] #[], .func (.func 144) #[] #[], .func (.func 145) #[] #[], .func (.func 146) #[] #[]] 209)).cell? ⟨w.heap.size + 1, 6, none⟩ = some (.func (.func 146) #[] #[]) ∧ ((w.alloc (.cells #[.int .i64 x, .int .i64 y, .int .i64 6, .slice A n c, .int .i64 nm] 87)).alloc (.cells #[.nilFunc, .func (.func 141) #[] #[], .func (.func 142) #[] #[], .func (.func 143) #[] #[], .func (.func 144) #[] #[], .func (.func 145) #[] #[], .func (.func 146) #[] #[]] 209)).cell? ⟨w.heap.size, 4, none⟩ = some (.int .i64 nm) := by
      refine ⟨by go_keep, by go_keep, by go_keep⟩
    have hB0 : Below w.heap.size w ((w.alloc (.cells #[.int .i64 x, .int .i64 y, .int .i64 6, .slice A n c, .int .i64 nm] 87)).alloc (.cells #[.nilFunc, .func (.func 141) #[] #[], .func (.func 142) #[] #[], .func (.func 143) #[] #[], .func (.func 144) #[] #[], .func (.func 145) #[] #[], .func (.func 146) #[] #[]] 209)) := ((Below.refl _ _).alloc (Nat.le_refl _) _).alloc (by simp) _
    have HS := Lib.hid hS0; have HB := Lib.hid hB0; clear hS0 hB0
    go_enter Tryz.func131, Tryz.ntmps131
    go_wp2_with fail
    go_region_held3 (fun w' => w'.cell? ⟨w.heap.size, 2, none⟩ = some (.int .i64 6) ∧ w'.cell? ⟨w.heap.size + 1, 6, none⟩ = some (.func (.func 146) #[] #[]) ∧ w'.cell? ⟨w.heap.size, 4, none⟩ = some (.int .i64 nm))
      (first | go_keep | exact ⟨(hb.cell (p := ⟨w.heap.size, 2, none⟩) (by simp; omega)).trans HS.out.1, (hb.cell (p := ⟨w.heap.size + 1, 6, none⟩) (by simp)).trans HS.out.2.1, (hb.cell (p := ⟨w.heap.size, 4, none⟩) (by simp; omega)).trans HS.out.2.2⟩)
      ((go_at_call 146; refine (onlyNormalLeg_any a nm _).mono ?_; rintro e w2 ⟨v, rfl, ho, hb⟩))
    go_wp2
    go_ret
    have hb' : Below w.heap.size ((w.alloc (.cells #[.int .i64 x, .int .i64 y, .int .i64 6, .slice A n c, .int .i64 nm] 87)).alloc (.cells #[.nilFunc, .func (.func 141) #[] #[], .func (.func 142) #[] #[], .func (.func 143) #[] #[], .func (.func 144) #[] #[], .func (.func 145) #[] #[], .func (.func 146) #[] #[]] 209)) w2 := (Below.refl _ _).drew.trans (hb.mono (by simp; omega))
    exact ⟨v, rfl, (ho.lower (by simp; omega)), HB.out.trans hb'⟩
end Go.Proofs.YtekambdnmaompaaGreat
