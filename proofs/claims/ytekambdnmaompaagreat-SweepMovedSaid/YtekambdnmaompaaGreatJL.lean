/- Texts L3 L4 L6. -/
import Derived.Test.YtekambdnmaompaaGreatJ2
import Derived.Test.YtekambdnmaompaaGreatJ7
namespace Go.Proofs.YtekambdnmaompaaGreat.SW
set_option linter.unusedVariables false
set_option linter.unusedSimpArgs false
open Go.RowKit
set_option maxRecDepth 100000 in
set_option maxHeartbeats 4000000 in
theorem search3_any (P1 P2 P3 : Addr) (n : Nat) (p : Nat → Bool) (w : World) (hn : n ≤ 1000000)
    (hf : ∀ (wx : World) (i : Nat), Below w.heap.size w wx → i < n → Calls Tryz.prog 139 #[.int .i64 (i : Int), .pointer (some P1), .pointer (some P2), .pointer (some P3)] wx fun e w' => e = .returned (.bool (p i)) ∧ Below wx.heap.size wx w')
    (hmono : ∀ a b, a ≤ b → b < n → p a = true → p b = true) :
    Calls Tryz.prog 114 #[.int .i64 (n : Int), .func (.func 139) #[] #[.pointer (some P1), .pointer (some P2), .pointer (some P3)]] w fun e w' => e = .returned (.int .i64 (((List.range n).countP (fun i => !p i) : Nat) : Int)) ∧ Below w.heap.size w w' := by
  have HF := Lib.hid hf
  have HM := Lib.hid hmono
  have HC := Lib.hid (show ∀ lo, lo ≤ n → (∀ t, t < lo → p t = false) → (∀ t, lo ≤ t → t < n → p t = true) → (List.range n).countP (fun i => !p i) = lo from fun lo h h1 h2 => count_is h h1 h2)
  obtain ⟨cnt, hcnt⟩ : ∃ z, (List.range n).countP (fun i => !p i) = z := ⟨_, rfl⟩
  rw [hcnt] at HC ⊢
  clear hf hmono hcnt
  go_enter Tryz.func114, Tryz.ntmps114
  go_wp2
  go_loopw [5, 6] (fun s5 s6 wr => ∃ lo hi : Nat, s5 = .int .i64 (lo : Int) ∧ s6 = .int .i64 (hi : Int) ∧ lo ≤ hi ∧ hi ≤ n ∧ (∀ t, t < lo → p t = false) ∧ (∀ t, hi ≤ t → t < n → p t = true) ∧ Below w.heap.size w wr) (fun s5 s6 _ => (intOf s6).toNat - (intOf s5).toNat)
  case atStart => exact ⟨0, n, rfl, rfl, Nat.zero_le _, Nat.le_refl _, (fun t h => by omega), (fun t h h2 => by omega), Below.refl _ _⟩
  case round =>
    obtain ⟨lo, hi, rfl, rfl, hlh, hin, h1, h2, hb⟩ := hrel
    have H1 := Lib.hid h1; have H2 := Lib.hid h2; have HB := Lib.hid hb
    clear h1 h2 hb
    by_cases hlt : lo < hi
    · obtain ⟨h, hh⟩ : ∃ h, (lo + hi) / 2 = h := ⟨_, rfl⟩
      have hc := HF.out wr h HB.out (by omega)
      have hhi : ((lo : Int) + (hi : Int)) / 2 = (h : Int) := by omega
      have w0' : IntKind.i64.wrap ((lo : Int) + (hi : Int)) = (lo : Int) + (hi : Int) := by rw [IntKind.wrap_i64]; omega
      have w1' : IntKind.u64.wrap ((lo : Int) + (hi : Int)) = (lo : Int) + (hi : Int) := by rw [IntKind.wrap_u64]; omega
      have hlo : lo ≤ h := by omega
      have hhi2 : h < hi := by omega
      obtain ⟨b, hb⟩ : ∃ z, p h = z := ⟨_, rfl⟩
      rw [hb] at hc
      have HPB := Lib.hid hb
      have HCC := Lib.hid hc
      clear hb hc hh
      cases b with
      | false =>
        go_wp2_with fail
        refine (HCC.out).mono ?_
        rintro e w2 ⟨rfl, hb2⟩
        have HB2 := Lib.hid (HB.out.trans (hb2.mono HB.out.size))
        clear hb2
        go_wp2
        go_roundw
        case rel => exact ⟨h + 1, hi, by go_num, rfl, by omega, hin, (fun t ht => by
          by_cases e : t < lo
          · exact H1.out t e
          · cases hpt : p t with
            | false => rfl
            | true =>
              have := HM.out t h (by omega) (by omega) hpt
              rw [HPB.out] at this; cases this), H2.out, HB2.out⟩
        case measure => simp [intOf]; omega
      | true =>
        go_wp2_with fail
        refine (HCC.out).mono ?_
        rintro e w2 ⟨rfl, hb2⟩
        have HB2 := Lib.hid (HB.out.trans (hb2.mono HB.out.size))
        clear hb2
        go_wp2
        go_roundw
        case rel => exact ⟨lo, h, rfl, by go_num, by omega, by omega, H1.out, (fun t ht htn => HM.out h t ht htn HPB.out), HB2.out⟩
        case measure => simp [intOf]; omega
    · have HE := Lib.hid (HC.out lo (by omega) H1.out (fun t ht htn => H2.out t (by omega) htn))
      go_wp2
      go_ret
      exact ⟨by rw [HE.out]; rfl, HB.out⟩
/-- what one looks for in the test's function -/
def NearC (k : Nat) (nr : Swp → Swp → Int → Bool) : Prop := ∀ (x y : SwM) (r : Int) (w : World), SwIn w x → SwIn w y → 0 ≤ r → r ≤ 1000000 →
  Calls Tryz.prog k #[.agg (fSw x).toArray, .agg (fSw y).toArray, .int .i64 r] w fun e w' => e = .returned (.bool (nr x.s y.s r)) ∧ Below w.heap.size w w'
set_option maxRecDepth 100000 in
set_option maxHeartbeats 4000000 in
theorem clos139_any (k p1 p2 p3 i : Nat) (nr : Swp → Swp → Int → Bool) (x y : SwM) (w : World) (hk : k = 62 ∨ k = 118 ∨ k = 120 ∨ k = 122) (HN : NearC k nr) (hX : SwIn w x) (hY : SwIn w y) (hi : i < 1000000)
    (h1 : w.cell? ⟨p1, 1, none⟩ = some (.func (.func k) #[] #[])) (bx : Bx p2 x w) (by_ : Bx p3 y w) :
    Calls Tryz.prog 139 #[.int .i64 (i : Int), .pointer (some ⟨p1, 0, none⟩), .pointer (some ⟨p2, 0, none⟩), .pointer (some ⟨p3, 0, none⟩)] w fun e w' => e = .returned (.bool (nr x.s y.s (i : Int))) ∧ Below w.heap.size w w' := by
  have f0 := bx 0 _ rfl; have g0 := by_ 0 _ rfl
  have f1 := bx 1 _ rfl; have g1 := by_ 1 _ rfl
  have f2 := bx 2 _ rfl; have g2 := by_ 2 _ rfl
  have f3 := bx 3 _ rfl; have g3 := by_ 3 _ rfl
  have f4 := bx 4 _ rfl; have g4 := by_ 4 _ rfl
  have f5 := bx 5 _ rfl; have g5 := by_ 5 _ rfl
  have f6 := bx 6 _ rfl; have g6 := by_ 6 _ rfl
  have f7 := bx 7 _ rfl; have g7 := by_ 7 _ rfl
  have f8 := bx 8 _ rfl; have g8 := by_ 8 _ rfl
  have f9 := bx 9 _ rfl; have g9 := by_ 9 _ rfl
  have f10 := bx 10 _ rfl; have g10 := by_ 10 _ rfl
  have f11 := bx 11 _ rfl; have g11 := by_ 11 _ rfl
  have f12 := bx 12 _ rfl; have g12 := by_ 12 _ rfl
  have HC := Lib.hid (HN x y (i : Int) w hX hY (by omega) (by omega))
  rw [show (fSw x).toArray = #[.int .i64 x.s.rail, .int .i64 x.s.seg, .int .i64 x.s.a.x, .int .i64 x.s.a.y, .int .i64 x.s.b.x, .int .i64 x.s.b.y, .int .i64 x.s.bg, .int .i64 x.s.en, .slice x.A x.s.bends.length x.c, .int .i64 (min x.s.a.x x.s.b.x), .int .i64 (min x.s.a.y x.s.b.y), .int .i64 (max x.s.a.x x.s.b.x), .int .i64 (max x.s.a.y x.s.b.y)] from rfl, show (fSw y).toArray = #[.int .i64 y.s.rail, .int .i64 y.s.seg, .int .i64 y.s.a.x, .int .i64 y.s.a.y, .int .i64 y.s.b.x, .int .i64 y.s.b.y, .int .i64 y.s.bg, .int .i64 y.s.en, .slice y.A y.s.bends.length y.c, .int .i64 (min y.s.a.x y.s.b.x), .int .i64 (min y.s.a.y y.s.b.y), .int .i64 (max y.s.a.x y.s.b.x), .int .i64 (max y.s.a.y y.s.b.y)] from rfl] at HC
  clear hX hY bx by_ HN
  rcases hk with rfl | rfl | rfl | rfl
  all_goals
    go_enter Tryz.func139, Tryz.ntmps139
    go_wp2_with fail
    (with_reducible refine HC.out.mono ?_)
    rintro e w2 ⟨rfl, hb2⟩
    go_wp2
    go_ret
    exact ⟨rfl, hb2⟩
end Go.Proofs.YtekambdnmaompaaGreat.SW

namespace Go.Proofs.YtekambdnmaompaaGreat.SW
set_option linter.unusedVariables false
set_option linter.unusedSimpArgs false
open Go.RowKit

def leastP (nr : Swp → Swp → Int → Bool) (x y : Swp) (n : Nat) : Nat := (List.range n).countP (fun r : Nat => !nr x y (r : Int))
def leastR (nr : Swp → Swp → Int → Bool) (x : Swp) (b : List SwM) (n : Nat) : Nat := b.foldl (fun l y => leastP nr x y.s l) n
def leastL (nr : Swp → Swp → Int → Bool) (a b : List SwM) (n : Nat) : Nat := a.foldl (fun l x => leastR nr x.s b l) n
/-- nearness grows with the reach -/
def MonoN (nr : Swp → Swp → Int → Bool) : Prop := ∀ x y (a b : Int), 0 ≤ a → a ≤ b → nr x y a = true → nr x y b = true
/-- what lies far is not near -/
def FarN (nr : Swp → Swp → Int → Bool) : Prop := ∀ (x y : SwM) (r : Int) (w : World), SwIn w x → SwIn w y → 0 ≤ r → farB x.s y.s r = true → nr x.s y.s r = false
theorem leastP_le (nr : Swp → Swp → Int → Bool) (x y : Swp) (n : Nat) : leastP nr x y n ≤ n := by
  unfold leastP
  have := List.countP_le_length (p := fun r : Nat => !nr x y (r : Int)) (l := List.range n)
  rwa [List.length_range] at this
theorem leastP_far {nr : Swp → Swp → Int → Bool} (hm : MonoN nr) {x y : Swp} {n : Nat} (h : nr x y ((n : Int) - 1) = false) : leastP nr x y n = n := by
  unfold leastP
  rw [List.countP_eq_length.2]
  · simp
  · intro r hr
    rw [List.mem_range] at hr
    cases hq : nr x y (r : Int) with
    | false => rfl
    | true => rw [hm x y r ((n : Int) - 1) (by omega) (by omega) hq] at h; cases h
theorem leastP_iff {nr : Swp → Swp → Int → Bool} (hm : MonoN nr) {x y : Swp} {n r : Nat} (h : r < n) : leastP nr x y n ≤ r ↔ nr x y (r : Int) = true := by
  have key : ∀ t, t ≤ n → (∀ s, s < t → nr x y (s : Int) = false) → (∀ s, t ≤ s → s < n → nr x y (s : Int) = true) → leastP nr x y n = t := fun t ht h1 h2 => count_is ht h1 h2
  have hex : ∃ t, t ≤ n ∧ (∀ s, s < t → nr x y (s : Int) = false) ∧ (∀ s, t ≤ s → s < n → nr x y (s : Int) = true) := by
    clear key h
    induction n with
    | zero => exact ⟨0, Nat.le_refl _, fun s h => by omega, fun s h h2 => by omega⟩
    | succ n ih =>
      obtain ⟨t, ht, h1, h2⟩ := ih
      cases hq : nr x y (n : Int) with
      | true => exact ⟨t, by omega, h1, fun s a b => by
          by_cases e : s = n
          · subst e; exact hq
          · exact h2 s a (by omega)⟩
      | false =>
        refine ⟨n + 1, Nat.le_refl _, ?_, fun s a b => absurd a (by omega)⟩
        intro s a
        cases hs : nr x y (s : Int) with
        | false => rfl
        | true =>
          have h9 := hm x y s n (by omega) (by omega) hs
          rw [hq] at h9
          cases h9
  obtain ⟨t, ht, h1, h2⟩ := hex
  rw [key t ht h1 h2]
  constructor
  · intro hr; exact h2 r hr h
  · intro hr
    by_cases e : t ≤ r
    · exact e
    · rw [h1 r (by omega)] at hr; cases hr
theorem leastR_le (nr : Swp → Swp → Int → Bool) (x : Swp) (b : List SwM) (n : Nat) : leastR nr x b n ≤ n := by
  unfold leastR
  induction b generalizing n with
  | nil => exact Nat.le_refl _
  | cons y b ih => exact Nat.le_trans (ih _) (leastP_le nr x y.s n)
theorem leastR_iff {nr : Swp → Swp → Int → Bool} (hm : MonoN nr) (x : Swp) (b : List SwM) {n r : Nat} : leastR nr x b n ≤ r ↔ n ≤ r ∨ (r < n ∧ ∃ y ∈ b, nr x y.s (r : Int) = true) := by
  unfold leastR
  induction b generalizing n with
  | nil => simp; try omega
  | cons y b ih =>
    rw [List.foldl_cons, ih]
    have hle := leastP_le nr x y.s n
    by_cases h : r < n
    · have hi := leastP_iff hm (x := x) (y := y.s) h
      constructor
      · rintro (h1 | ⟨h1, z, hz, hz2⟩)
        · exact .inr ⟨h, y, by simp, hi.1 h1⟩
        · exact .inr ⟨h, z, by simp [hz], hz2⟩
      · rintro (h1 | ⟨h1, z, hz, hz2⟩)
        · omega
        · rcases List.mem_cons.1 hz with rfl | hz
          · exact .inl (hi.2 hz2)
          · by_cases e : leastP nr x y.s n ≤ r
            · exact .inl e
            · exact .inr ⟨by omega, z, hz, hz2⟩
    · constructor
      · intro _; exact .inl (by omega)
      · intro _; exact .inl (by omega)
theorem leastL_iff {nr : Swp → Swp → Int → Bool} (hm : MonoN nr) (a b : List SwM) {n r : Nat} : leastL nr a b n ≤ r ↔ n ≤ r ∨ (r < n ∧ ∃ x ∈ a, ∃ y ∈ b, nr x.s y.s (r : Int) = true) := by
  unfold leastL
  induction a generalizing n with
  | nil => simp; try omega
  | cons x a ih =>
    rw [List.foldl_cons, ih]
    have hle := leastR_le nr x.s b n
    have hi := leastR_iff hm x.s b (n := n) (r := r)
    constructor
    · rintro (h1 | ⟨h1, z, hz, hz2⟩)
      · rcases hi.1 h1 with h2 | ⟨h2, h3⟩
        · exact .inl h2
        · exact .inr ⟨h2, x, by simp, h3⟩
      · exact .inr ⟨by omega, z, by simp [hz], hz2⟩
    · rintro (h1 | ⟨h1, z, hz, hz2⟩)
      · exact .inl (by omega)
      · rcases List.mem_cons.1 hz with rfl | hz
        · exact .inl (hi.2 (.inr ⟨h1, hz2⟩))
        · by_cases e : leastR nr x.s b n ≤ r
          · exact .inl e
          · exact .inr ⟨by omega, z, hz, hz2⟩
theorem foldl_take {α β : Type} (f : β → α → β) {l : List α} {i : Nat} (h : i < l.length) (n : β) : (l.take (i + 1)).foldl f n = f ((l.take i).foldl f n) l[i] := by
  rw [← List.take_append_getElem h, List.foldl_append]; rfl

set_option maxRecDepth 100000 in
set_option maxHeartbeats 16000000 in
theorem lreach_any (k kr m : Nat) (nr : Swp → Swp → Int → Bool) (a b : List SwM) (A B : Option Addr) (n n2 c c2 : Nat) (w : World) (hk : k = 62 ∨ k = 118 ∨ k = 120 ∨ k = 122) (HN : NearC k nr) (HM : MonoN nr) (HFA : FarN nr)
    (hm : m ≤ 100000) (hn : a.length = n) (hn1 : n ≤ 1000000) (hn2 : b.length = n2) (hn3 : n2 ≤ 1000000)
    (hA : Sl w w.heap.size 13 (fun x cs => cs = fSw x) A a) (hB : Sl w w.heap.size 13 (fun x cs => cs = fSw x) B b) (hXA : ∀ x ∈ a, SwIn w x) (hXB : ∀ x ∈ b, SwIn w x) :
    Calls Tryz.prog 124 #[.slice A n c, .slice B n2 c2, .agg #[.func (.func kr) #[] #[], .func (.func k) #[] #[]], .int .i64 (m : Int)] w fun e w' => e = .returned (.int .i64 ((leastL nr a b (m + 1) : Nat) : Int)) ∧ Below w.heap.size w w' := by
  have hcl := fun p1 p2 p3 i x y w hX hY hi h1 bx by_ => clos139_any k p1 p2 p3 i nr x y w hk HN hX hY hi h1 bx by_
  have HCL := Lib.hid hcl
  have HNC := Lib.hid HN; have HMM := Lib.hid HM; have HFF := Lib.hid HFA
  have hb1 := (Below.refl w.heap.size w).alloc (Nat.le_refl _) (.cells #[.func (.func kr) #[] #[], .func (.func k) #[] #[]] 158)
  have k0 := cell_new1 w #[.func (.func kr) #[] #[], .func (.func k) #[] #[]] 158 0
  have k1 := cell_new1 w #[.func (.func kr) #[] #[], .func (.func k) #[] #[]] 158 1
  have hz : (w.alloc (.cells #[.func (.func kr) #[] #[], .func (.func k) #[] #[]] 158)).heap.size = w.heap.size + 1 := by simp
  obtain ⟨W1, hW1⟩ : ∃ z, w.alloc (.cells #[.func (.func kr) #[] #[], .func (.func k) #[] #[]] 158) = z := ⟨_, rfl⟩
  rw [hW1] at hb1 k0 k1 hz
  have HB1 := Lib.hid hb1
  have HK := Lib.hid (show ∀ wx, Below W1.heap.size W1 wx → wx.cell? ⟨w.heap.size, 1, none⟩ = some (.func (.func k) #[] #[]) from fun wx h => (h.cell (p := ⟨w.heap.size, 1, none⟩) (by simp; omega)).trans k1)
  have HSA := Lib.hid (show ∀ wx, Below W1.heap.size W1 wx → Sl wx wx.heap.size 13 (fun x cs => cs = fSw x) A a from fun wx h => (hA.below (hb1.trans (h.mono (by omega)))).more (fun _ _ h => h) (by have := h.size; omega))
  have HSB := Lib.hid (show ∀ wx, Below W1.heap.size W1 wx → Sl wx wx.heap.size 13 (fun x cs => cs = fSw x) B b from fun wx h => (hB.below (hb1.trans (h.mono (by omega)))).more (fun _ _ h => h) (by have := h.size; omega))
  have HXA := Lib.hid (show ∀ x ∈ a, ∀ wx, Below W1.heap.size W1 wx → SwIn wx x from fun y hy' wx h => (hXA y hy').below (hb1.trans (h.mono (by omega))))
  have HXB := Lib.hid (show ∀ x ∈ b, ∀ wx, Below W1.heap.size W1 wx → SwIn wx x from fun y hy' wx h => (hXB y hy').below (hb1.trans (h.mono (by omega))))
  have HNA := Lib.hid hn; have HNB := Lib.hid hn2
  have HL0 := Lib.hid (show leastL nr a b (m + 1) = a.foldl (fun l x => leastR nr x.s b l) (m + 1) from rfl)
  obtain ⟨ga, hga⟩ : ∃ g : Nat → SwM → Nat, g = fun l x => leastR nr x.s b l := ⟨_, rfl⟩
  rw [← hga] at HL0
  have HGA := Lib.hid (show ∀ (x : SwM) l, ga l x = leastR nr x.s b l from fun x l => by rw [hga])
  have HTA := Lib.hid (show ∀ i (h : i < a.length), (a.take (i + 1)).foldl ga (m + 1) = ga ((a.take i).foldl ga (m + 1)) a[i] from fun i h => foldl_take ga h _)
  clear hcl HN HM HFA hb1 k0 k1 hz hA hB hXA hXB hn hn2 hga
  go_enter Tryz.func124, Tryz.ntmps124
  go_wp2
  clear hW1
  go_loopw [9, 18] (fun s9 s18 wr => ∃ i l : Nat, i ≤ n ∧ s18 = .int .i64 (i : Int) ∧ s9 = .int .i64 (l : Int) ∧ l ≤ 100001 ∧ (a.take i).foldl ga (m + 1) = l ∧ Below W1.heap.size W1 wr) (fun _ s18 _ => n - (intOf s18).toNat)
  case atStart => exact ⟨0, m + 1, Nat.zero_le _, rfl, by go_num, by omega, rfl, Below.refl _ _⟩
  case round =>
    obtain ⟨i, l, hi, rfl, rfl, hl, hfo, hb⟩ := hrel
    obtain ⟨wb, rfl⟩ : ∃ z, z = wr := ⟨_, rfl⟩
    have HFO := Lib.hid hfo; have HB := Lib.hid hb
    clear hfo hb
    by_cases hin : i < n
    · have hil : i < a.length := by rw [HNA.out]; exact hin
      obtain ⟨b0, o, eA, hbk, hcs⟩ := sw_at (HSA.out wb HB.out) hil
      obtain ⟨x, hxl⟩ : ∃ z, a[i] = z := ⟨_, rfl⟩
      rw [hxl] at hcs
      have hxm : x ∈ a := by rw [← hxl]; exact List.getElem_mem hil
      have HXI := Lib.hid (HXA.out x hxm)
      have HTK := Lib.hid (show (a.take (i + 1)).foldl ga (m + 1) = b.foldl (fun l y => leastP nr x.s y.s l) l from by rw [HTA.out i hil, HFO.out, hxl, HGA.out]; rfl)
      obtain ⟨gb, hgb⟩ : ∃ g : Nat → SwM → Nat, g = fun l y => leastP nr x.s y.s l := ⟨_, rfl⟩
      rw [← hgb] at HTK
      have HGB := Lib.hid (show ∀ (y : SwM) l, gb l y = leastP nr x.s y.s l from fun x l => by rw [hgb])
      have HTB := Lib.hid (show ∀ j (h : j < b.length), (b.take (j + 1)).foldl gb l = gb ((b.take j).foldl gb l) b[j] from fun i h => foldl_take gb h _)
      have q0 := hcs 0 _ rfl
      rw [Nat.add_zero] at q0
      have q1 := hcs 1 _ rfl
      have q2 := hcs 2 _ rfl
      have q3 := hcs 3 _ rfl
      have q4 := hcs 4 _ rfl
      have q5 := hcs 5 _ rfl
      have q6 := hcs 6 _ rfl
      have q7 := hcs 7 _ rfl
      have q8 := hcs 8 _ rfl
      have q9 := hcs 9 _ rfl
      have q10 := hcs 10 _ rfl
      have q11 := hcs 11 _ rfl
      have q12 := hcs 12 _ rfl
      have hbe := (Below.refl wb.heap.size wb).alloc (Nat.le_refl _) (.cells #[.int .i64 x.s.rail, .int .i64 x.s.seg, .int .i64 x.s.a.x, .int .i64 x.s.a.y, .int .i64 x.s.b.x, .int .i64 x.s.b.y, .int .i64 x.s.bg, .int .i64 x.s.en, .slice x.A x.s.bends.length x.c, .int .i64 (min x.s.a.x x.s.b.x), .int .i64 (min x.s.a.y x.s.b.y), .int .i64 (max x.s.a.x x.s.b.x), .int .i64 (max x.s.a.y x.s.b.y)] 98)
      have hbx := Bx.new wb x
      have hsz : (wb.alloc (.cells #[.int .i64 x.s.rail, .int .i64 x.s.seg, .int .i64 x.s.a.x, .int .i64 x.s.a.y, .int .i64 x.s.b.x, .int .i64 x.s.b.y, .int .i64 x.s.bg, .int .i64 x.s.en, .slice x.A x.s.bends.length x.c, .int .i64 (min x.s.a.x x.s.b.x), .int .i64 (min x.s.a.y x.s.b.y), .int .i64 (max x.s.a.x x.s.b.x), .int .i64 (max x.s.a.y x.s.b.y)] 98)).heap.size = wb.heap.size + 1 := by simp
      obtain ⟨W2, hW2⟩ : ∃ z, wb.alloc (.cells #[.int .i64 x.s.rail, .int .i64 x.s.seg, .int .i64 x.s.a.x, .int .i64 x.s.a.y, .int .i64 x.s.b.x, .int .i64 x.s.b.y, .int .i64 x.s.bg, .int .i64 x.s.en, .slice x.A x.s.bends.length x.c, .int .i64 (min x.s.a.x x.s.b.x), .int .i64 (min x.s.a.y x.s.b.y), .int .i64 (max x.s.a.x x.s.b.x), .int .i64 (max x.s.a.y x.s.b.y)] 98) = z := ⟨_, rfl⟩
      rw [hW2] at hbe hbx hsz
      have HBE := Lib.hid (HB.out.trans (hbe.mono HB.out.size))
      have HBX := Lib.hid (show ∀ wx, Below W2.heap.size W2 wx → Bx wb.heap.size x wx from fun wx h => hbx.keep h (by omega))
      have i0 : (0 : Int) ≤ (i : Int) := by omega
      have i1 : (i : Int) < (n : Int) := by omega
      subst eA
      clear hcs hxl hxm hbe hbx hgb
      go_wp2
      clear hW2 q0 q1 q2 q3 q4 q5 q6 q7 q8 q9 q10 q11 q12
      go_loopw [9, 24] (fun s9 s24 wr => ∃ j l2 : Nat, j ≤ n2 ∧ s24 = .int .i64 (j : Int) ∧ s9 = .int .i64 (l2 : Int) ∧ l2 ≤ 100001 ∧ (b.take j).foldl gb l = l2 ∧ Below W2.heap.size W2 wr) (fun _ s24 _ => n2 - (intOf s24).toNat)
      case atStart => exact ⟨0, l, Nat.zero_le _, rfl, rfl, hl, rfl, Below.refl _ _⟩
      case round =>
        obtain ⟨j, l2, hj, rfl, rfl, hl2, hfo2, hb⟩ := hrel
        obtain ⟨wc, rfl⟩ : ∃ z, z = wr := ⟨_, rfl⟩
        have HFO2 := Lib.hid hfo2; have HC := Lib.hid hb
        have HBC := Lib.hid (HBE.out.trans (hb.mono HBE.out.size))
        have hzr := hb.size
        clear hfo2 hb
        by_cases hjn : j < n2
        · have hjl : j < b.length := by rw [HNB.out]; exact hjn
          obtain ⟨b2, o2, eB, hbk2, hcs⟩ := sw_at (HSB.out wc HBC.out) hjl
          obtain ⟨y, hyl⟩ : ∃ z, b[j] = z := ⟨_, rfl⟩
          rw [hyl] at hcs
          have hym : y ∈ b := by rw [← hyl]; exact List.getElem_mem hjl
          have HYI := Lib.hid (HXB.out y hym)
          have HTJ := Lib.hid (show (b.take (j + 1)).foldl gb l = leastP nr x.s y.s l2 from by rw [HTB.out j hjl, HFO2.out, hyl, HGB.out])
          have q0 := hcs 0 _ rfl
          rw [Nat.add_zero] at q0
          have q1 := hcs 1 _ rfl
          have q2 := hcs 2 _ rfl
          have q3 := hcs 3 _ rfl
          have q4 := hcs 4 _ rfl
          have q5 := hcs 5 _ rfl
          have q6 := hcs 6 _ rfl
          have q7 := hcs 7 _ rfl
          have q8 := hcs 8 _ rfl
          have q9 := hcs 9 _ rfl
          have q10 := hcs 10 _ rfl
          have q11 := hcs 11 _ rfl
          have q12 := hcs 12 _ rfl
          have hbe := (Below.refl wc.heap.size wc).alloc (Nat.le_refl _) (.cells #[.int .i64 y.s.rail, .int .i64 y.s.seg, .int .i64 y.s.a.x, .int .i64 y.s.a.y, .int .i64 y.s.b.x, .int .i64 y.s.b.y, .int .i64 y.s.bg, .int .i64 y.s.en, .slice y.A y.s.bends.length y.c, .int .i64 (min y.s.a.x y.s.b.x), .int .i64 (min y.s.a.y y.s.b.y), .int .i64 (max y.s.a.x y.s.b.x), .int .i64 (max y.s.a.y y.s.b.y)] 98)
          have hby := Bx.new wc y
          have hsz2 : (wc.alloc (.cells #[.int .i64 y.s.rail, .int .i64 y.s.seg, .int .i64 y.s.a.x, .int .i64 y.s.a.y, .int .i64 y.s.b.x, .int .i64 y.s.b.y, .int .i64 y.s.bg, .int .i64 y.s.en, .slice y.A y.s.bends.length y.c, .int .i64 (min y.s.a.x y.s.b.x), .int .i64 (min y.s.a.y y.s.b.y), .int .i64 (max y.s.a.x y.s.b.x), .int .i64 (max y.s.a.y y.s.b.y)] 98)).heap.size = wc.heap.size + 1 := by simp
          obtain ⟨W3, hW3⟩ : ∃ z, wc.alloc (.cells #[.int .i64 y.s.rail, .int .i64 y.s.seg, .int .i64 y.s.a.x, .int .i64 y.s.a.y, .int .i64 y.s.b.x, .int .i64 y.s.b.y, .int .i64 y.s.bg, .int .i64 y.s.en, .slice y.A y.s.bends.length y.c, .int .i64 (min y.s.a.x y.s.b.x), .int .i64 (min y.s.a.y y.s.b.y), .int .i64 (max y.s.a.x y.s.b.x), .int .i64 (max y.s.a.y y.s.b.y)] 98) = z := ⟨_, rfl⟩
          rw [hW3] at hbe hby hsz2
          have HQ3 := Lib.hid (HC.out.trans (hbe.mono hzr))
          have HBD := Lib.hid (HBE.out.trans (HQ3.out.mono HBE.out.size))
          have HBY := Lib.hid (show ∀ wx, Below W3.heap.size W3 wx → Bx wc.heap.size y wx from fun wx h => hby.keep h (by omega))
          have j0 : (0 : Int) ≤ (j : Int) := by omega
          have j1 : (j : Int) < (n2 : Int) := by omega
          subst eB
          have bX := HBX.out W3 HQ3.out
          have bY := HBY.out W3 (Below.refl _ _)
          have f0 := bX 0 _ rfl
          have f1 := bX 1 _ rfl
          have f2 := bX 2 _ rfl
          have f3 := bX 3 _ rfl
          have f4 := bX 4 _ rfl
          have f5 := bX 5 _ rfl
          have f6 := bX 6 _ rfl
          have f7 := bX 7 _ rfl
          have f8 := bX 8 _ rfl
          have f9 := bX 9 _ rfl
          have f10 := bX 10 _ rfl
          have f11 := bX 11 _ rfl
          have f12 := bX 12 _ rfl
          have g0 := bY 0 _ rfl
          have g1 := bY 1 _ rfl
          have g2 := bY 2 _ rfl
          have g3 := bY 3 _ rfl
          have g4 := bY 4 _ rfl
          have g5 := bY 5 _ rfl
          have g6 := bY 6 _ rfl
          have g7 := bY 7 _ rfl
          have g8 := bY 8 _ rfl
          have g9 := bY 9 _ rfl
          have g10 := bY 10 _ rfl
          have g11 := bY 11 _ rfl
          have g12 := bY 12 _ rfl
          clear hcs hyl hym hbe hby bX bY
          by_cases hl0 : l2 = 0
          · subst hl0
            have HJ := Lib.hid (show (b.take (j + 1)).foldl gb l = 0 from HTJ.out)
            go_wp2
            clear hW3 q0 q1 q2 q3 q4 q5 q6 q7 q8 q9 q10 q11 q12 f0 f1 f2 f3 f4 f5 f6 f7 f8 f9 f10 f11 f12 g0 g1 g2 g3 g4 g5 g6 g7 g8 g9 g10 g11 g12
            go_roundw
            case rel => exact ⟨j + 1, 0, by omega, by go_num, rfl, by omega, HJ.out, HQ3.out⟩
            case measure => simp [intOf]; omega
          · have l0 : (0 : Int) < (l2 : Int) := by omega
            have hlm : 0 ≤ (l2 : Int) - 1 := by omega
            have hwl : IntKind.i64.wrap ((l2 : Int) - 1) = (l2 : Int) - 1 := by rw [IntKind.wrap_i64]; omega
            have HFAR := Lib.hid (far_any x y ((l2 : Int) - 1) W3 (HXI.out W3 HBD.out).ok (HYI.out W3 HBD.out).ok)
            have HFV := Lib.hid (show farB x.s y.s ((l2 : Int) - 1) = true → leastP nr x.s y.s l2 = l2 from fun h => leastP_far HMM.out (HFF.out x y _ W3 (HXI.out W3 HBD.out) (HYI.out W3 HBD.out) (by omega) h))
            have HNV := Lib.hid (show nr x.s y.s ((l2 : Int) - 1) = false → leastP nr x.s y.s l2 = l2 from fun h => leastP_far HMM.out h)
            have HNEAR := Lib.hid (fun wx (h : Below W1.heap.size W1 wx) => HNC.out x y ((l2 : Int) - 1) wx (HXI.out wx h) (HYI.out wx h) (by omega) (by omega))
            obtain ⟨fa, hfa⟩ : ∃ z, farB x.s y.s ((l2 : Int) - 1) = z := ⟨_, rfl⟩
            obtain ⟨ne, hne⟩ : ∃ z, nr x.s y.s ((l2 : Int) - 1) = z := ⟨_, rfl⟩
            rw [hfa] at HFAR HFV
            rw [hne] at HNEAR HNV
            rw [show (fSw x).toArray = #[.int .i64 x.s.rail, .int .i64 x.s.seg, .int .i64 x.s.a.x, .int .i64 x.s.a.y, .int .i64 x.s.b.x, .int .i64 x.s.b.y, .int .i64 x.s.bg, .int .i64 x.s.en, .slice x.A x.s.bends.length x.c, .int .i64 (min x.s.a.x x.s.b.x), .int .i64 (min x.s.a.y x.s.b.y), .int .i64 (max x.s.a.x x.s.b.x), .int .i64 (max x.s.a.y x.s.b.y)] from rfl, show (fSw y).toArray = #[.int .i64 y.s.rail, .int .i64 y.s.seg, .int .i64 y.s.a.x, .int .i64 y.s.a.y, .int .i64 y.s.b.x, .int .i64 y.s.b.y, .int .i64 y.s.bg, .int .i64 y.s.en, .slice y.A y.s.bends.length y.c, .int .i64 (min y.s.a.x y.s.b.x), .int .i64 (min y.s.a.y y.s.b.y), .int .i64 (max y.s.a.x y.s.b.x), .int .i64 (max y.s.a.y y.s.b.y)] from rfl] at HFAR HNEAR
            have hkk := HK.out W3 HBD.out
            clear hfa hne
            cases fa with
            | true =>
              have HJ := Lib.hid (show (b.take (j + 1)).foldl gb l = l2 from HTJ.out.trans (HFV.out rfl))
              go_wp2_with fail
              (with_reducible refine HFAR.out.mono ?_)
              rintro e w6 ⟨rfl, hb6⟩
              have HQ6 := Lib.hid (HQ3.out.trans (hb6.mono HQ3.out.size))
              clear hW3 hb6 q0 q1 q2 q3 q4 q5 q6 q7 q8 q9 q10 q11 q12 f0 f1 f2 f3 f4 f5 f6 f7 f8 f9 f10 f11 f12 g0 g1 g2 g3 g4 g5 g6 g7 g8 g9 g10 g11 g12 hkk
              go_wp2
              go_roundw
              case rel => exact ⟨j + 1, l2, by omega, by go_num, rfl, hl2, HJ.out, HQ6.out⟩
              case measure => simp [intOf]; omega
            | false =>
              go_wp2_with fail
              (with_reducible refine HFAR.out.mono ?_)
              rintro e w6 ⟨rfl, hb6⟩
              have HQ6 := Lib.hid (HQ3.out.trans (hb6.mono HQ3.out.size))
              have HW6 := Lib.hid (hb6)
              clear hW3 hb6 q0 q1 q2 q3 q4 q5 q6 q7 q8 q9 q10 q11 q12 f0 f1 f2 f3 f4 f5 f6 f7 f8 f9 f10 f11 f12 g0 g1 g2 g3 g4 g5 g6 g7 g8 g9 g10 g11 g12 hkk
              have HBF := Lib.hid (HBE.out.trans (HQ6.out.mono HBE.out.size))
              have hkk := HK.out w6 HBF.out
              have bX := HBX.out w6 HQ6.out
              have bY := HBY.out w6 HW6.out
              have f0 := bX 0 _ rfl
              have f1 := bX 1 _ rfl
              have f2 := bX 2 _ rfl
              have f3 := bX 3 _ rfl
              have f4 := bX 4 _ rfl
              have f5 := bX 5 _ rfl
              have f6 := bX 6 _ rfl
              have f7 := bX 7 _ rfl
              have f8 := bX 8 _ rfl
              have f9 := bX 9 _ rfl
              have f10 := bX 10 _ rfl
              have f11 := bX 11 _ rfl
              have f12 := bX 12 _ rfl
              have g0 := bY 0 _ rfl
              have g1 := bY 1 _ rfl
              have g2 := bY 2 _ rfl
              have g3 := bY 3 _ rfl
              have g4 := bY 4 _ rfl
              have g5 := bY 5 _ rfl
              have g6 := bY 6 _ rfl
              have g7 := bY 7 _ rfl
              have g8 := bY 8 _ rfl
              have g9 := bY 9 _ rfl
              have g10 := bY 10 _ rfl
              have g11 := bY 11 _ rfl
              have g12 := bY 12 _ rfl
              have HNE := Lib.hid (HNEAR.out w6 HBF.out)
              clear bX bY
              rcases hk with rfl | rfl | rfl | rfl
              all_goals
                cases ne with
                | false =>
                  have HJ := Lib.hid (show (b.take (j + 1)).foldl gb l = l2 from HTJ.out.trans (HNV.out rfl))
                  go_wp2_with fail
                  (with_reducible refine HNE.out.mono ?_)
                  rintro e w7 ⟨rfl, hb7⟩
                  have HQ7 := Lib.hid (HQ6.out.trans (hb7.mono HQ6.out.size))
                  clear hb7 hkk f0 f1 f2 f3 f4 f5 f6 f7 f8 f9 f10 f11 f12 g0 g1 g2 g3 g4 g5 g6 g7 g8 g9 g10 g11 g12
                  go_wp2
                  go_roundw
                  case rel => exact ⟨j + 1, l2, by omega, by go_num, rfl, hl2, HJ.out, HQ7.out⟩
                  case measure => simp [intOf]; omega
                | true =>
                  go_wp2_with fail
                  (with_reducible refine HNE.out.mono ?_)
                  rintro e w7 ⟨rfl, hb7⟩
                  have HQ7 := Lib.hid (HQ6.out.trans (hb7.mono HQ6.out.size))
                  have HW7 := Lib.hid (HW6.out.trans (hb7.mono HW6.out.size))
                  have HBG := Lib.hid (HBE.out.trans (HQ7.out.mono HBE.out.size))
                  have HSE := Lib.hid (search3_any ⟨w.heap.size, 0, none⟩ ⟨wb.heap.size, 0, none⟩ ⟨wc.heap.size, 0, none⟩ l2 (fun i => nr x.s y.s (i : Int)) w7 (by omega)
                    (fun wx i hb hi => HCL.out w.heap.size wb.heap.size wc.heap.size i x y wx (HXI.out wx (HBG.out.trans (hb.mono HBG.out.size))) (HYI.out wx (HBG.out.trans (hb.mono HBG.out.size))) (by omega) (HK.out wx (HBG.out.trans (hb.mono HBG.out.size))) (HBX.out wx (HQ7.out.trans (hb.mono HQ7.out.size))) (HBY.out wx (HW7.out.trans (hb.mono HW7.out.size))))
                    (fun a b hab _ ha => HMM.out x.s y.s a b (by omega) (by omega) ha))
                  have HLE := Lib.hid (leastP_le nr x.s y.s l2)
                  have hce : (List.range l2).countP (fun i : Nat => !nr x.s y.s (i : Int)) = leastP nr x.s y.s l2 := rfl
                  rw [hce] at HSE
                  obtain ⟨v, hv⟩ : ∃ z, leastP nr x.s y.s l2 = z := ⟨_, rfl⟩
                  rw [hv] at HSE HLE
                  have HJ := Lib.hid (show (b.take (j + 1)).foldl gb l = v from HTJ.out.trans hv)
                  clear hb7 hkk hce hv f0 f1 f2 f3 f4 f5 f6 f7 f8 f9 f10 f11 f12 g0 g1 g2 g3 g4 g5 g6 g7 g8 g9 g10 g11 g12
                  go_wp2_with fail
                  (with_reducible refine HSE.out.mono ?_)
                  rintro e w8 ⟨rfl, hb8⟩
                  have HQ8 := Lib.hid (HQ7.out.trans (hb8.mono HQ7.out.size))
                  clear hb8
                  go_wp2
                  go_roundw
                  case rel => exact ⟨j + 1, v, by omega, by go_num, rfl, by have := HLE.out; omega, HJ.out, HQ8.out⟩
                  case measure => simp [intOf]; omega
        · have hnl : n2 ≤ j := by omega
          have HD := Lib.hid (show (a.take (i + 1)).foldl ga (m + 1) = l2 by
            have h5 := HFO2.out
            rw [List.take_of_length_le (by rw [HNB.out]; exact hnl)] at h5
            rw [HTK.out, h5])
          go_wp2
          go_roundw
          case rel => exact ⟨i + 1, l2, by omega, by go_num, rfl, hl2, HD.out, HBC.out⟩
          case measure => simp [intOf]; omega
    · have hnl : n ≤ i := by omega
      have HD := Lib.hid (show leastL nr a b (m + 1) = l by
        have h5 := HFO.out
        rw [List.take_of_length_le (by rw [HNA.out]; exact hnl)] at h5
        rw [HL0.out, h5])
      go_wp2
      try rw [Exit.noGoto_ret]
      go_ret
      exact ⟨by rw [HD.out]; rfl, HB1.out.trans (HB.out.mono HB1.out.size)⟩
end Go.Proofs.YtekambdnmaompaaGreat.SW

namespace Go.Proofs.YtekambdnmaompaaGreat.SW
set_option linter.unusedVariables false
set_option linter.unusedSimpArgs false
open Go.RowKit
def bendsC (x y : Swp) (r : Int) : Bool := bendsB y x r
theorem below_up {z : Sp} (hu : 0 ≤ z.under) {a b : Int} (h0 : 0 ≤ a) (hab : a ≤ b) (h : z.below a false = true) : z.below b false = true :=
  (below_iff z b).2 (Int.le_trans ((below_iff z a).1 h) (sq_step h0 hab hu))
theorem mono0 : MonoN sidesB := by
  intro x y a b h0 hab h
  unfold sidesB at h ⊢
  rw [Bool.or_eq_true] at h ⊢
  rcases h with h | h
  · exact .inl h
  · right
    obtain ⟨z, hz, hb⟩ := List.any_eq_true.1 h
    refine List.any_eq_true.2 ⟨z, hz, below_up ?_ h0 hab hb⟩
    simp only [seps, List.mem_cons, List.not_mem_nil, or_false] at hz
    rcases hz with rfl | rfl | rfl | rfl <;> exact sepSeg_nn _ _ _
theorem mono1 : MonoN bendsB := by
  intro x y a b h0 hab h
  unfold bendsB at h ⊢
  obtain ⟨z, hz, hb⟩ := List.any_eq_true.1 h
  exact List.any_eq_true.2 ⟨z, hz, below_up (sepSeg_nn _ _ _) h0 hab hb⟩
theorem mono2 : MonoN bendsC := fun x y a b h0 hab h => mono1 y x a b h0 hab h
theorem mono3 : MonoN bothB := by
  intro x y a b h0 hab h
  unfold bothB at h ⊢
  obtain ⟨z, hz, hb⟩ := List.any_eq_true.1 h
  obtain ⟨u, hu, hb2⟩ := List.any_eq_true.1 hb
  exact List.any_eq_true.2 ⟨z, hz, List.any_eq_true.2 ⟨u, hu, below_up (by show (0 : Int) ≤ 1; omega) h0 hab hb2⟩⟩
theorem near0 : NearC 62 sidesB := fun x y r w hX hY h0 h1 => sides_any x y r w hX.ok hY.ok h0 h1
theorem near1 : NearC 118 bendsB := fun x y r w hX hY h0 h1 => bends_any x y r w hX.ok hY.ok hX.sl hX.le h0 h1
theorem near2 : NearC 120 bendsC := fun x y r w hX hY h0 h1 => test4_any x y r w hX.ok hY.ok hY.sl hY.le h0 h1
theorem near3 : NearC 122 bothB := fun x y r w hX hY h0 h1 => both_any x y r w hX.ok hY.ok hX.sl hX.le hY.sl hY.le h0 h1
theorem far0 : FarN sidesB := fun x y r w hX hY h0 h => far_sides h0 h
theorem far1 : FarN bendsB := fun x y r w hX hY h0 h => far_bends hX.ok.bends h0 h
theorem far2 : FarN bendsC := fun x y r w hX hY h0 h => far_bends hY.ok.bends h0 (by rw [farB_symm]; exact h)
theorem far3 : FarN bothB := fun x y r w hX hY h0 h => far_both hX.ok.bends hY.ok.bends h0 h
/-- a row of four ints -/
def Ro (w : World) (b : Nat) (t : TypeId) (x0 x1 x2 x3 : Int) : Prop := w.heap[b]? = some (.cells #[.int .i64 x0, .int .i64 x1, .int .i64 x2, .int .i64 x3] t (0, 0))
theorem Ro.cell {w : World} {b : Nat} {t : TypeId} {x0 x1 x2 x3 : Int} (h : Ro w b t x0 x1 x2 x3) (i : Nat) : w.cell? ⟨b, i, none⟩ = #[Value.int .i64 x0, .int .i64 x1, .int .i64 x2, .int .i64 x3][i]? := cell_of_row _ b i _ t (0, 0) h
theorem Ro.frozen {w : World} {b : Nat} {t : TypeId} {x0 x1 x2 x3 : Int} (h : Ro w b t x0 x1 x2 x3) (i : Nat) : w.frozen? ⟨b, i, none⟩ = false := by
  unfold Ro at h
  simp [World.frozen?, h]
theorem Ro.lt {w : World} {b : Nat} {t : TypeId} {x0 x1 x2 x3 : Int} (h : Ro w b t x0 x1 x2 x3) : b < w.heap.size := (Array.getElem?_eq_some_iff.1 h).1
theorem Ro.of {w w' : World} {b : Nat} {t : TypeId} {x0 x1 x2 x3 : Int} (h : Ro w b t x0 x1 x2 x3) (e : w'.heap[b]? = w.heap[b]?) : Ro w' b t x0 x1 x2 x3 := e.trans h
theorem Ro.below {w w' : World} {b B : Nat} {t : TypeId} {x0 x1 x2 x3 : Int} (h : Ro w b t x0 x1 x2 x3) (hb : Below B w w') (hB : b < B) : Ro w' b t x0 x1 x2 x3 := h.of (hb.block b hB)
theorem Ro.other {w : World} {b : Nat} {t : TypeId} {x0 x1 x2 x3 : Int} (h : Ro w b t x0 x1 x2 x3) {p : Addr} (u : Value) (hp : b ≠ p.block) : Ro (w.setCell p u) b t x0 x1 x2 x3 := h.of (Below.heap_setCell w p u b hp)
theorem Ro.new (w : World) (t : TypeId) (x0 x1 x2 x3 : Int) : Ro (w.alloc (.cells #[.int .i64 x0, .int .i64 x1, .int .i64 x2, .int .i64 x3] t)) w.heap.size t x0 x1 x2 x3 := by
  unfold Ro
  rw [heap_alloc_new]
theorem Ro.set0 {w : World} {b : Nat} {t : TypeId} {x0 x1 x2 x3 : Int} (h : Ro w b t x0 x1 x2 x3) (y : Int) : Ro (w.setCell ⟨b, 0, none⟩ (.int .i64 y)) b t y x1 x2 x3 := by
  unfold Ro
  rw [heap_set_same _ h]; rfl
theorem Ro.set1 {w : World} {b : Nat} {t : TypeId} {x0 x1 x2 x3 : Int} (h : Ro w b t x0 x1 x2 x3) (y : Int) : Ro (w.setCell ⟨b, 1, none⟩ (.int .i64 y)) b t x0 y x2 x3 := by
  unfold Ro
  rw [heap_set_same _ h]; rfl
theorem Ro.set2 {w : World} {b : Nat} {t : TypeId} {x0 x1 x2 x3 : Int} (h : Ro w b t x0 x1 x2 x3) (y : Int) : Ro (w.setCell ⟨b, 2, none⟩ (.int .i64 y)) b t x0 x1 y x3 := by
  unfold Ro
  rw [heap_set_same _ h]; rfl
theorem Ro.set3 {w : World} {b : Nat} {t : TypeId} {x0 x1 x2 x3 : Int} (h : Ro w b t x0 x1 x2 x3) (y : Int) : Ro (w.setCell ⟨b, 3, none⟩ (.int .i64 y)) b t x0 x1 x2 y := by
  unfold Ro
  rw [heap_set_same _ h]; rfl
theorem Ts.other {g : Nat} {w : World} (h : Ts g w) {p : Addr} (u : Value) (hp : g ≠ p.block) : Ts g (w.setCell p u) := by
  obtain ⟨h0, h1, h2, h3, h4, h5, h6, h7⟩ := h
  have e' : ∀ i : Nat, p ≠ (⟨g, i, none⟩ : Addr) := fun i c => hp (by rw [c])
  refine ⟨?_, ?_, ?_, ?_, ?_, ?_, ?_, ?_⟩ <;> rw [World.cell?_setCell_other (h := e' _)] <;> assumption
set_option maxHeartbeats 1000000 in
theorem tests2_any (w : World) : Calls Tryz.prog 91 #[] w fun e w' => (e = .returned (.slice (some ⟨w.heap.size, 0, none⟩) 4 4) ∧ Ts w.heap.size w' ∧ w'.heap.size = w.heap.size + 1) ∧ Below w.heap.size w w' := by
  go_enter Tryz.func91, Tryz.ntmps91
  go_wp2
  go_ret
  have c0 := fun i => cell_new1 w #[.func (.func 116) #[] #[], .func (.func 62) #[] #[], .func (.func 117) #[] #[], .func (.func 118) #[] #[], .func (.func 119) #[] #[], .func (.func 120) #[] #[], .func (.func 121) #[] #[], .func (.func 122) #[] #[]] 158 i
  exact ⟨⟨rfl, ⟨c0 0, c0 1, c0 2, c0 3, c0 4, c0 5, c0 6, c0 7⟩, by simp⟩, (Below.refl _ w).alloc (Nat.le_refl _) _⟩
theorem set4_read {w : World} {k : Nat} {a b c d x y z u : Value} (h0 : w.cell? ⟨k, 0, none⟩ = some a) (h1 : w.cell? ⟨k, 1, none⟩ = some b) (h2 : w.cell? ⟨k, 2, none⟩ = some c) (h3 : w.cell? ⟨k, 3, none⟩ = some d) :
    ((((w.setCell ⟨k, 0, none⟩ x).setCell ⟨k, 1, none⟩ y).setCell ⟨k, 2, none⟩ z).setCell ⟨k, 3, none⟩ u).cell? ⟨k, 0, none⟩ = some x ∧ ((((w.setCell ⟨k, 0, none⟩ x).setCell ⟨k, 1, none⟩ y).setCell ⟨k, 2, none⟩ z).setCell ⟨k, 3, none⟩ u).cell? ⟨k, 1, none⟩ = some y ∧ ((((w.setCell ⟨k, 0, none⟩ x).setCell ⟨k, 1, none⟩ y).setCell ⟨k, 2, none⟩ z).setCell ⟨k, 3, none⟩ u).cell? ⟨k, 2, none⟩ = some z ∧ ((((w.setCell ⟨k, 0, none⟩ x).setCell ⟨k, 1, none⟩ y).setCell ⟨k, 2, none⟩ z).setCell ⟨k, 3, none⟩ u).cell? ⟨k, 3, none⟩ = some u :=
  ⟨by simp [go_sem, h0], by simp [go_sem, h1], by simp [go_sem, h2], by simp [go_sem, h3]⟩
set_option maxRecDepth 100000 in
set_option maxHeartbeats 16000000 in
theorem measure_any (a b : List SwM) (A B : Option Addr) (n n2 c c2 m0 m1 m2 m3 : Nat) (w : World)
    (h0 : m0 ≤ 100000) (h1 : m1 ≤ 100000) (h2 : m2 ≤ 100000) (h3 : m3 ≤ 100000) (hn : a.length = n) (hn1 : n ≤ 1000000) (hn2 : b.length = n2) (hn3 : n2 ≤ 1000000)
    (hA : Sl w w.heap.size 13 (fun x cs => cs = fSw x) A a) (hB : Sl w w.heap.size 13 (fun x cs => cs = fSw x) B b) (hXA : ∀ x ∈ a, SwIn w x) (hXB : ∀ x ∈ b, SwIn w x) :
    Calls Tryz.prog 95 #[.slice A n c, .slice B n2 c2, .agg #[.int .i64 (m0 : Int), .int .i64 (m1 : Int), .int .i64 (m2 : Int), .int .i64 (m3 : Int)]] w fun e w' => e = .returned (.agg #[.int .i64 ((leastL sidesB a b (m0 + 1) : Nat) : Int), .int .i64 ((leastL bendsB a b (m1 + 1) : Nat) : Int), .int .i64 ((leastL bendsC a b (m2 + 1) : Nat) : Int), .int .i64 ((leastL bothB a b (m3 + 1) : Nat) : Int)]) ∧ Below w.heap.size w w' := by
  have HL0 := Lib.hid (show ∀ wx, Below w.heap.size w wx → Calls Tryz.prog 124 #[.slice A n c, .slice B n2 c2, .agg #[.func (.func 116) #[] #[], .func (.func 62) #[] #[]], .int .i64 (m0 : Int)] wx fun e w' => e = .returned (.int .i64 ((leastL sidesB a b (m0 + 1) : Nat) : Int)) ∧ Below wx.heap.size wx w' from fun wx h => lreach_any 62 116 m0 sidesB a b A B n n2 c c2 wx (by omega) near0 mono0 far0 h0 hn hn1 hn2 hn3 ((hA.below h).more (fun _ _ h => h) h.size) ((hB.below h).more (fun _ _ h => h) h.size) (fun x hx => (hXA x hx).below h) (fun x hx => (hXB x hx).below h))
  obtain ⟨v0, hv0⟩ : ∃ z, leastL sidesB a b (m0 + 1) = z := ⟨_, rfl⟩
  rw [hv0] at HL0 ⊢
  have HL1 := Lib.hid (show ∀ wx, Below w.heap.size w wx → Calls Tryz.prog 124 #[.slice A n c, .slice B n2 c2, .agg #[.func (.func 117) #[] #[], .func (.func 118) #[] #[]], .int .i64 (m1 : Int)] wx fun e w' => e = .returned (.int .i64 ((leastL bendsB a b (m1 + 1) : Nat) : Int)) ∧ Below wx.heap.size wx w' from fun wx h => lreach_any 118 117 m1 bendsB a b A B n n2 c c2 wx (by omega) near1 mono1 far1 h1 hn hn1 hn2 hn3 ((hA.below h).more (fun _ _ h => h) h.size) ((hB.below h).more (fun _ _ h => h) h.size) (fun x hx => (hXA x hx).below h) (fun x hx => (hXB x hx).below h))
  obtain ⟨v1, hv1⟩ : ∃ z, leastL bendsB a b (m1 + 1) = z := ⟨_, rfl⟩
  rw [hv1] at HL1 ⊢
  have HL2 := Lib.hid (show ∀ wx, Below w.heap.size w wx → Calls Tryz.prog 124 #[.slice A n c, .slice B n2 c2, .agg #[.func (.func 119) #[] #[], .func (.func 120) #[] #[]], .int .i64 (m2 : Int)] wx fun e w' => e = .returned (.int .i64 ((leastL bendsC a b (m2 + 1) : Nat) : Int)) ∧ Below wx.heap.size wx w' from fun wx h => lreach_any 120 119 m2 bendsC a b A B n n2 c c2 wx (by omega) near2 mono2 far2 h2 hn hn1 hn2 hn3 ((hA.below h).more (fun _ _ h => h) h.size) ((hB.below h).more (fun _ _ h => h) h.size) (fun x hx => (hXA x hx).below h) (fun x hx => (hXB x hx).below h))
  obtain ⟨v2, hv2⟩ : ∃ z, leastL bendsC a b (m2 + 1) = z := ⟨_, rfl⟩
  rw [hv2] at HL2 ⊢
  have HL3 := Lib.hid (show ∀ wx, Below w.heap.size w wx → Calls Tryz.prog 124 #[.slice A n c, .slice B n2 c2, .agg #[.func (.func 121) #[] #[], .func (.func 122) #[] #[]], .int .i64 (m3 : Int)] wx fun e w' => e = .returned (.int .i64 ((leastL bothB a b (m3 + 1) : Nat) : Int)) ∧ Below wx.heap.size wx w' from fun wx h => lreach_any 122 121 m3 bothB a b A B n n2 c c2 wx (by omega) near3 mono3 far3 h3 hn hn1 hn2 hn3 ((hA.below h).more (fun _ _ h => h) h.size) ((hB.below h).more (fun _ _ h => h) h.size) (fun x hx => (hXA x hx).below h) (fun x hx => (hXB x hx).below h))
  obtain ⟨v3, hv3⟩ : ∃ z, leastL bothB a b (m3 + 1) = z := ⟨_, rfl⟩
  rw [hv3] at HL3 ⊢
  have hb1 := (((Below.refl _ w).alloc (Nat.le_refl _) (.cells #[.int .i64 (m0 : Int), .int .i64 (m1 : Int), .int .i64 (m2 : Int), .int .i64 (m3 : Int)] 160)).alloc (by simp) (.cells #[.int .i64 0, .int .i64 0, .int .i64 0, .int .i64 0] 164)).alloc (by simp; omega) (.cells #[.int .i64 0, .int .i64 0, .int .i64 0, .int .i64 0] 164)
  have hz : (((w.alloc (.cells #[.int .i64 (m0 : Int), .int .i64 (m1 : Int), .int .i64 (m2 : Int), .int .i64 (m3 : Int)] 160)).alloc (.cells #[.int .i64 0, .int .i64 0, .int .i64 0, .int .i64 0] 164)).alloc (.cells #[.int .i64 0, .int .i64 0, .int .i64 0, .int .i64 0] 164)).heap.size = w.heap.size + 3 := by simp
  have r5 := ((Ro.new w 160 (m0 : Int) (m1 : Int) (m2 : Int) (m3 : Int)).below ((Below.refl _ _).alloc (Nat.le_refl _) (.cells #[.int .i64 0, .int .i64 0, .int .i64 0, .int .i64 0] 164)) (by simp)).below ((Below.refl _ ((w.alloc (.cells #[.int .i64 (m0 : Int), .int .i64 (m1 : Int), .int .i64 (m2 : Int), .int .i64 (m3 : Int)] 160)).alloc (.cells #[.int .i64 0, .int .i64 0, .int .i64 0, .int .i64 0] 164))).alloc (Nat.le_refl _) (.cells #[.int .i64 0, .int .i64 0, .int .i64 0, .int .i64 0] 164)) (by simp; omega)
  have r6 := (Ro.new (w.alloc (.cells #[.int .i64 (m0 : Int), .int .i64 (m1 : Int), .int .i64 (m2 : Int), .int .i64 (m3 : Int)] 160)) 164 0 0 0 0).below ((Below.refl _ ((w.alloc (.cells #[.int .i64 (m0 : Int), .int .i64 (m1 : Int), .int .i64 (m2 : Int), .int .i64 (m3 : Int)] 160)).alloc (.cells #[.int .i64 0, .int .i64 0, .int .i64 0, .int .i64 0] 164))).alloc (Nat.le_refl _) (.cells #[.int .i64 0, .int .i64 0, .int .i64 0, .int .i64 0] 164)) (by simp)
  have r7 := Ro.new ((w.alloc (.cells #[.int .i64 (m0 : Int), .int .i64 (m1 : Int), .int .i64 (m2 : Int), .int .i64 (m3 : Int)] 160)).alloc (.cells #[.int .i64 0, .int .i64 0, .int .i64 0, .int .i64 0] 164)) 164 0 0 0 0
  simp only [World.size_alloc] at r6 r7
  obtain ⟨W1, hW1⟩ : ∃ z, (((w.alloc (.cells #[.int .i64 (m0 : Int), .int .i64 (m1 : Int), .int .i64 (m2 : Int), .int .i64 (m3 : Int)] 160)).alloc (.cells #[.int .i64 0, .int .i64 0, .int .i64 0, .int .i64 0] 164)).alloc (.cells #[.int .i64 0, .int .i64 0, .int .i64 0, .int .i64 0] 164)) = z := ⟨_, rfl⟩
  rw [hW1] at hb1 hz r5 r6 r7
  have HB1 := Lib.hid hb1; have HR5 := Lib.hid r5; have HR6 := Lib.hid r6; have HR7 := Lib.hid r7; have HZ := Lib.hid hz
  clear hb1 r5 r6 r7 hz hA hB hXA hXB hv0 hv1 hv2 hv3 hn hn2 h0 h1 h2 h3
  go_enter Tryz.func95, Tryz.ntmps95
  go_wp2_with fail
  refine (tests2_any _).mono ?_
  rintro e w2 ⟨⟨rfl, hts, hgl⟩, hb2⟩
  clear hW1
  have HB2 := Lib.hid hb2; have HTS := Lib.hid hts; have HGL := Lib.hid hgl
  clear hts hgl hb2
  go_wp2
  go_loopw [12] (fun s12 wr => (Below w.heap.size w wr ∧ W1.heap.size + 1 ≤ wr.heap.size ∧ Ts W1.heap.size wr ∧ Ro wr w.heap.size 160 (m0 : Int) (m1 : Int) (m2 : Int) (m3 : Int) ∧ Ro wr (w.heap.size + 1) 164 0 0 0 0) ∧ ((s12 = .int .i64 0 ∧ Ro wr (w.heap.size + 1 + 1) 164 0 0 0 0) ∨ (s12 = .int .i64 1 ∧ Ro wr (w.heap.size + 1 + 1) 164 (v0 : Int) 0 0 0) ∨ (s12 = .int .i64 2 ∧ Ro wr (w.heap.size + 1 + 1) 164 (v0 : Int) (v1 : Int) 0 0) ∨ (s12 = .int .i64 3 ∧ Ro wr (w.heap.size + 1 + 1) 164 (v0 : Int) (v1 : Int) (v2 : Int) 0) ∨ (s12 = .int .i64 4 ∧ Ro wr (w.heap.size + 1 + 1) 164 (v0 : Int) (v1 : Int) (v2 : Int) (v3 : Int)))) (fun s12 _ => 4 - (intOf s12).toNat)
  case atStart =>
    have hz := HZ.out
    exact ⟨⟨HB1.out.trans (HB2.out.mono HB1.out.size), by rw [HGL.out]; exact Nat.le_refl _, HTS.out, HR5.out.below HB2.out (by omega), HR6.out.below HB2.out (by omega)⟩, .inl ⟨rfl, HR7.out.below HB2.out (by omega)⟩⟩
  case round =>
    obtain ⟨⟨hb, hsz, hts, h5, h6⟩, ⟨rfl, h7⟩ | ⟨rfl, h7⟩ | ⟨rfl, h7⟩ | ⟨rfl, h7⟩ | ⟨rfl, h7⟩⟩ := hrel
    · have HBC := Lib.hid hb; have HSZ := Lib.hid hsz; have HTT := Lib.hid hts; have H5 := Lib.hid h5; have H6 := Lib.hid h6; have H7 := Lib.hid h7
      obtain ⟨c0, c1, c2', c3, c4, c5, c6, c7⟩ := hts
      have hbe := (Below.refl wr.heap.size wr).alloc (Nat.le_refl _) (.cells #[.func (.func 116) #[] #[], .func (.func 62) #[] #[]] 158)
      have k0 := cell_new1 wr #[.func (.func 116) #[] #[], .func (.func 62) #[] #[]] 158 0
      have k1 := cell_new1 wr #[.func (.func 116) #[] #[], .func (.func 62) #[] #[]] 158 1
      have hzz : (wr.alloc (.cells #[.func (.func 116) #[] #[], .func (.func 62) #[] #[]] 158)).heap.size = wr.heap.size + 1 := by simp
      obtain ⟨W3, hW3⟩ : ∃ z, wr.alloc (.cells #[.func (.func 116) #[] #[], .func (.func 62) #[] #[]] 158) = z := ⟨_, rfl⟩
      rw [hW3] at hbe k0 k1 hzz
      have hz1 := HZ.out
      have HBE := Lib.hid hbe
      have HBW := Lib.hid (hb.trans (hbe.mono hb.size))
      have HCELL := Lib.hid (show ∀ wx, Below W3.heap.size W3 wx → wx.cell? ⟨wr.heap.size, 0, none⟩ = some (.func (.func 116) #[] #[]) ∧ wx.cell? ⟨wr.heap.size, 1, none⟩ = some (.func (.func 62) #[] #[]) ∧ wx.cell? ⟨w.heap.size, 0, none⟩ = some (.int .i64 (m0 : Int)) ∧ (∃ z, wx.cell? ⟨w.heap.size + 1 + 1, 0, none⟩ = some (.int .i64 z)) ∧ wx.frozen? ⟨w.heap.size + 1 + 1, 0, none⟩ = false from fun wx h => by
        have h1 := hbe.trans (h.mono hbe.size)
        exact ⟨(h.cell (p := ⟨wr.heap.size, 0, none⟩) (by simp; omega)).trans k0, (h.cell (p := ⟨wr.heap.size, 1, none⟩) (by simp; omega)).trans k1, (h5.below h1 (by omega)).cell 0, ⟨_, (h7.below h1 (by omega)).cell 0⟩, (h7.below h1 (by omega)).frozen 0⟩)
      have hz2 : w.heap.size + 3 ≤ wr.heap.size := by omega
      clear hb hsz h5 h6 h7 hbe k0 k1 hzz hz1
      go_wp2_with fail
      go_upto_region 5 with (fail)
      clear hW3 c0 c1 c2' c3 c4 c5 c6 c7
      have hbq : Below W3.heap.size W3 W3.drew := (Below.refl _ _).drew
      have HS := Lib.hid (HCELL.out _ hbq)
      refine wp_region_held_drew (S := fun wx => wx.cell? ⟨wr.heap.size, 0, none⟩ = some (.func (.func 116) #[] #[]) ∧ wx.cell? ⟨wr.heap.size, 1, none⟩ = some (.func (.func 62) #[] #[]) ∧ wx.cell? ⟨w.heap.size, 0, none⟩ = some (.int .i64 (m0 : Int)) ∧ (∃ z, wx.cell? ⟨w.heap.size + 1 + 1, 0, none⟩ = some (.int .i64 z)) ∧ wx.frozen? ⟨w.heap.size + 1 + 1, 0, none⟩ = false) (by kernel_rfl) HS.out (fun _ => ?_)
      refine hTake (i := 0) (d := 17) (v := .int .i64 0) rfl rfl (by kernel_rfl) (by kernel_rfl) (by kernel_rfl) (fun _ _ _ h => h) (Or.inl ⟨rfl, ?gr⟩) HS.out ?_
      case gr =>
        rintro W' ⟨s0, s1, s2, ⟨z, s3⟩, s4⟩
        go_simp
      simp only [Act.put, List.setIfInBounds_toArray, List.set_cons_zero, List.set_cons_succ]
      refine hTake (i := 1) (d := 18) (v := .slice A n c) rfl rfl (by kernel_rfl) (by kernel_rfl) (by kernel_rfl) (fun _ _ _ h => h) (Or.inl ⟨rfl, ?gr⟩) HS.out ?_
      case gr =>
        rintro W' ⟨s0, s1, s2, ⟨z, s3⟩, s4⟩
        go_simp
      simp only [Act.put, List.setIfInBounds_toArray, List.set_cons_zero, List.set_cons_succ]
      refine hTake (i := 2) (d := 19) (v := .slice B n2 c2) rfl rfl (by kernel_rfl) (by kernel_rfl) (by kernel_rfl) (fun _ _ _ h => h) (Or.inl ⟨rfl, ?gr⟩) HS.out ?_
      case gr =>
        rintro W' ⟨s0, s1, s2, ⟨z, s3⟩, s4⟩
        go_simp
      simp only [Act.put, List.setIfInBounds_toArray, List.set_cons_zero, List.set_cons_succ]
      refine hTake (i := 3) (d := 20) (v := .agg #[.func (.func 116) #[] #[], .func (.func 62) #[] #[]]) rfl rfl (by kernel_rfl) (by kernel_rfl) (by kernel_rfl) (fun _ _ _ h => h) (Or.inl ⟨rfl, ?gr⟩) HS.out ?_
      case gr =>
        rintro W' ⟨s0, s1, s2, ⟨z, s3⟩, s4⟩
        go_simp
      simp only [Act.put, List.setIfInBounds_toArray, List.set_cons_zero, List.set_cons_succ]
      refine hTake (i := 4) (d := 21) (v := .int .i64 0) rfl rfl (by kernel_rfl) (by kernel_rfl) (by kernel_rfl) (fun _ _ _ h => h) (Or.inl ⟨rfl, ?gr⟩) HS.out ?_
      case gr =>
        rintro W' ⟨s0, s1, s2, ⟨z, s3⟩, s4⟩
        go_simp
      simp only [Act.put, List.setIfInBounds_toArray, List.set_cons_zero, List.set_cons_succ]
      refine hTake (i := 5) (d := 22) (v := .pointer (some ⟨w.heap.size, 0, none⟩)) rfl rfl (by kernel_rfl) (by kernel_rfl) (by kernel_rfl) (fun _ _ _ h => h) (Or.inl ⟨rfl, ?gr⟩) HS.out ?_
      case gr =>
        rintro W' ⟨s0, s1, s2, ⟨z, s3⟩, s4⟩
        go_simp
      simp only [Act.put, List.setIfInBounds_toArray, List.set_cons_zero, List.set_cons_succ]
      refine hTake (i := 6) (d := 23) (v := .int .i64 (m0 : Int)) rfl rfl (by kernel_rfl) (by kernel_rfl) (by kernel_rfl) (fun _ _ _ h => h) (Or.inl ⟨rfl, ?gr⟩) HS.out ?_
      case gr =>
        rintro W' ⟨s0, s1, s2, ⟨z, s3⟩, s4⟩
        go_simp
      simp only [Act.put, List.setIfInBounds_toArray, List.set_cons_zero, List.set_cons_succ]
      refine wpAnyH_ready (rs := [7]) (by kernel_rfl) (by simp) ?_
      refine AllReadyH.cons rfl (fun K hK => ?_) AllReadyH.nil
      rw [if_pos (by rfl)]
      go_simp
      (with_reducible refine (HL0.out _ (HBW.out.trans (hbq.mono HBW.out.size))).mono ?_)
      rintro e wc ⟨rfl, hbc⟩
      replace hbq := hbq.trans (hbc.mono hbq.size)
      have HS := Lib.hid (HCELL.out _ hbq)
      clear hbc
      refine hK.out _ _ HS.out (fun _ => ?_)
      clear hK K
      try simp only [Act.put, List.setIfInBounds_toArray, List.set_cons_zero, List.set_cons_succ]
      refine hTake (i := 8) (d := 25) (v := .pointer (some ⟨w.heap.size + 1 + 1, 0, none⟩)) rfl rfl (by kernel_rfl) (by kernel_rfl) (by kernel_rfl) (fun _ _ _ h => h) (Or.inl ⟨rfl, ?gr⟩) HS.out ?_
      case gr =>
        rintro W' ⟨s0, s1, s2, ⟨z, s3⟩, s4⟩
        go_simp
      simp only [Act.put, List.setIfInBounds_toArray, List.set_cons_zero, List.set_cons_succ]
      refine wpAnyH_ready (rs := [9]) (by kernel_rfl) (by simp) ?_
      refine AllReadyH.cons rfl (fun K hK => ?_) AllReadyH.nil
      rw [if_pos (by rfl)]
      obtain ⟨s0, s1, s2, ⟨z, s3⟩, s4⟩ := HS.out
      go_simp
      have HS2 := Lib.hid (show (fun wx : World => wx.cell? ⟨wr.heap.size, 0, none⟩ = some (.func (.func 116) #[] #[]) ∧ wx.cell? ⟨wr.heap.size, 1, none⟩ = some (.func (.func 62) #[] #[]) ∧ wx.cell? ⟨w.heap.size, 0, none⟩ = some (.int .i64 (m0 : Int)) ∧ (∃ z, wx.cell? ⟨w.heap.size + 1 + 1, 0, none⟩ = some (.int .i64 z)) ∧ wx.frozen? ⟨w.heap.size + 1 + 1, 0, none⟩ = false) (wc.setCell ⟨w.heap.size + 1 + 1, 0, none⟩ (.int .i64 (v0 : Int))) from ⟨by rw [World.cell?_setCell_other (h := by simp <;> omega)]; exact s0, by rw [World.cell?_setCell_other (h := by simp <;> omega)]; exact s1, by rw [World.cell?_setCell_other (h := by simp <;> omega)]; exact s2, ⟨_, World.cell?_setCell_same _ _ _ s3⟩, by rw [World.frozen?_setCell]; exact s4⟩)
      refine hK.out _ _ HS2.out (fun _ => ?_)
      clear s0 s1 s2 s3 s4 HS2
      clear hK K
      try simp only [Act.put, List.setIfInBounds_toArray, List.set_cons_zero, List.set_cons_succ]
      refine wpAnyH_done (by kernel_rfl) ?_ _
      have HBQ := Lib.hid (HBE.out.trans (hbq.mono HBE.out.size))
      have HBR := Lib.hid (HBW.out.trans (hbq.mono HBW.out.size))
      clear hbq
      go_wp2
      go_roundw
      case rel =>
        have hz1 := HZ.out; have hs1 := HSZ.out
        refine ⟨⟨HBR.out.setCell (by simp; omega) _, ?_, (HTT.out.keep HBQ.out (by omega)).other _ (by simp; omega), (H5.out.below HBQ.out (by omega)).other _ (by simp; omega), (H6.out.below HBQ.out (by omega)).other _ (by simp)⟩, .inr (.inl ⟨rfl, (H7.out.below HBQ.out (by omega)).set0 _⟩)⟩
        have := HBQ.out.size
        simp; omega
      case measure => simp [intOf]
    · have HBC := Lib.hid hb; have HSZ := Lib.hid hsz; have HTT := Lib.hid hts; have H5 := Lib.hid h5; have H6 := Lib.hid h6; have H7 := Lib.hid h7
      obtain ⟨c0, c1, c2', c3, c4, c5, c6, c7⟩ := hts
      have hbe := (Below.refl wr.heap.size wr).alloc (Nat.le_refl _) (.cells #[.func (.func 117) #[] #[], .func (.func 118) #[] #[]] 158)
      have k0 := cell_new1 wr #[.func (.func 117) #[] #[], .func (.func 118) #[] #[]] 158 0
      have k1 := cell_new1 wr #[.func (.func 117) #[] #[], .func (.func 118) #[] #[]] 158 1
      have hzz : (wr.alloc (.cells #[.func (.func 117) #[] #[], .func (.func 118) #[] #[]] 158)).heap.size = wr.heap.size + 1 := by simp
      obtain ⟨W3, hW3⟩ : ∃ z, wr.alloc (.cells #[.func (.func 117) #[] #[], .func (.func 118) #[] #[]] 158) = z := ⟨_, rfl⟩
      rw [hW3] at hbe k0 k1 hzz
      have hz1 := HZ.out
      have HBE := Lib.hid hbe
      have HBW := Lib.hid (hb.trans (hbe.mono hb.size))
      have HCELL := Lib.hid (show ∀ wx, Below W3.heap.size W3 wx → wx.cell? ⟨wr.heap.size, 0, none⟩ = some (.func (.func 117) #[] #[]) ∧ wx.cell? ⟨wr.heap.size, 1, none⟩ = some (.func (.func 118) #[] #[]) ∧ wx.cell? ⟨w.heap.size, 1, none⟩ = some (.int .i64 (m1 : Int)) ∧ (∃ z, wx.cell? ⟨w.heap.size + 1 + 1, 1, none⟩ = some (.int .i64 z)) ∧ wx.frozen? ⟨w.heap.size + 1 + 1, 1, none⟩ = false from fun wx h => by
        have h1 := hbe.trans (h.mono hbe.size)
        exact ⟨(h.cell (p := ⟨wr.heap.size, 0, none⟩) (by simp; omega)).trans k0, (h.cell (p := ⟨wr.heap.size, 1, none⟩) (by simp; omega)).trans k1, (h5.below h1 (by omega)).cell 1, ⟨_, (h7.below h1 (by omega)).cell 1⟩, (h7.below h1 (by omega)).frozen 1⟩)
      have hz2 : w.heap.size + 3 ≤ wr.heap.size := by omega
      clear hb hsz h5 h6 h7 hbe k0 k1 hzz hz1
      go_wp2_with fail
      go_upto_region 5 with (fail)
      clear hW3 c0 c1 c2' c3 c4 c5 c6 c7
      have hbq : Below W3.heap.size W3 W3.drew := (Below.refl _ _).drew
      have HS := Lib.hid (HCELL.out _ hbq)
      refine wp_region_held_drew (S := fun wx => wx.cell? ⟨wr.heap.size, 0, none⟩ = some (.func (.func 117) #[] #[]) ∧ wx.cell? ⟨wr.heap.size, 1, none⟩ = some (.func (.func 118) #[] #[]) ∧ wx.cell? ⟨w.heap.size, 1, none⟩ = some (.int .i64 (m1 : Int)) ∧ (∃ z, wx.cell? ⟨w.heap.size + 1 + 1, 1, none⟩ = some (.int .i64 z)) ∧ wx.frozen? ⟨w.heap.size + 1 + 1, 1, none⟩ = false) (by kernel_rfl) HS.out (fun _ => ?_)
      refine hTake (i := 0) (d := 17) (v := .int .i64 1) rfl rfl (by kernel_rfl) (by kernel_rfl) (by kernel_rfl) (fun _ _ _ h => h) (Or.inl ⟨rfl, ?gr⟩) HS.out ?_
      case gr =>
        rintro W' ⟨s0, s1, s2, ⟨z, s3⟩, s4⟩
        go_simp
      simp only [Act.put, List.setIfInBounds_toArray, List.set_cons_zero, List.set_cons_succ]
      refine hTake (i := 1) (d := 18) (v := .slice A n c) rfl rfl (by kernel_rfl) (by kernel_rfl) (by kernel_rfl) (fun _ _ _ h => h) (Or.inl ⟨rfl, ?gr⟩) HS.out ?_
      case gr =>
        rintro W' ⟨s0, s1, s2, ⟨z, s3⟩, s4⟩
        go_simp
      simp only [Act.put, List.setIfInBounds_toArray, List.set_cons_zero, List.set_cons_succ]
      refine hTake (i := 2) (d := 19) (v := .slice B n2 c2) rfl rfl (by kernel_rfl) (by kernel_rfl) (by kernel_rfl) (fun _ _ _ h => h) (Or.inl ⟨rfl, ?gr⟩) HS.out ?_
      case gr =>
        rintro W' ⟨s0, s1, s2, ⟨z, s3⟩, s4⟩
        go_simp
      simp only [Act.put, List.setIfInBounds_toArray, List.set_cons_zero, List.set_cons_succ]
      refine hTake (i := 3) (d := 20) (v := .agg #[.func (.func 117) #[] #[], .func (.func 118) #[] #[]]) rfl rfl (by kernel_rfl) (by kernel_rfl) (by kernel_rfl) (fun _ _ _ h => h) (Or.inl ⟨rfl, ?gr⟩) HS.out ?_
      case gr =>
        rintro W' ⟨s0, s1, s2, ⟨z, s3⟩, s4⟩
        go_simp
      simp only [Act.put, List.setIfInBounds_toArray, List.set_cons_zero, List.set_cons_succ]
      refine hTake (i := 4) (d := 21) (v := .int .i64 1) rfl rfl (by kernel_rfl) (by kernel_rfl) (by kernel_rfl) (fun _ _ _ h => h) (Or.inl ⟨rfl, ?gr⟩) HS.out ?_
      case gr =>
        rintro W' ⟨s0, s1, s2, ⟨z, s3⟩, s4⟩
        go_simp
      simp only [Act.put, List.setIfInBounds_toArray, List.set_cons_zero, List.set_cons_succ]
      refine hTake (i := 5) (d := 22) (v := .pointer (some ⟨w.heap.size, 1, none⟩)) rfl rfl (by kernel_rfl) (by kernel_rfl) (by kernel_rfl) (fun _ _ _ h => h) (Or.inl ⟨rfl, ?gr⟩) HS.out ?_
      case gr =>
        rintro W' ⟨s0, s1, s2, ⟨z, s3⟩, s4⟩
        go_simp
      simp only [Act.put, List.setIfInBounds_toArray, List.set_cons_zero, List.set_cons_succ]
      refine hTake (i := 6) (d := 23) (v := .int .i64 (m1 : Int)) rfl rfl (by kernel_rfl) (by kernel_rfl) (by kernel_rfl) (fun _ _ _ h => h) (Or.inl ⟨rfl, ?gr⟩) HS.out ?_
      case gr =>
        rintro W' ⟨s0, s1, s2, ⟨z, s3⟩, s4⟩
        go_simp
      simp only [Act.put, List.setIfInBounds_toArray, List.set_cons_zero, List.set_cons_succ]
      refine wpAnyH_ready (rs := [7]) (by kernel_rfl) (by simp) ?_
      refine AllReadyH.cons rfl (fun K hK => ?_) AllReadyH.nil
      rw [if_pos (by rfl)]
      go_simp
      (with_reducible refine (HL1.out _ (HBW.out.trans (hbq.mono HBW.out.size))).mono ?_)
      rintro e wc ⟨rfl, hbc⟩
      replace hbq := hbq.trans (hbc.mono hbq.size)
      have HS := Lib.hid (HCELL.out _ hbq)
      clear hbc
      refine hK.out _ _ HS.out (fun _ => ?_)
      clear hK K
      try simp only [Act.put, List.setIfInBounds_toArray, List.set_cons_zero, List.set_cons_succ]
      refine hTake (i := 8) (d := 25) (v := .pointer (some ⟨w.heap.size + 1 + 1, 1, none⟩)) rfl rfl (by kernel_rfl) (by kernel_rfl) (by kernel_rfl) (fun _ _ _ h => h) (Or.inl ⟨rfl, ?gr⟩) HS.out ?_
      case gr =>
        rintro W' ⟨s0, s1, s2, ⟨z, s3⟩, s4⟩
        go_simp
      simp only [Act.put, List.setIfInBounds_toArray, List.set_cons_zero, List.set_cons_succ]
      refine wpAnyH_ready (rs := [9]) (by kernel_rfl) (by simp) ?_
      refine AllReadyH.cons rfl (fun K hK => ?_) AllReadyH.nil
      rw [if_pos (by rfl)]
      obtain ⟨s0, s1, s2, ⟨z, s3⟩, s4⟩ := HS.out
      go_simp
      have HS2 := Lib.hid (show (fun wx : World => wx.cell? ⟨wr.heap.size, 0, none⟩ = some (.func (.func 117) #[] #[]) ∧ wx.cell? ⟨wr.heap.size, 1, none⟩ = some (.func (.func 118) #[] #[]) ∧ wx.cell? ⟨w.heap.size, 1, none⟩ = some (.int .i64 (m1 : Int)) ∧ (∃ z, wx.cell? ⟨w.heap.size + 1 + 1, 1, none⟩ = some (.int .i64 z)) ∧ wx.frozen? ⟨w.heap.size + 1 + 1, 1, none⟩ = false) (wc.setCell ⟨w.heap.size + 1 + 1, 1, none⟩ (.int .i64 (v1 : Int))) from ⟨by rw [World.cell?_setCell_other (h := by simp <;> omega)]; exact s0, by rw [World.cell?_setCell_other (h := by simp <;> omega)]; exact s1, by rw [World.cell?_setCell_other (h := by simp <;> omega)]; exact s2, ⟨_, World.cell?_setCell_same _ _ _ s3⟩, by rw [World.frozen?_setCell]; exact s4⟩)
      refine hK.out _ _ HS2.out (fun _ => ?_)
      clear s0 s1 s2 s3 s4 HS2
      clear hK K
      try simp only [Act.put, List.setIfInBounds_toArray, List.set_cons_zero, List.set_cons_succ]
      refine wpAnyH_done (by kernel_rfl) ?_ _
      have HBQ := Lib.hid (HBE.out.trans (hbq.mono HBE.out.size))
      have HBR := Lib.hid (HBW.out.trans (hbq.mono HBW.out.size))
      clear hbq
      go_wp2
      go_roundw
      case rel =>
        have hz1 := HZ.out; have hs1 := HSZ.out
        refine ⟨⟨HBR.out.setCell (by simp; omega) _, ?_, (HTT.out.keep HBQ.out (by omega)).other _ (by simp; omega), (H5.out.below HBQ.out (by omega)).other _ (by simp; omega), (H6.out.below HBQ.out (by omega)).other _ (by simp)⟩, .inr (.inr (.inl ⟨rfl, (H7.out.below HBQ.out (by omega)).set1 _⟩))⟩
        have := HBQ.out.size
        simp; omega
      case measure => simp [intOf]
    · have HBC := Lib.hid hb; have HSZ := Lib.hid hsz; have HTT := Lib.hid hts; have H5 := Lib.hid h5; have H6 := Lib.hid h6; have H7 := Lib.hid h7
      obtain ⟨c0, c1, c2', c3, c4, c5, c6, c7⟩ := hts
      have hbe := (Below.refl wr.heap.size wr).alloc (Nat.le_refl _) (.cells #[.func (.func 119) #[] #[], .func (.func 120) #[] #[]] 158)
      have k0 := cell_new1 wr #[.func (.func 119) #[] #[], .func (.func 120) #[] #[]] 158 0
      have k1 := cell_new1 wr #[.func (.func 119) #[] #[], .func (.func 120) #[] #[]] 158 1
      have hzz : (wr.alloc (.cells #[.func (.func 119) #[] #[], .func (.func 120) #[] #[]] 158)).heap.size = wr.heap.size + 1 := by simp
      obtain ⟨W3, hW3⟩ : ∃ z, wr.alloc (.cells #[.func (.func 119) #[] #[], .func (.func 120) #[] #[]] 158) = z := ⟨_, rfl⟩
      rw [hW3] at hbe k0 k1 hzz
      have hz1 := HZ.out
      have HBE := Lib.hid hbe
      have HBW := Lib.hid (hb.trans (hbe.mono hb.size))
      have HCELL := Lib.hid (show ∀ wx, Below W3.heap.size W3 wx → wx.cell? ⟨wr.heap.size, 0, none⟩ = some (.func (.func 119) #[] #[]) ∧ wx.cell? ⟨wr.heap.size, 1, none⟩ = some (.func (.func 120) #[] #[]) ∧ wx.cell? ⟨w.heap.size, 2, none⟩ = some (.int .i64 (m2 : Int)) ∧ (∃ z, wx.cell? ⟨w.heap.size + 1 + 1, 2, none⟩ = some (.int .i64 z)) ∧ wx.frozen? ⟨w.heap.size + 1 + 1, 2, none⟩ = false from fun wx h => by
        have h1 := hbe.trans (h.mono hbe.size)
        exact ⟨(h.cell (p := ⟨wr.heap.size, 0, none⟩) (by simp; omega)).trans k0, (h.cell (p := ⟨wr.heap.size, 1, none⟩) (by simp; omega)).trans k1, (h5.below h1 (by omega)).cell 2, ⟨_, (h7.below h1 (by omega)).cell 2⟩, (h7.below h1 (by omega)).frozen 2⟩)
      have hz2 : w.heap.size + 3 ≤ wr.heap.size := by omega
      clear hb hsz h5 h6 h7 hbe k0 k1 hzz hz1
      go_wp2_with fail
      go_upto_region 5 with (fail)
      clear hW3 c0 c1 c2' c3 c4 c5 c6 c7
      have hbq : Below W3.heap.size W3 W3.drew := (Below.refl _ _).drew
      have HS := Lib.hid (HCELL.out _ hbq)
      refine wp_region_held_drew (S := fun wx => wx.cell? ⟨wr.heap.size, 0, none⟩ = some (.func (.func 119) #[] #[]) ∧ wx.cell? ⟨wr.heap.size, 1, none⟩ = some (.func (.func 120) #[] #[]) ∧ wx.cell? ⟨w.heap.size, 2, none⟩ = some (.int .i64 (m2 : Int)) ∧ (∃ z, wx.cell? ⟨w.heap.size + 1 + 1, 2, none⟩ = some (.int .i64 z)) ∧ wx.frozen? ⟨w.heap.size + 1 + 1, 2, none⟩ = false) (by kernel_rfl) HS.out (fun _ => ?_)
      refine hTake (i := 0) (d := 17) (v := .int .i64 2) rfl rfl (by kernel_rfl) (by kernel_rfl) (by kernel_rfl) (fun _ _ _ h => h) (Or.inl ⟨rfl, ?gr⟩) HS.out ?_
      case gr =>
        rintro W' ⟨s0, s1, s2, ⟨z, s3⟩, s4⟩
        go_simp
      simp only [Act.put, List.setIfInBounds_toArray, List.set_cons_zero, List.set_cons_succ]
      refine hTake (i := 1) (d := 18) (v := .slice A n c) rfl rfl (by kernel_rfl) (by kernel_rfl) (by kernel_rfl) (fun _ _ _ h => h) (Or.inl ⟨rfl, ?gr⟩) HS.out ?_
      case gr =>
        rintro W' ⟨s0, s1, s2, ⟨z, s3⟩, s4⟩
        go_simp
      simp only [Act.put, List.setIfInBounds_toArray, List.set_cons_zero, List.set_cons_succ]
      refine hTake (i := 2) (d := 19) (v := .slice B n2 c2) rfl rfl (by kernel_rfl) (by kernel_rfl) (by kernel_rfl) (fun _ _ _ h => h) (Or.inl ⟨rfl, ?gr⟩) HS.out ?_
      case gr =>
        rintro W' ⟨s0, s1, s2, ⟨z, s3⟩, s4⟩
        go_simp
      simp only [Act.put, List.setIfInBounds_toArray, List.set_cons_zero, List.set_cons_succ]
      refine hTake (i := 3) (d := 20) (v := .agg #[.func (.func 119) #[] #[], .func (.func 120) #[] #[]]) rfl rfl (by kernel_rfl) (by kernel_rfl) (by kernel_rfl) (fun _ _ _ h => h) (Or.inl ⟨rfl, ?gr⟩) HS.out ?_
      case gr =>
        rintro W' ⟨s0, s1, s2, ⟨z, s3⟩, s4⟩
        go_simp
      simp only [Act.put, List.setIfInBounds_toArray, List.set_cons_zero, List.set_cons_succ]
      refine hTake (i := 4) (d := 21) (v := .int .i64 2) rfl rfl (by kernel_rfl) (by kernel_rfl) (by kernel_rfl) (fun _ _ _ h => h) (Or.inl ⟨rfl, ?gr⟩) HS.out ?_
      case gr =>
        rintro W' ⟨s0, s1, s2, ⟨z, s3⟩, s4⟩
        go_simp
      simp only [Act.put, List.setIfInBounds_toArray, List.set_cons_zero, List.set_cons_succ]
      refine hTake (i := 5) (d := 22) (v := .pointer (some ⟨w.heap.size, 2, none⟩)) rfl rfl (by kernel_rfl) (by kernel_rfl) (by kernel_rfl) (fun _ _ _ h => h) (Or.inl ⟨rfl, ?gr⟩) HS.out ?_
      case gr =>
        rintro W' ⟨s0, s1, s2, ⟨z, s3⟩, s4⟩
        go_simp
      simp only [Act.put, List.setIfInBounds_toArray, List.set_cons_zero, List.set_cons_succ]
      refine hTake (i := 6) (d := 23) (v := .int .i64 (m2 : Int)) rfl rfl (by kernel_rfl) (by kernel_rfl) (by kernel_rfl) (fun _ _ _ h => h) (Or.inl ⟨rfl, ?gr⟩) HS.out ?_
      case gr =>
        rintro W' ⟨s0, s1, s2, ⟨z, s3⟩, s4⟩
        go_simp
      simp only [Act.put, List.setIfInBounds_toArray, List.set_cons_zero, List.set_cons_succ]
      refine wpAnyH_ready (rs := [7]) (by kernel_rfl) (by simp) ?_
      refine AllReadyH.cons rfl (fun K hK => ?_) AllReadyH.nil
      rw [if_pos (by rfl)]
      go_simp
      (with_reducible refine (HL2.out _ (HBW.out.trans (hbq.mono HBW.out.size))).mono ?_)
      rintro e wc ⟨rfl, hbc⟩
      replace hbq := hbq.trans (hbc.mono hbq.size)
      have HS := Lib.hid (HCELL.out _ hbq)
      clear hbc
      refine hK.out _ _ HS.out (fun _ => ?_)
      clear hK K
      try simp only [Act.put, List.setIfInBounds_toArray, List.set_cons_zero, List.set_cons_succ]
      refine hTake (i := 8) (d := 25) (v := .pointer (some ⟨w.heap.size + 1 + 1, 2, none⟩)) rfl rfl (by kernel_rfl) (by kernel_rfl) (by kernel_rfl) (fun _ _ _ h => h) (Or.inl ⟨rfl, ?gr⟩) HS.out ?_
      case gr =>
        rintro W' ⟨s0, s1, s2, ⟨z, s3⟩, s4⟩
        go_simp
      simp only [Act.put, List.setIfInBounds_toArray, List.set_cons_zero, List.set_cons_succ]
      refine wpAnyH_ready (rs := [9]) (by kernel_rfl) (by simp) ?_
      refine AllReadyH.cons rfl (fun K hK => ?_) AllReadyH.nil
      rw [if_pos (by rfl)]
      obtain ⟨s0, s1, s2, ⟨z, s3⟩, s4⟩ := HS.out
      go_simp
      have HS2 := Lib.hid (show (fun wx : World => wx.cell? ⟨wr.heap.size, 0, none⟩ = some (.func (.func 119) #[] #[]) ∧ wx.cell? ⟨wr.heap.size, 1, none⟩ = some (.func (.func 120) #[] #[]) ∧ wx.cell? ⟨w.heap.size, 2, none⟩ = some (.int .i64 (m2 : Int)) ∧ (∃ z, wx.cell? ⟨w.heap.size + 1 + 1, 2, none⟩ = some (.int .i64 z)) ∧ wx.frozen? ⟨w.heap.size + 1 + 1, 2, none⟩ = false) (wc.setCell ⟨w.heap.size + 1 + 1, 2, none⟩ (.int .i64 (v2 : Int))) from ⟨by rw [World.cell?_setCell_other (h := by simp <;> omega)]; exact s0, by rw [World.cell?_setCell_other (h := by simp <;> omega)]; exact s1, by rw [World.cell?_setCell_other (h := by simp <;> omega)]; exact s2, ⟨_, World.cell?_setCell_same _ _ _ s3⟩, by rw [World.frozen?_setCell]; exact s4⟩)
      refine hK.out _ _ HS2.out (fun _ => ?_)
      clear s0 s1 s2 s3 s4 HS2
      clear hK K
      try simp only [Act.put, List.setIfInBounds_toArray, List.set_cons_zero, List.set_cons_succ]
      refine wpAnyH_done (by kernel_rfl) ?_ _
      have HBQ := Lib.hid (HBE.out.trans (hbq.mono HBE.out.size))
      have HBR := Lib.hid (HBW.out.trans (hbq.mono HBW.out.size))
      clear hbq
      go_wp2
      go_roundw
      case rel =>
        have hz1 := HZ.out; have hs1 := HSZ.out
        refine ⟨⟨HBR.out.setCell (by simp; omega) _, ?_, (HTT.out.keep HBQ.out (by omega)).other _ (by simp; omega), (H5.out.below HBQ.out (by omega)).other _ (by simp; omega), (H6.out.below HBQ.out (by omega)).other _ (by simp)⟩, .inr (.inr (.inr (.inl ⟨rfl, (H7.out.below HBQ.out (by omega)).set2 _⟩)))⟩
        have := HBQ.out.size
        simp; omega
      case measure => simp [intOf]
    · have HBC := Lib.hid hb; have HSZ := Lib.hid hsz; have HTT := Lib.hid hts; have H5 := Lib.hid h5; have H6 := Lib.hid h6; have H7 := Lib.hid h7
      obtain ⟨c0, c1, c2', c3, c4, c5, c6, c7⟩ := hts
      have hbe := (Below.refl wr.heap.size wr).alloc (Nat.le_refl _) (.cells #[.func (.func 121) #[] #[], .func (.func 122) #[] #[]] 158)
      have k0 := cell_new1 wr #[.func (.func 121) #[] #[], .func (.func 122) #[] #[]] 158 0
      have k1 := cell_new1 wr #[.func (.func 121) #[] #[], .func (.func 122) #[] #[]] 158 1
      have hzz : (wr.alloc (.cells #[.func (.func 121) #[] #[], .func (.func 122) #[] #[]] 158)).heap.size = wr.heap.size + 1 := by simp
      obtain ⟨W3, hW3⟩ : ∃ z, wr.alloc (.cells #[.func (.func 121) #[] #[], .func (.func 122) #[] #[]] 158) = z := ⟨_, rfl⟩
      rw [hW3] at hbe k0 k1 hzz
      have hz1 := HZ.out
      have HBE := Lib.hid hbe
      have HBW := Lib.hid (hb.trans (hbe.mono hb.size))
      have HCELL := Lib.hid (show ∀ wx, Below W3.heap.size W3 wx → wx.cell? ⟨wr.heap.size, 0, none⟩ = some (.func (.func 121) #[] #[]) ∧ wx.cell? ⟨wr.heap.size, 1, none⟩ = some (.func (.func 122) #[] #[]) ∧ wx.cell? ⟨w.heap.size, 3, none⟩ = some (.int .i64 (m3 : Int)) ∧ (∃ z, wx.cell? ⟨w.heap.size + 1 + 1, 3, none⟩ = some (.int .i64 z)) ∧ wx.frozen? ⟨w.heap.size + 1 + 1, 3, none⟩ = false from fun wx h => by
        have h1 := hbe.trans (h.mono hbe.size)
        exact ⟨(h.cell (p := ⟨wr.heap.size, 0, none⟩) (by simp; omega)).trans k0, (h.cell (p := ⟨wr.heap.size, 1, none⟩) (by simp; omega)).trans k1, (h5.below h1 (by omega)).cell 3, ⟨_, (h7.below h1 (by omega)).cell 3⟩, (h7.below h1 (by omega)).frozen 3⟩)
      have hz2 : w.heap.size + 3 ≤ wr.heap.size := by omega
      clear hb hsz h5 h6 h7 hbe k0 k1 hzz hz1
      go_wp2_with fail
      go_upto_region 5 with (fail)
      clear hW3 c0 c1 c2' c3 c4 c5 c6 c7
      have hbq : Below W3.heap.size W3 W3.drew := (Below.refl _ _).drew
      have HS := Lib.hid (HCELL.out _ hbq)
      refine wp_region_held_drew (S := fun wx => wx.cell? ⟨wr.heap.size, 0, none⟩ = some (.func (.func 121) #[] #[]) ∧ wx.cell? ⟨wr.heap.size, 1, none⟩ = some (.func (.func 122) #[] #[]) ∧ wx.cell? ⟨w.heap.size, 3, none⟩ = some (.int .i64 (m3 : Int)) ∧ (∃ z, wx.cell? ⟨w.heap.size + 1 + 1, 3, none⟩ = some (.int .i64 z)) ∧ wx.frozen? ⟨w.heap.size + 1 + 1, 3, none⟩ = false) (by kernel_rfl) HS.out (fun _ => ?_)
      refine hTake (i := 0) (d := 17) (v := .int .i64 3) rfl rfl (by kernel_rfl) (by kernel_rfl) (by kernel_rfl) (fun _ _ _ h => h) (Or.inl ⟨rfl, ?gr⟩) HS.out ?_
      case gr =>
        rintro W' ⟨s0, s1, s2, ⟨z, s3⟩, s4⟩
        go_simp
      simp only [Act.put, List.setIfInBounds_toArray, List.set_cons_zero, List.set_cons_succ]
      refine hTake (i := 1) (d := 18) (v := .slice A n c) rfl rfl (by kernel_rfl) (by kernel_rfl) (by kernel_rfl) (fun _ _ _ h => h) (Or.inl ⟨rfl, ?gr⟩) HS.out ?_
      case gr =>
        rintro W' ⟨s0, s1, s2, ⟨z, s3⟩, s4⟩
        go_simp
      simp only [Act.put, List.setIfInBounds_toArray, List.set_cons_zero, List.set_cons_succ]
      refine hTake (i := 2) (d := 19) (v := .slice B n2 c2) rfl rfl (by kernel_rfl) (by kernel_rfl) (by kernel_rfl) (fun _ _ _ h => h) (Or.inl ⟨rfl, ?gr⟩) HS.out ?_
      case gr =>
        rintro W' ⟨s0, s1, s2, ⟨z, s3⟩, s4⟩
        go_simp
      simp only [Act.put, List.setIfInBounds_toArray, List.set_cons_zero, List.set_cons_succ]
      refine hTake (i := 3) (d := 20) (v := .agg #[.func (.func 121) #[] #[], .func (.func 122) #[] #[]]) rfl rfl (by kernel_rfl) (by kernel_rfl) (by kernel_rfl) (fun _ _ _ h => h) (Or.inl ⟨rfl, ?gr⟩) HS.out ?_
      case gr =>
        rintro W' ⟨s0, s1, s2, ⟨z, s3⟩, s4⟩
        go_simp
      simp only [Act.put, List.setIfInBounds_toArray, List.set_cons_zero, List.set_cons_succ]
      refine hTake (i := 4) (d := 21) (v := .int .i64 3) rfl rfl (by kernel_rfl) (by kernel_rfl) (by kernel_rfl) (fun _ _ _ h => h) (Or.inl ⟨rfl, ?gr⟩) HS.out ?_
      case gr =>
        rintro W' ⟨s0, s1, s2, ⟨z, s3⟩, s4⟩
        go_simp
      simp only [Act.put, List.setIfInBounds_toArray, List.set_cons_zero, List.set_cons_succ]
      refine hTake (i := 5) (d := 22) (v := .pointer (some ⟨w.heap.size, 3, none⟩)) rfl rfl (by kernel_rfl) (by kernel_rfl) (by kernel_rfl) (fun _ _ _ h => h) (Or.inl ⟨rfl, ?gr⟩) HS.out ?_
      case gr =>
        rintro W' ⟨s0, s1, s2, ⟨z, s3⟩, s4⟩
        go_simp
      simp only [Act.put, List.setIfInBounds_toArray, List.set_cons_zero, List.set_cons_succ]
      refine hTake (i := 6) (d := 23) (v := .int .i64 (m3 : Int)) rfl rfl (by kernel_rfl) (by kernel_rfl) (by kernel_rfl) (fun _ _ _ h => h) (Or.inl ⟨rfl, ?gr⟩) HS.out ?_
      case gr =>
        rintro W' ⟨s0, s1, s2, ⟨z, s3⟩, s4⟩
        go_simp
      simp only [Act.put, List.setIfInBounds_toArray, List.set_cons_zero, List.set_cons_succ]
      refine wpAnyH_ready (rs := [7]) (by kernel_rfl) (by simp) ?_
      refine AllReadyH.cons rfl (fun K hK => ?_) AllReadyH.nil
      rw [if_pos (by rfl)]
      go_simp
      (with_reducible refine (HL3.out _ (HBW.out.trans (hbq.mono HBW.out.size))).mono ?_)
      rintro e wc ⟨rfl, hbc⟩
      replace hbq := hbq.trans (hbc.mono hbq.size)
      have HS := Lib.hid (HCELL.out _ hbq)
      clear hbc
      refine hK.out _ _ HS.out (fun _ => ?_)
      clear hK K
      try simp only [Act.put, List.setIfInBounds_toArray, List.set_cons_zero, List.set_cons_succ]
      refine hTake (i := 8) (d := 25) (v := .pointer (some ⟨w.heap.size + 1 + 1, 3, none⟩)) rfl rfl (by kernel_rfl) (by kernel_rfl) (by kernel_rfl) (fun _ _ _ h => h) (Or.inl ⟨rfl, ?gr⟩) HS.out ?_
      case gr =>
        rintro W' ⟨s0, s1, s2, ⟨z, s3⟩, s4⟩
        go_simp
      simp only [Act.put, List.setIfInBounds_toArray, List.set_cons_zero, List.set_cons_succ]
      refine wpAnyH_ready (rs := [9]) (by kernel_rfl) (by simp) ?_
      refine AllReadyH.cons rfl (fun K hK => ?_) AllReadyH.nil
      rw [if_pos (by rfl)]
      obtain ⟨s0, s1, s2, ⟨z, s3⟩, s4⟩ := HS.out
      go_simp
      have HS2 := Lib.hid (show (fun wx : World => wx.cell? ⟨wr.heap.size, 0, none⟩ = some (.func (.func 121) #[] #[]) ∧ wx.cell? ⟨wr.heap.size, 1, none⟩ = some (.func (.func 122) #[] #[]) ∧ wx.cell? ⟨w.heap.size, 3, none⟩ = some (.int .i64 (m3 : Int)) ∧ (∃ z, wx.cell? ⟨w.heap.size + 1 + 1, 3, none⟩ = some (.int .i64 z)) ∧ wx.frozen? ⟨w.heap.size + 1 + 1, 3, none⟩ = false) (wc.setCell ⟨w.heap.size + 1 + 1, 3, none⟩ (.int .i64 (v3 : Int))) from ⟨by rw [World.cell?_setCell_other (h := by simp <;> omega)]; exact s0, by rw [World.cell?_setCell_other (h := by simp <;> omega)]; exact s1, by rw [World.cell?_setCell_other (h := by simp <;> omega)]; exact s2, ⟨_, World.cell?_setCell_same _ _ _ s3⟩, by rw [World.frozen?_setCell]; exact s4⟩)
      refine hK.out _ _ HS2.out (fun _ => ?_)
      clear s0 s1 s2 s3 s4 HS2
      clear hK K
      try simp only [Act.put, List.setIfInBounds_toArray, List.set_cons_zero, List.set_cons_succ]
      refine wpAnyH_done (by kernel_rfl) ?_ _
      have HBQ := Lib.hid (HBE.out.trans (hbq.mono HBE.out.size))
      have HBR := Lib.hid (HBW.out.trans (hbq.mono HBW.out.size))
      clear hbq
      go_wp2
      go_roundw
      case rel =>
        have hz1 := HZ.out; have hs1 := HSZ.out
        refine ⟨⟨HBR.out.setCell (by simp; omega) _, ?_, (HTT.out.keep HBQ.out (by omega)).other _ (by simp; omega), (H5.out.below HBQ.out (by omega)).other _ (by simp; omega), (H6.out.below HBQ.out (by omega)).other _ (by simp)⟩, .inr (.inr (.inr (.inr (⟨rfl, (H7.out.below HBQ.out (by omega)).set3 _⟩))))⟩
        have := HBQ.out.size
        simp; omega
      case measure => simp [intOf]
    · have e0 := h7.cell 0; have e1 := h7.cell 1; have e2 := h7.cell 2; have e3 := h7.cell 3
      have f0 := h6.cell 0; have f1 := h6.cell 1; have f2 := h6.cell 2; have f3 := h6.cell 3
      have g0 := h6.frozen 0; have g1 := h6.frozen 1; have g2 := h6.frozen 2; have g3 := h6.frozen 3
      simp only [List.getElem?_toArray, List.getElem?_cons_zero, List.getElem?_cons_succ] at e0 e1 e2 e3 f0 f1 f2 f3
      have HBC := Lib.hid hb
      clear hb hsz hts h5 h6 h7
      go_wp2
      exact bodyPost_ret (v := .agg #[.int .i64 (v0 : Int), .int .i64 (v1 : Int), .int .i64 (v2 : Int), .int .i64 (v3 : Int)]) (by simp [results, Tryz.results95, go_sem, (set4_read f0 f1 f2 f3).1, (set4_read f0 f1 f2 f3).2.1, (set4_read f0 f1 f2 f3).2.2.1, (set4_read f0 f1 f2 f3).2.2.2]) rfl ⟨rfl, (((HBC.out.setCell (by simp <;> omega) _).setCell (by simp <;> omega) _).setCell (by simp <;> omega) _).setCell (by simp <;> omega) _⟩
end Go.Proofs.YtekambdnmaompaaGreat.SW
