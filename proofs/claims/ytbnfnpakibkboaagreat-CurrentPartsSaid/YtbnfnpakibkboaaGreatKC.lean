/- Texts C1 C14. -/
import Derived.Test.YtbnfnpakibkboaaGreatJKT
import Derived.Test.YtbnfnpakibkboaaGreatProg
namespace Go.Proofs.YtbnfnpakibkboaaGreat
set_option linter.unusedVariables false
set_option linter.unusedSimpArgs false
open Go.RowKit

theorem info3 : (Tryz.prog.info? 3).map (fun i => (i.zero, i.size, i.bytes)) = some (some (.int .i64 0), 1, 8) := by kernel_rfl
theorem info4 : (Tryz.prog.info? 4).map (fun i => (i.zero, i.size, i.bytes)) = some (some (.bool false), 1, 1) := by kernel_rfl
structure Wv where
  a : Int
  b : Int
  s : Int
  sw : Bool
structure Fv where
  pl : Int
  volts : Int
  siem : Int
  limit : Int
structure Lv where
  pl : Int
  units : Int
  rank : Int
structure Gv where
  nodes : Int
  wires : List Wv
  feeds : List Fv
  least : Int
structure Sv where
  feeds : List Bool
  wires : List Bool
def fWv (x : Wv) : List Value := [.int .i64 x.a, .int .i64 x.b, .int .i64 x.s, .bool x.sw]
def fFv (x : Fv) : List Value := [.int .i64 x.pl, .int .i64 x.volts, .int .i64 x.siem, .int .i64 x.limit]
def fLv (x : Lv) : List Value := [.int .i64 x.pl, .int .i64 x.units, .int .i64 x.rank]
def fB (x : Bool) : List Value := [.bool x]
def CW (x : Wv) (cs : List Value) : Prop := cs = fWv x
def CF (x : Fv) (cs : List Value) : Prop := cs = fFv x
def CL (x : Lv) (cs : List Value) : Prop := cs = fLv x
def CB (x : Bool) (cs : List Value) : Prop := cs = fB x
section
variable {w w' : World} {B B' : Nat} {A : Option Addr}
theorem wire_at {l : List Wv} (h : Sl w B 4 CW A l) {i : Nat} (hi : i < l.length) :
    ∃ b off, A = some ⟨b, off, none⟩ ∧ b < B ∧ w.cell? ⟨b, off + i * 4, none⟩ = some (.int .i64 l[i].a) ∧ w.cell? ⟨b, off + i * 4 + 1, none⟩ = some (.int .i64 l[i].b) ∧ w.cell? ⟨b, off + i * 4 + 2, none⟩ = some (.int .i64 l[i].s) ∧ w.cell? ⟨b, off + i * 4 + 3, none⟩ = some (.bool l[i].sw) := by
  obtain ⟨b, off, cs, e, hb, rfl, hc⟩ := h.at_ hi
  exact ⟨b, off, e, hb, hc 0 _ rfl, hc 1 _ rfl, hc 2 _ rfl, hc 3 _ rfl⟩
theorem feed_at {l : List Fv} (h : Sl w B 4 CF A l) {i : Nat} (hi : i < l.length) :
    ∃ b off, A = some ⟨b, off, none⟩ ∧ b < B ∧ w.cell? ⟨b, off + i * 4, none⟩ = some (.int .i64 l[i].pl) ∧ w.cell? ⟨b, off + i * 4 + 1, none⟩ = some (.int .i64 l[i].volts) ∧ w.cell? ⟨b, off + i * 4 + 2, none⟩ = some (.int .i64 l[i].siem) ∧ w.cell? ⟨b, off + i * 4 + 3, none⟩ = some (.int .i64 l[i].limit) := by
  obtain ⟨b, off, cs, e, hb, rfl, hc⟩ := h.at_ hi
  exact ⟨b, off, e, hb, hc 0 _ rfl, hc 1 _ rfl, hc 2 _ rfl, hc 3 _ rfl⟩
theorem load_at {l : List Lv} (h : Sl w B 3 CL A l) {i : Nat} (hi : i < l.length) :
    ∃ b off, A = some ⟨b, off, none⟩ ∧ b < B ∧ w.cell? ⟨b, off + i * 3, none⟩ = some (.int .i64 l[i].pl) ∧ w.cell? ⟨b, off + i * 3 + 1, none⟩ = some (.int .i64 l[i].units) ∧ w.cell? ⟨b, off + i * 3 + 2, none⟩ = some (.int .i64 l[i].rank) := by
  obtain ⟨b, off, cs, e, hb, rfl, hc⟩ := h.at_ hi
  exact ⟨b, off, e, hb, hc 0 _ rfl, hc 1 _ rfl, hc 2 _ rfl⟩
theorem bool_at {l : List Bool} (h : Sl w B 1 CB A l) {i : Nat} (hi : i < l.length) :
    ∃ b off, A = some ⟨b, off, none⟩ ∧ b < B ∧ w.cell? ⟨b, off + i, none⟩ = some (.bool l[i]) := by
  obtain ⟨b, off, cs, e, hb, rfl, hc⟩ := h.at_ hi
  exact ⟨b, off, e, hb, by have := hc 0 _ rfl; simpa using this⟩
/-- a grid in memory, below block B -/
structure GAt (w : World) (B : Nat) (Aw : Option Addr) (nw : Nat) (Af : Option Addr) (nf : Nat) (g : Gv) : Prop where
  wl : g.wires.length = nw
  ws : Sl w B 4 CW Aw g.wires
  wm : nw ≤ 100000
  fl : g.feeds.length = nf
  fs : Sl w B 4 CF Af g.feeds
  fm : nf ≤ 100000
theorem GAt.below {Aw Af : Option Addr} {nw nf : Nat} {g : Gv} (h : GAt w B Aw nw Af nf g) (hb : Below B w w') : GAt w' B Aw nw Af nf g := ⟨h.wl, h.ws.below hb, h.wm, h.fl, h.fs.below hb, h.fm⟩
theorem GAt.more {Aw Af : Option Addr} {nw nf : Nat} {g : Gv} (h : GAt w B Aw nw Af nf g) (hb : B ≤ B') : GAt w B' Aw nw Af nf g := ⟨h.wl, h.ws.more (fun _ _ h => h) hb, h.wm, h.fl, h.fs.more (fun _ _ h => h) hb, h.fm⟩
/-- a state in memory, below block B -/
structure SAt (w : World) (B : Nat) (As : Option Addr) (ns : Nat) (At : Option Addr) (nt : Nat) (s : Sv) : Prop where
  fl : s.feeds.length = ns
  fs : Sl w B 1 CB As s.feeds
  fm : ns ≤ 100000
  wl : s.wires.length = nt
  ws : Sl w B 1 CB At s.wires
  wm : nt ≤ 100000
theorem SAt.below {As At : Option Addr} {ns nt : Nat} {s : Sv} (h : SAt w B As ns At nt s) (hb : Below B w w') : SAt w' B As ns At nt s := ⟨h.fl, h.fs.below hb, h.fm, h.wl, h.ws.below hb, h.wm⟩
theorem SAt.more {As At : Option Addr} {ns nt : Nat} {s : Sv} (h : SAt w B As ns At nt s) (hb : B ≤ B') : SAt w B' As ns At nt s := ⟨h.fl, h.fs.more (fun _ _ h => h) hb, h.fm, h.wl, h.ws.more (fun _ _ h => h) hb, h.wm⟩
end
/-- a whole row of n one-cell elements -/
def Rf (w : World) (g : Nat) (t : TypeId) (n : Nat) (f : Nat → Value) : Prop := Rw w g t ((List.range n).map f).toArray
section
variable {w w' : World} {g B n : Nat} {t : TypeId} {f : Nat → Value}
theorem made_row (z : Value) (n : Nat) : madeCells #[z] (n * 1) = ((List.range n).map fun _ => z).toArray := by
  apply Array.ext_getElem?
  intro i
  rw [Nat.mul_one]
  simp only [List.getElem?_toArray, List.getElem?_map]
  by_cases hi : i < n
  · rw [List.getElem?_range hi]; simp [madeCells, hi, Nat.mod_one]
  · rw [List.getElem?_eq_none (by simpa using Nat.le_of_not_lt hi)]; simp [madeCells, hi]
theorem Rf.made (w : World) (z : Value) (n : Nat) (t : TypeId) : Rf (w.alloc (.cells (madeCells #[z] (n * 1)) t)) w.heap.size t n (fun _ => z) := by
  rw [made_row]; exact Rw.new _ _ _
theorem Rf.made1 (w : World) (z : Value) (n : Nat) (t : TypeId) : Rf (w.alloc (.cells (madeCells #[z] n) t)) w.heap.size t n (fun _ => z) := by
  have := Rf.made w z n t
  rwa [Nat.mul_one] at this
theorem Rf.cell (h : Rf w g t n f) {k : Nat} (hk : k < n) : w.cell? ⟨g, k, none⟩ = some (f k) := by
  rw [Rw.cell h]; simp [List.getElem?_range hk]
theorem Rf.frozen (h : Rf w g t n f) (k : Nat) : w.frozen? ⟨g, k, none⟩ = false := Rw.frozen h k
theorem Rf.lt (h : Rf w g t n f) : g < w.heap.size := Rw.lt h
theorem Rf.below (h : Rf w g t n f) (hb : Below B w w') (hg : g < B) : Rf w' g t n f := Rw.below h hb hg
theorem Rf.alloc (h : Rf w g t n f) (o : Obj) : Rf (w.alloc o) g t n f := Rw.alloc h o
theorem Rf.far (h : Rf w g t n f) {k : Nat} (i : Nat) (u : Value) (hk : g ≠ k) : Rf (w.setCell ⟨k, i, none⟩ u) g t n f := Rw.far h i u hk
theorem Rf.set (h : Rf w g t n f) (k : Nat) (u : Value) : Rf (w.setCell ⟨g, k, none⟩ u) g t n (fun j => if j = k then u else f j) := by
  have h2 := Rw.set h k u
  unfold Rf
  have e : ((List.range n).map f).toArray.setIfInBounds k u = ((List.range n).map fun j => if j = k then u else f j).toArray := by
    apply Array.ext_getElem?
    intro i
    rw [Array.getElem?_setIfInBounds]
    simp only [List.getElem?_toArray, List.getElem?_map, List.size_toArray, List.length_map, List.length_range]
    by_cases hi : i < n
    · rw [List.getElem?_range hi]
      by_cases e : k = i
      · subst e; simp [hi]
      · rw [if_neg e]; simp; intro e2; exact absurd e2.symm e
    · rw [List.getElem?_eq_none (by simpa using Nat.le_of_not_lt hi)]
      split
      · rename_i e; subst e; simp [hi]
      · rfl
  rw [← e]; exact h2
theorem Rf.congr (h : Rf w g t n f) {f' : Nat → Value} (he : ∀ k, k < n → f k = f' k) : Rf w g t n f' := by
  unfold Rf at h ⊢
  rw [← List.map_congr_left (fun k hk => he k (List.mem_range.1 hk))]; exact h
theorem Rf.sl {α : Type} {C : α → List Value → Prop} (h : Rf w g t n f) {l : List α} (hl : l.length = n) (hC : ∀ k x, l[k]? = some x → C x [f k]) : Sl w w.heap.size 1 C (some ⟨g, 0, none⟩) l := by
  intro _
  refine ⟨g, 0, rfl, h.lt, fun i x hx => ⟨[f i], hC i x hx, fun j u hu => ?_⟩⟩
  have hi : i < n := by rw [← hl]; exact (List.getElem?_eq_some_iff.1 hx).1
  cases j with
  | succ j => simp at hu
  | zero => simp at hu; subst hu; have := h.cell hi; simpa using this
end
def inB (x lo hi : Int) : Bool := decide (lo ≤ x) && decide (x ≤ hi)
theorem inB_iff {x lo hi : Int} : inB x lo hi = true ↔ lo ≤ x ∧ x ≤ hi := by simp [inB]
set_option maxRecDepth 100000 in
set_option maxHeartbeats 4000000 in
theorem within_any (x lo hi : Int) (w : World) : Calls Tryz.prog 70 #[.int .i64 x, .int .i64 lo, .int .i64 hi] w fun e w' => e = .returned (.bool (inB x lo hi)) ∧ w = w' := by
  by_cases h1 : lo ≤ x
  · have HE := Lib.hid (show inB x lo hi = decide (x ≤ hi) by unfold inB; rw [decide_eq_true h1, Bool.true_and])
    go_enter Tryz.func70, Tryz.ntmps70
    go_wp2
    go_ret
    exact ⟨by rw [HE.out]; first | done | rfl | simp, rfl⟩
  · have HE := Lib.hid (show inB x lo hi = false by unfold inB; rw [decide_eq_false h1, Bool.false_and])
    go_enter Tryz.func70, Tryz.ntmps70
    go_wp2
    go_ret
    exact ⟨by rw [HE.out]; first | done | rfl | simp, rfl⟩
set_option maxRecDepth 100000 in
set_option maxHeartbeats 4000000 in
theorem in_any (x lo hi : Int) (w : World) : Calls Tryz.prog 50 #[.int .i64 x, .int .i64 lo, .int .i64 hi] w fun e w' => e = .returned (.bool (inB x lo hi)) ∧ w = w' := by
  by_cases h1 : lo ≤ x
  · have HE := Lib.hid (show inB x lo hi = decide (x ≤ hi) by unfold inB; rw [decide_eq_true h1, Bool.true_and])
    go_enter Tryz.func50, Tryz.ntmps50
    go_wp2
    go_ret
    exact ⟨by rw [HE.out]; first | done | rfl | simp, rfl⟩
  · have HE := Lib.hid (show inB x lo hi = false by unfold inB; rw [decide_eq_false h1, Bool.false_and])
    go_enter Tryz.func50, Tryz.ntmps50
    go_wp2
    go_ret
    exact ⟨by rw [HE.out]; first | done | rfl | simp, rfl⟩
end Go.Proofs.YtbnfnpakibkboaaGreat

namespace Go.Proofs.YtbnfnpakibkboaaGreat
set_option linter.unusedVariables false
set_option linter.unusedSimpArgs false
open Go.RowKit

def popc : Nat → Nat → Nat
  | 0, _ => 0
  | k + 1, x => x % 2 + popc k (x / 2)
set_option maxRecDepth 100000 in
set_option maxHeartbeats 4000000 in
theorem ones103_any (x : Nat) (hx : x < 2048) (w : World) : Calls Tryz.prog 103 #[.int .u64 (x : Int)] w fun e w' => e = .returned (.int .i64 (popc 11 x : Int)) ∧ w = w' := by
  go_enter Tryz.func103, Tryz.ntmps103
  go_wp2
  go_ret
  refine ⟨?_, rfl⟩
  refine congrArg Ending.returned (congrArg (Value.int IntKind.i64) ?_)
  clear w
  revert x
  decide +kernel
set_option maxRecDepth 100000 in
set_option maxHeartbeats 4000000 in
theorem ones_any (x : Nat) (hx : x < 2048) (w : World) : Calls Tryz.prog 87 #[.int .u64 (x : Int)] w fun e w' => e = .returned (.int .i64 (popc 11 x : Int)) ∧ w = w' := by
  have HI := Lib.hid (ones103_any x hx w)
  obtain ⟨k, hk⟩ : ∃ k, popc 11 x = k := ⟨_, rfl⟩
  rw [hk] at HI ⊢
  clear hk
  go_enter Tryz.func87, Tryz.ntmps87
  go_wp2_with fail
  (with_reducible refine (HI.out).mono ?_)
  rintro e w3 ⟨rfl, rfl⟩
  go_wp2
  go_ret
  exact ⟨rfl, rfl⟩
end Go.Proofs.YtbnfnpakibkboaaGreat
