/- Contracts of the specification: Same of fouls, Profiles, Rails. -/
import Derived.Test.YtekambdnmaompaaGreatJ4
import Derived.Test.YtekambdnmaompaaGreatJ7
import Derived.Test.YtekambdnmaompaaGreatJS
namespace Go.Proofs.YtekambdnmaompaaGreat.SW
set_option linter.unusedVariables false
set_option linter.unusedSimpArgs false
open Go.RowKit

/-- two rails and their profiles, by number -/
structure Fo4 where
  ra : Int
  pa : Int
  rb : Int
  pb : Int
def CFo (s : Fo4) (cs : List Value) : Prop := cs = [.int .i64 s.ra, .int .i64 s.pa, .int .i64 s.rb, .int .i64 s.pb]
def fF (s : Fo4) : List Value := [.int .i64 s.ra, .int .i64 s.pa, .int .i64 s.rb, .int .i64 s.pb]
theorem fF_len (s : Fo4) : (fF s).length = 4 := rfl
theorem fF_one (s : Fo4) : ∀ u ∈ fF s, u.oneCell' = true := by simp [fF, Value.oneCell']
theorem info60 : (Tryz.prog.info? 60).map (fun i => (i.zero, i.size, i.bytes)) = some (some (.agg #[.int .i64 0, .int .i64 0, .int .i64 0, .int .i64 0]), 4, 32) := by kernel_rfl
theorem foul_at {w : World} {B : Nat} {l : List Fo4} {A : Option Addr} (h : Sl w B 4 CFo A l) {i : Nat} (hi : i < l.length) :
    ∃ b off, A = some ⟨b, off, none⟩ ∧ b < B ∧ w.cell? ⟨b, off + i * 4, none⟩ = some (.int .i64 l[i].ra) ∧ w.cell? ⟨b, off + i * 4 + 1, none⟩ = some (.int .i64 l[i].pa) ∧ w.cell? ⟨b, off + i * 4 + 2, none⟩ = some (.int .i64 l[i].rb) ∧ w.cell? ⟨b, off + i * 4 + 3, none⟩ = some (.int .i64 l[i].pb) := by
  obtain ⟨b, off, cs, e, hb, rfl, hc⟩ := h.at_ hi
  exact ⟨b, off, e, hb, hc 0 _ rfl, hc 1 _ rfl, hc 2 _ rfl, hc 3 _ rfl⟩
set_option maxHeartbeats 1000000 in
theorem sameFouls_any (A B : Option Addr) (l m : List Fo4) (c d : Nat) (w : World) (hA : Sl w w.heap.size 4 CFo A l) (hB : Sl w w.heap.size 4 CFo B m) (hl : l.length ≤ 140737488351232) :
    Calls Tryz.prog 33 #[.slice A l.length c, .slice B m.length d] w (SamePost l m w) := by
  by_cases hlen : l.length = m.length
  · have H := Lib.hid hlen
    have h1 : ((l.length : Int) != (m.length : Int)) = false := by simp [hlen]
    have h2 : (!((l.length : Int) == (m.length : Int))) = false := by simp [hlen]
    clear hlen
    go_enter Tryz.func33, Tryz.ntmps33
    go_wp2
    go_loopw [5] (fun i wr => ∃ k : Nat, k ≤ l.length ∧ i = .int .i64 k ∧ l.take k = m.take k ∧ Below w.heap.size w wr) (fun i _ => l.length - (intOf i).toNat)
    case atStart => exact ⟨0, Nat.zero_le _, rfl, rfl, Below.refl _ _⟩
    case round =>
      obtain ⟨k, hk, rfl, htk, hb⟩ := hrel
      have HT := Lib.hid htk; clear htk
      by_cases hlt : k < l.length
      · have hlt' : k < m.length := by rw [← H.out]; exact hlt
        obtain ⟨b1, o1, e1, g1, q10, q11, q12, q13⟩ := foul_at (hA.below hb) hlt
        obtain ⟨b2, o2, e2, g2, q20, q21, q22, q23⟩ := foul_at (hB.below hb) hlt'
        obtain ⟨x0, x1, x2, x3, hx⟩ : ∃ x0 x1 x2 x3, l[k] = (⟨x0, x1, x2, x3⟩ : Fo4) := ⟨l[k].ra, l[k].pa, l[k].rb, l[k].pb, rfl⟩
        obtain ⟨y0, y1, y2, y3, hy⟩ : ∃ y0 y1 y2 y3, m[k] = (⟨y0, y1, y2, y3⟩ : Fo4) := ⟨m[k].ra, m[k].pa, m[k].rb, m[k].pb, rfl⟩
        rw [hx] at q10
        rw [hy] at q20
        rw [hx] at q11
        rw [hy] at q21
        rw [hx] at q12
        rw [hy] at q22
        rw [hx] at q13
        rw [hy] at q23
        have HX := Lib.hid hx; have HY := Lib.hid hy
        subst e1; subst e2
        clear hx hy
        by_cases h0 : x0 = y0
        case neg =>
          have HN := Lib.hid (show l ≠ m from ne_at hlt hlt' (by rw [HX.out, HY.out]; intro h; injection h; contradiction))
          have n1 : (x0 == y0) = false := by simpa using h0
          clear h0
          go_wp2
          go_quiet (fail)
          go_wp2
          go_ret
          exact ⟨⟨_, rfl, (fun h => by cases h), fun h => absurd h HN.out⟩, bDrewN hb _⟩
        subst h0
        by_cases h1 : x1 = y1
        case neg =>
          have HN := Lib.hid (show l ≠ m from ne_at hlt hlt' (by rw [HX.out, HY.out]; intro h; injection h; contradiction))
          have n1 : (x1 == y1) = false := by simpa using h1
          clear h1
          go_wp2
          go_quiet (fail)
          go_wp2
          go_ret
          exact ⟨⟨_, rfl, (fun h => by cases h), fun h => absurd h HN.out⟩, bDrewN hb _⟩
        subst h1
        by_cases h2 : x2 = y2
        case neg =>
          have HN := Lib.hid (show l ≠ m from ne_at hlt hlt' (by rw [HX.out, HY.out]; intro h; injection h; contradiction))
          have n1 : (x2 == y2) = false := by simpa using h2
          clear h2
          go_wp2
          go_quiet (fail)
          go_wp2
          go_ret
          exact ⟨⟨_, rfl, (fun h => by cases h), fun h => absurd h HN.out⟩, bDrewN hb _⟩
        subst h2
        by_cases h3 : x3 = y3
        case neg =>
          have HN := Lib.hid (show l ≠ m from ne_at hlt hlt' (by rw [HX.out, HY.out]; intro h; injection h; contradiction))
          have n1 : (x3 == y3) = false := by simpa using h3
          clear h3
          go_wp2
          go_quiet (fail)
          go_wp2
          go_ret
          exact ⟨⟨_, rfl, (fun h => by cases h), fun h => absurd h HN.out⟩, bDrewN hb _⟩
        subst h3
        go_wp2
        go_quiet (fail)
        go_wp2
        go_roundw
        case rel => exact ⟨k + 1, by omega, by go_num, take_next HT.out hlt hlt' (HX.out.trans HY.out.symm), bDrewN hb _⟩
        case measure => simp [intOf]; omega
      · obtain rfl : k = l.length := by omega
        have HQ := Lib.hid (show l = m by have := HT.out; rwa [List.take_length, H.out, List.take_length] at this)
        go_wp2
        go_ret
        exact ⟨⟨_, rfl, fun _ => HQ.out, fun _ => rfl⟩, hb⟩
  · have H := Lib.hid (show l ≠ m from fun e => hlen (by rw [e]))
    have h1 : ((l.length : Int) != (m.length : Int)) = true := by simp; omega
    have h2 : (!((l.length : Int) == (m.length : Int))) = true := by simp; omega
    clear hlen
    go_enter Tryz.func33, Tryz.ntmps33
    go_wp2
    go_ret
    exact ⟨⟨_, rfl, (fun h => by cases h), fun h => absurd h H.out⟩, Below.refl _ _⟩

/-- are two rails foul for two profiles -/
def railsB (L L2 : List S) (r r2 : Nat) (hx sx hy sy : Int) : Bool := (List.range (L.length - 1)).any fun i => (List.range (L2.length - 1)).any fun k => foulB (stripAt r L i) (stripAt r2 L2 k) hx sx hy sy
end Go.Proofs.YtekambdnmaompaaGreat.SW
