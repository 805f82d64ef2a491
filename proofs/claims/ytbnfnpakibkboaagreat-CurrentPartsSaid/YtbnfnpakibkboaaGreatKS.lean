/- Texts C58 C59 C60 C61. -/
import Derived.Test.YtbnfnpakibkboaaGreatKR
namespace Go.Proofs.YtbnfnpakibkboaaGreat
set_option linter.unusedVariables false
set_option linter.unusedSimpArgs false
open Go.RowKit

def ExPost (w : World) (e : Ending) (w' : World) : Prop := ∃ b1 b2 b3 b4 b5 : Nat, e = .returned (.tuple #[.agg #[.int .i64 3, .slice (some ⟨b1, 0, none⟩) 2 2, .slice (some ⟨b2, 0, none⟩) 2 2, .int .i64 500], .agg #[.slice (some ⟨b3, 0, none⟩) 2 2, .slice (some ⟨b4, 0, none⟩) 2 2], .slice (some ⟨b5, 0, none⟩) 1 1]) ∧
  Rw w' b1 60 #[.int .i64 0, .int .i64 1, .int .i64 2, .bool false, .int .i64 1, .int .i64 2, .int .i64 1, .bool true] ∧ Rw w' b2 58 #[.int .i64 0, .int .i64 600, .int .i64 2, .int .i64 100, .int .i64 2, .int .i64 600, .int .i64 1, .int .i64 30] ∧ Rw w' b3 4 #[.bool true, .bool true] ∧ Rw w' b4 4 #[.bool true, .bool false] ∧ Rw w' b5 79 #[.int .i64 1, .int .i64 40, .int .i64 0] ∧ w.heap.size ≤ b1 ∧ b1 < b2 ∧ b2 < b3 ∧ b3 < b4 ∧ b4 < b5 ∧ Below w.heap.size w w'
set_option maxRecDepth 100000 in
set_option maxHeartbeats 8000000 in
theorem example_any (w : World) : Calls Tryz.prog 46 #[] w fun e w' => ExPost w e w' := by
  obtain ⟨s0, hs0⟩ : ∃ s, w.heap.size = s := ⟨_, rfl⟩
  obtain ⟨p0, p1⟩ := rows2 w #[.int .i64 0, .slice none 0 0, .slice none 0 0, .int .i64 0] #[.slice none 0 0, .slice none 0 0] 25 28
  obtain ⟨W1, hW1⟩ : ∃ y, (w.alloc (.cells #[.int .i64 0, .slice none 0 0, .slice none 0 0, .int .i64 0] 25)).alloc (.cells #[.slice none 0 0, .slice none 0 0] 28) = y := ⟨_, rfl⟩
  have hb1 := ((Below.refl w.heap.size w).alloc (Nat.le_refl _) (.cells #[.int .i64 0, .slice none 0 0, .slice none 0 0, .int .i64 0] 25)).alloc (by simp) (.cells #[.slice none 0 0, .slice none 0 0] 28)
  have hz1 : ((w.alloc (.cells #[.int .i64 0, .slice none 0 0, .slice none 0 0, .int .i64 0] 25)).alloc (.cells #[.slice none 0 0, .slice none 0 0] 28)).heap.size = s0 + 2 := by simp [hs0]
  rw [hW1] at p0 p1 hb1 hz1
  rw [hs0] at p0 p1 hb1
  go_enter Tryz.func46, Tryz.ntmps46
  go_upto_region 1 with (fail)
  have qz : Rw (((W1.alloc (.cells #[.int .i64 0, .int .i64 1, .int .i64 2, .bool false, .int .i64 1, .int .i64 2, .int .i64 1, .bool true] 60)).alloc (.cells #[.int .i64 0, .int .i64 600, .int .i64 2, .int .i64 100, .int .i64 2, .int .i64 600, .int .i64 1, .int .i64 30] 58)).alloc (.cells #[.int .i64 0, .slice none 0 0, .slice none 0 0, .int .i64 0] 25)) (s0 + 2 + 1 + 1) 25 #[.int .i64 0, .slice none 0 0, .slice none 0 0, .int .i64 0] := by
    have := Rw.new ((W1.alloc (.cells #[.int .i64 0, .int .i64 1, .int .i64 2, .bool false, .int .i64 1, .int .i64 2, .int .i64 1, .bool true] 60)).alloc (.cells #[.int .i64 0, .int .i64 600, .int .i64 2, .int .i64 100, .int .i64 2, .int .i64 600, .int .i64 1, .int .i64 30] 58)) #[.int .i64 0, .slice none 0 0, .slice none 0 0, .int .i64 0] 25
    rw [World.size_alloc, World.size_alloc, hz1] at this; exact this
  have m := qz.cell; have f := qz.frozen
  clear hW1
  go_upto_region 2 with (fail)
  have hb2 := (((Below.refl W1.heap.size W1).alloc (Nat.le_refl _) (.cells #[.int .i64 0, .int .i64 1, .int .i64 2, .bool false, .int .i64 1, .int .i64 2, .int .i64 1, .bool true] 60)).alloc (by simp) (.cells #[.int .i64 0, .int .i64 600, .int .i64 2, .int .i64 100, .int .i64 2, .int .i64 600, .int .i64 1, .int .i64 30] 58)).alloc (by simp; omega) (.cells #[.int .i64 3, .slice (some ⟨s0 + 2, 0, none⟩) 2 2, .slice (some ⟨s0 + 2 + 1, 0, none⟩) 2 2, .int .i64 500] 25)
  obtain ⟨r1, r2, r3⟩ := rows3 W1 #[.int .i64 0, .int .i64 1, .int .i64 2, .bool false, .int .i64 1, .int .i64 2, .int .i64 1, .bool true] #[.int .i64 0, .int .i64 600, .int .i64 2, .int .i64 100, .int .i64 2, .int .i64 600, .int .i64 1, .int .i64 30] #[.int .i64 3, .slice (some ⟨s0 + 2, 0, none⟩) 2 2, .slice (some ⟨s0 + 2 + 1, 0, none⟩) 2 2, .int .i64 500] 60 58 25
  have hz2 : (((W1.alloc (.cells #[.int .i64 0, .int .i64 1, .int .i64 2, .bool false, .int .i64 1, .int .i64 2, .int .i64 1, .bool true] 60)).alloc (.cells #[.int .i64 0, .int .i64 600, .int .i64 2, .int .i64 100, .int .i64 2, .int .i64 600, .int .i64 1, .int .i64 30] 58)).alloc (.cells #[.int .i64 3, .slice (some ⟨s0 + 2, 0, none⟩) 2 2, .slice (some ⟨s0 + 2 + 1, 0, none⟩) 2 2, .int .i64 500] 25)).heap.size = s0 + 5 := by simp [hz1]
  obtain ⟨W2, hW2⟩ : ∃ y, ((W1.alloc (.cells #[.int .i64 0, .int .i64 1, .int .i64 2, .bool false, .int .i64 1, .int .i64 2, .int .i64 1, .bool true] 60)).alloc (.cells #[.int .i64 0, .int .i64 600, .int .i64 2, .int .i64 100, .int .i64 2, .int .i64 600, .int .i64 1, .int .i64 30] 58)).alloc (.cells #[.int .i64 3, .slice (some ⟨s0 + 2, 0, none⟩) 2 2, .slice (some ⟨s0 + 2 + 1, 0, none⟩) 2 2, .int .i64 500] 25) = y := ⟨_, rfl⟩
  rw [hW2] at hb2 r1 r2 r3 hz2 ⊢
  rw [hz1] at r1 r2 r3
  have hb12 : Below s0 w W2 := hb1.trans (hb2.mono (by omega))
  have p0b := p0.below hb2 (by omega); have p1b := p1.below hb2 (by omega)
  have r1' : Rw W2 (s0 + 2) 60 #[.int .i64 0, .int .i64 1, .int .i64 2, .bool false, .int .i64 1, .int .i64 2, .int .i64 1, .bool true] := r1
  have r2' : Rw W2 (s0 + 3) 58 #[.int .i64 0, .int .i64 600, .int .i64 2, .int .i64 100, .int .i64 2, .int .i64 600, .int .i64 1, .int .i64 30] := r2
  have r3' : Rw W2 (s0 + 4) 25 #[.int .i64 3, .slice (some ⟨s0 + 2, 0, none⟩) 2 2, .slice (some ⟨s0 + 2 + 1, 0, none⟩) 2 2, .int .i64 500] := r3
  have HX := Lib.hid (And.intro r1' (And.intro r2' (And.intro p0b (And.intro p1b (And.intro hb12 hz2)))))
  have m3 := (show Rw W2 (s0 + 2 + 1 + 1) 25 #[.int .i64 3, .slice (some ⟨s0 + 2, 0, none⟩) 2 2, .slice (some ⟨s0 + 2 + 1, 0, none⟩) 2 2, .int .i64 500] from r3).cell
  have pa := ((p0b.alloc (.cells #[.bool true, .bool true] 4)).alloc (.cells #[.bool true, .bool false] 4)).alloc (.cells #[.int .i64 1, .int .i64 40, .int .i64 0] 79)
  have pb := ((p1b.alloc (.cells #[.bool true, .bool true] 4)).alloc (.cells #[.bool true, .bool false] 4)).alloc (.cells #[.int .i64 1, .int .i64 40, .int .i64 0] 79)
  have ma0 := p0b.cell; have fa0 := p0b.frozen; have mb0 := p1b.cell; have fb0 := p1b.frozen
  have ma := pa.cell; have fa := pa.frozen; have mb := pb.cell; have fb := pb.frozen
  have p0c := p0b; have p1c := p1b
  clear m f qz hb2 r1 r2 r3 p0b p1b r1' r2' r3' hb12 pa pb p0 p1 hb1 hz1 hW2
  clear ma fa mb fb
  have pa := ((p0c.alloc (.cells #[.bool true, .bool true] 4)).alloc (.cells #[.bool true, .bool false] 4)).alloc (.cells #[.int .i64 1, .int .i64 40, .int .i64 0] 79)
  have pb := ((p1c.alloc (.cells #[.bool true, .bool true] 4)).alloc (.cells #[.bool true, .bool false] 4)).alloc (.cells #[.int .i64 1, .int .i64 40, .int .i64 0] 79)
  have ma := pa.cell; have fa := pa.frozen; have mb := pb.cell; have fb := pb.frozen
  clear pa pb p0c p1c
  go_wp2
  (try simp only [Exit.inBlock, Exit.then])
  clear ma fa mb fb ma0 fa0 mb0 fb0 m3
  obtain ⟨y1, y2, y3, y4, y5, y6⟩ := HX.out
  have z3 := ((((((y3.set 0 (.int .i64 3)).set 1 (.slice (some ⟨s0 + 2, 0, none⟩) 2 2)).set 2 (.slice (some ⟨s0 + 2 + 1, 0, none⟩) 2 2)).set 3 (.int .i64 500)).far (k := s0 + 1) 0 (.slice (some ⟨s0 + 5, 0, none⟩) 2 2) (by omega)).far (k := s0 + 1) 1 (.slice (some ⟨s0 + 5 + 1, 0, none⟩) 2 2) (by omega))
  have z4 := ((((((y4.far (k := s0) 0 (.int .i64 3) (by omega)).far (k := s0) 1 (.slice (some ⟨s0 + 2, 0, none⟩) 2 2) (by omega)).far (k := s0) 2 (.slice (some ⟨s0 + 2 + 1, 0, none⟩) 2 2) (by omega)).far (k := s0) 3 (.int .i64 500) (by omega)).set 0 (.slice (some ⟨s0 + 5, 0, none⟩) 2 2)).set 1 (.slice (some ⟨s0 + 5 + 1, 0, none⟩) 2 2))
  have z1 := ((((((y1.far (k := s0) 0 (.int .i64 3) (by omega)).far (k := s0) 1 (.slice (some ⟨s0 + 2, 0, none⟩) 2 2) (by omega)).far (k := s0) 2 (.slice (some ⟨s0 + 2 + 1, 0, none⟩) 2 2) (by omega)).far (k := s0) 3 (.int .i64 500) (by omega)).far (k := s0 + 1) 0 (.slice (some ⟨s0 + 5, 0, none⟩) 2 2) (by omega)).far (k := s0 + 1) 1 (.slice (some ⟨s0 + 5 + 1, 0, none⟩) 2 2) (by omega))
  have z2 := ((((((y2.far (k := s0) 0 (.int .i64 3) (by omega)).far (k := s0) 1 (.slice (some ⟨s0 + 2, 0, none⟩) 2 2) (by omega)).far (k := s0) 2 (.slice (some ⟨s0 + 2 + 1, 0, none⟩) 2 2) (by omega)).far (k := s0) 3 (.int .i64 500) (by omega)).far (k := s0 + 1) 0 (.slice (some ⟨s0 + 5, 0, none⟩) 2 2) (by omega)).far (k := s0 + 1) 1 (.slice (some ⟨s0 + 5 + 1, 0, none⟩) 2 2) (by omega))
  have zb := (((((y5.setCell (p := ⟨s0, 0, none⟩) (Nat.le_refl _) (.int .i64 3)).setCell (p := ⟨s0, 1, none⟩) (Nat.le_refl _) (.slice (some ⟨s0 + 2, 0, none⟩) 2 2)).setCell (p := ⟨s0, 2, none⟩) (Nat.le_refl _) (.slice (some ⟨s0 + 2 + 1, 0, none⟩) 2 2)).setCell (p := ⟨s0, 3, none⟩) (Nat.le_refl _) (.int .i64 500)).setCell (p := ⟨s0 + 1, 0, none⟩) (Nat.le_succ _) (.slice (some ⟨s0 + 5, 0, none⟩) 2 2)).setCell (p := ⟨s0 + 1, 1, none⟩) (Nat.le_succ _) (.slice (some ⟨s0 + 5 + 1, 0, none⟩) 2 2)
  obtain ⟨W3, hW3⟩ : ∃ y, (((((W2.setCell ⟨s0, 0, none⟩ (.int .i64 3)).setCell ⟨s0, 1, none⟩ (.slice (some ⟨s0 + 2, 0, none⟩) 2 2)).setCell ⟨s0, 2, none⟩ (.slice (some ⟨s0 + 2 + 1, 0, none⟩) 2 2)).setCell ⟨s0, 3, none⟩ (.int .i64 500)).setCell ⟨s0 + 1, 0, none⟩ (.slice (some ⟨s0 + 5, 0, none⟩) 2 2)).setCell ⟨s0 + 1, 1, none⟩ (.slice (some ⟨s0 + 5 + 1, 0, none⟩) 2 2) = y := ⟨_, rfl⟩
  have hz3 : W3.heap.size = s0 + 5 := by rw [← hW3]; simp [World.setCell, y6]
  rw [hW3] at z1 z2 z3 z4 zb ⊢
  obtain ⟨x3, x4, x5⟩ := rows3 W3 #[.bool true, .bool true] #[.bool true, .bool false] #[.int .i64 1, .int .i64 40, .int .i64 0] 4 4 79
  rw [hz3] at x3 x4 x5
  have hbe := ((zb.alloc (by omega) (.cells #[.bool true, .bool true] 4)).alloc (by simp; omega) (.cells #[.bool true, .bool false] 4)).alloc (by simp; omega) (.cells #[.int .i64 1, .int .i64 40, .int .i64 0] 79)
  have z1' := ((z1.alloc (.cells #[.bool true, .bool true] 4)).alloc (.cells #[.bool true, .bool false] 4)).alloc (.cells #[.int .i64 1, .int .i64 40, .int .i64 0] 79)
  have z2' := ((z2.alloc (.cells #[.bool true, .bool true] 4)).alloc (.cells #[.bool true, .bool false] 4)).alloc (.cells #[.int .i64 1, .int .i64 40, .int .i64 0] 79)
  have z3' := ((z3.alloc (.cells #[.bool true, .bool true] 4)).alloc (.cells #[.bool true, .bool false] 4)).alloc (.cells #[.int .i64 1, .int .i64 40, .int .i64 0] 79)
  have z4' := ((z4.alloc (.cells #[.bool true, .bool true] 4)).alloc (.cells #[.bool true, .bool false] 4)).alloc (.cells #[.int .i64 1, .int .i64 40, .int .i64 0] 79)
  refine bodyPost_ret (res_cct rfl _ _ _ _ _ _ _ _ _ _ _ rfl rfl rfl (show Rw _ s0 25 #[.int .i64 3, .slice (some ⟨s0 + 2, 0, none⟩) 2 2, .slice (some ⟨s0 + 2 + 1, 0, none⟩) 2 2, .int .i64 500] from z3') (show Rw _ (s0 + 1) 28 #[.slice (some ⟨s0 + 5, 0, none⟩) 2 2, .slice (some ⟨s0 + 5 + 1, 0, none⟩) 2 2] from z4') Tryz.underlying25 rfl (by kernel_rfl) Tryz.underlying28 rfl (by kernel_rfl)) rfl ?_
  exact ⟨s0 + 2, s0 + 3, s0 + 5, s0 + 6, s0 + 7, rfl, z1', z2', x3, x4, x5, by omega, by omega, by omega, by omega, by omega, by rw [hs0]; exact hbe⟩
end Go.Proofs.YtbnfnpakibkboaaGreat

namespace Go.Proofs.YtbnfnpakibkboaaGreat
set_option linter.unusedVariables false
set_option linter.unusedSimpArgs false
open Go.RowKit

theorem Rw.sls {α : Type} {w : World} {g B size : Nat} {t : TypeId} {cs : Array Value} {f : α → List Value} {l : List α} (h : Rw w g t cs) (hf : ∀ x, (f x).length = size) (he : (l.flatMap f).toArray = cs) (hB : g < B) : Sl w B size (fun x cs => cs = f x) (some ⟨g, 0, none⟩) l := by
  intro _
  refine ⟨g, 0, rfl, hB, fun i x hx => ⟨f x, rfl, fun j u hu => ?_⟩⟩
  have hj : j < size := by rw [← hf x]; exact (List.getElem?_eq_some_iff.1 hu).1
  have := h.cell (0 + i * size + j)
  rw [this, ← he, List.getElem?_toArray, Nat.zero_add, flat_get hf hj, hx]
  exact hu
theorem cellQ_sl {w : World} {b n : Nat} {Q : Nat → Int × Int} (h : Rf w b 55 (n * 2) (cellQ Q)) : Sl w w.heap.size 2 CQ (some ⟨b, 0, none⟩) ((List.range n).map Q) := by
  intro _
  refine ⟨b, 0, rfl, h.lt, fun i x hx => ⟨fQ x, rfl, fun j u hu => ?_⟩⟩
  have hj : j < 2 := (List.getElem?_eq_some_iff.1 hu).1
  rw [List.getElem?_map] at hx
  have hi : i < n := by
    by_cases hi : i < n
    · exact hi
    · rw [List.getElem?_eq_none (by simp; omega)] at hx; cases hx
  rw [List.getElem?_range hi] at hx
  injection hx with hx
  rw [Nat.zero_add]
  rw [h.cell (show i * 2 + j < n * 2 by omega)]
  congr 1
  unfold cellQ
  rw [show (i * 2 + j) / 2 = i from by omega, show (i * 2 + j) % 2 = j from by omega]
  show ((fQ (Q i))[j]?).getD undef = u
  rw [hx, hu]; rfl
theorem SvPost.ok {g : Gv} {s : Sv} {ls : List Lv} {w w' : World} {e : Ending} (h : SvPost g s ls w e w') (h1 : okB g s ls = true) (h2 : smallP (zOf g s ls).ps = true) (h3 : (zOf g s ls).solved s.feeds (List.replicate ls.length true) = true) :
    Below w.heap.size w w' ∧ ∃ b1 b2 : Nat, e = .returned (.tuple #[.slice (some ⟨b1, 0, none⟩) (zOf g s ls).N (zOf g s ls).N, .slice (some ⟨b2, 0, none⟩) g.feeds.length g.feeds.length, .int .i64 0]) ∧
      w.heap.size ≤ b1 ∧ w.heap.size ≤ b2 ∧ Rf w' b1 55 ((zOf g s ls).N * 2) (cellQ (fun c => redQ ((zOf g s ls).volt s.feeds (List.replicate ls.length true) c))) ∧ Rf w' b2 55 (g.feeds.length * 2) (cellQ (fun f => redQ ((zOf g s ls).amp s.feeds (List.replicate ls.length true) f))) := by
  obtain ⟨hb, hp⟩ := h
  refine ⟨hb, ?_⟩
  rcases hp with ⟨a, _⟩ | ⟨_, a, _⟩ | ⟨_, _, a, _⟩ | ⟨_, _, _, a⟩
  · rw [h1] at a; cases a
  · rw [h2] at a; cases a
  · rw [h3] at a; cases a
  · exact a
theorem StlPost.ok {g : Gv} {s : Sv} {ls : List Lv} {w w' : World} {e : Ending} (h : StlPost g s ls w e w') (h1 : okB g s ls = true) (h2 : smallP (zOf g s ls).ps = true) :
    Below w.heap.size w w' ∧ ∃ (sV sF sN sW sR sC : Sc) (l : List C1c) (f r : List Bool), e = .returned (.tuple #[.agg #[.slice sV.A sV.n sV.c, .slice sF.A sF.n sF.c, .slice sN.A sN.n sN.c, .slice sW.A sW.n sW.c, .slice sR.A sR.n sR.c, .slice sC.A sC.n sC.c], .int .i64 0]) ∧ StlM w' w.heap.size (zOf g s ls) s.feeds (List.replicate ls.length true) sV sF sN sW sR sC l f r := by
  obtain ⟨hb, hp⟩ := h
  refine ⟨hb, ?_⟩
  rcases hp with ⟨a, _⟩ | ⟨_, a, _⟩ | ⟨_, _, a⟩
  · rw [h1] at a; cases a
  · rw [h2] at a; cases a
  · exact a
/-- the example in memory -/
structure ExAt (w : World) (lo b1 b2 b3 b4 b5 : Nat) (lim : Int) : Prop where
  r1 : Rw w b1 60 #[.int .i64 0, .int .i64 1, .int .i64 2, .bool false, .int .i64 1, .int .i64 2, .int .i64 1, .bool true]
  r2 : Rw w b2 58 #[.int .i64 0, .int .i64 600, .int .i64 2, .int .i64 lim, .int .i64 2, .int .i64 600, .int .i64 1, .int .i64 30]
  r3 : Rw w b3 4 #[.bool true, .bool true]
  r4 : Rw w b4 4 #[.bool true, .bool false]
  r5 : Rw w b5 79 #[.int .i64 1, .int .i64 40, .int .i64 0]
  n : lo ≤ b1 ∧ b1 < b2 ∧ b2 < b3 ∧ b3 < b4 ∧ b4 < b5
section
variable {w w' : World} {lo b1 b2 b3 b4 b5 : Nat} {lim : Int}
theorem ExAt.below (h : ExAt w lo b1 b2 b3 b4 b5 lim) (hb : Below w.heap.size w w') : ExAt w' lo b1 b2 b3 b4 b5 lim :=
  ⟨h.r1.below hb h.r1.lt, h.r2.below hb h.r2.lt, h.r3.below hb h.r3.lt, h.r4.below hb h.r4.lt, h.r5.below hb h.r5.lt, h.n⟩
theorem ExAt.g (h : ExAt w lo b1 b2 b3 b4 b5 lim) : GAt w w.heap.size (some ⟨b1, 0, none⟩) 2 (some ⟨b2, 0, none⟩) 2 (exG lim) :=
  ⟨rfl, h.r1.sls fWv_len rfl h.r1.lt, by decide, rfl, h.r2.sls (fun _ => rfl) rfl h.r2.lt, by decide⟩
theorem ExAt.s (h : ExAt w lo b1 b2 b3 b4 b5 lim) : SAt w w.heap.size (some ⟨b3, 0, none⟩) 2 (some ⟨b4, 0, none⟩) 2 (exS false) :=
  ⟨rfl, h.r3.sls (f := fB) (size := 1) (fun _ => rfl) rfl h.r3.lt, by decide, rfl, h.r4.sls (f := fB) (size := 1) (fun _ => rfl) rfl h.r4.lt, by decide⟩
theorem on_s {c1 c2 : Nat} (h1 : Rw w c1 4 #[.bool true, .bool true]) (h2 : Rw w c2 4 #[.bool true, .bool true]) : SAt w w.heap.size (some ⟨c1, 0, none⟩) 2 (some ⟨c2, 0, none⟩) 2 (exS true) :=
  ⟨rfl, h1.sls (f := fB) (size := 1) (fun _ => rfl) rfl h1.lt, by decide, rfl, h2.sls (f := fB) (size := 1) (fun _ => rfl) rfl h2.lt, by decide⟩
theorem ExAt.l (h : ExAt w lo b1 b2 b3 b4 b5 lim) : Sl w w.heap.size 3 CL (some ⟨b5, 0, none⟩) exL := h.r5.sls (fun _ => rfl) rfl h.r5.lt
end
set_option maxRecDepth 100000 in
set_option maxHeartbeats 8000000 in
theorem known_any (w : World) : Calls Tryz.prog 15 #[] w fun e w' => e = .returned (.bool true) ∧ Below w.heap.size w w' := by
  have HE := Lib.hid (example_any w)
  go_enter Tryz.func15, Tryz.ntmps15
  go_wp2_with fail
  (with_reducible refine (HE.out).mono ?_)
  rintro e w1 ⟨b1, b2, b3, b4, b5, rfl, x1, x2, x3, x4, x5, n1, n2, n3, n4, n5, hb1⟩
  have hx : ExAt w1 w.heap.size b1 b2 b3 b4 b5 100 := ⟨x1, x2, x3, x4, x5, n1, n2, n3, n4, n5⟩
  have HX := Lib.hid hx; have HB1 := Lib.hid hb1
  obtain ⟨z1, z2⟩ := rows2 w1 #[.int .i64 0, .slice none 0 0, .slice none 0 0, .int .i64 0] #[.slice none 0 0, .slice none 0 0] 25 28
  have m1 := z1.cell; have f1 := z1.frozen; have m2 := z2.cell; have f2 := z2.frozen
  have z3 := Rw.new w1 #[.int .i64 0, .slice none 0 0, .slice none 0 0, .int .i64 0] 25
  have m3 := z3.cell; have f3 := z3.frozen
  clear x1 x2 x3 x4 x5 n1 n2 n3 n4 n5 hb1 hx z1 z2 z3
  go_upto_region 2 with (fail)
  obtain ⟨q1, q2⟩ := rows2 w1 #[.int .i64 3, .slice (some ⟨b1, 0, none⟩) 2 2, .slice (some ⟨b2, 0, none⟩) 2 2, .int .i64 500] #[.slice (some ⟨b3, 0, none⟩) 2 2, .slice (some ⟨b4, 0, none⟩) 2 2] 25 28
  have hb2 := ((Below.refl w1.heap.size w1).alloc (Nat.le_refl _) (.cells #[.int .i64 3, .slice (some ⟨b1, 0, none⟩) 2 2, .slice (some ⟨b2, 0, none⟩) 2 2, .int .i64 500] 25)).alloc (by simp) (.cells #[.slice (some ⟨b3, 0, none⟩) 2 2, .slice (some ⟨b4, 0, none⟩) 2 2] 28)
  have hz2 : ((w1.alloc (.cells #[.int .i64 3, .slice (some ⟨b1, 0, none⟩) 2 2, .slice (some ⟨b2, 0, none⟩) 2 2, .int .i64 500] 25)).alloc (.cells #[.slice (some ⟨b3, 0, none⟩) 2 2, .slice (some ⟨b4, 0, none⟩) 2 2] 28)).heap.size = w1.heap.size + 2 := by simp
  obtain ⟨p, hp⟩ : ∃ p, w1.heap.size = p := ⟨_, rfl⟩
  obtain ⟨W2, hW2⟩ : ∃ y, (w1.alloc (.cells #[.int .i64 3, .slice (some ⟨b1, 0, none⟩) 2 2, .slice (some ⟨b2, 0, none⟩) 2 2, .int .i64 500] 25)).alloc (.cells #[.slice (some ⟨b3, 0, none⟩) 2 2, .slice (some ⟨b4, 0, none⟩) 2 2] 28) = y := ⟨_, rfl⟩
  rw [hW2] at q1 q2 hb2 hz2 ⊢
  have hx2 := HX.out.below hb2
  rw [hp] at q1 q2 hz2 ⊢
  have HPW := Lib.hid (show w.heap.size ≤ p from by rw [← hp]; exact HB1.out.size)
  have HB2 := Lib.hid (HB1.out.trans (hb2.mono HB1.out.size))
  have H2 := Lib.hid (show ∀ wx, Below W2.heap.size W2 wx → Rw wx p 25 #[.int .i64 3, .slice (some ⟨b1, 0, none⟩) 2 2, .slice (some ⟨b2, 0, none⟩) 2 2, .int .i64 500] ∧ Rw wx (p + 1) 28 #[.slice (some ⟨b3, 0, none⟩) 2 2, .slice (some ⟨b4, 0, none⟩) 2 2] ∧ ExAt wx w.heap.size b1 b2 b3 b4 b5 100 from fun wx hb => ⟨q1.below hb (by omega), q2.below hb (by omega), hx2.below hb⟩)
  have HS1 := Lib.hid (show Calls Tryz.prog 24 #[.agg #[.int .i64 3, .slice (some ⟨b1, 0, none⟩) 2 2, .slice (some ⟨b2, 0, none⟩) 2 2, .int .i64 500], .agg #[.slice (some ⟨b3, 0, none⟩) 2 2, .slice (some ⟨b4, 0, none⟩) 2 2], .slice (some ⟨b5, 0, none⟩) 1 1] W2 (fun e w' => SvPost (exG 100) (exS false) exL W2 e w') from Solve_any (some ⟨b1, 0, none⟩) (some ⟨b2, 0, none⟩) (some ⟨b3, 0, none⟩) (some ⟨b4, 0, none⟩) (some ⟨b5, 0, none⟩) 2 2 2 2 1 2 2 2 2 1 (exG 100) (exS false) exL W2 hx2.g hx2.s rfl (by decide) hx2.l)
  have e1 := q1.cell; have e2 := q2.cell
  have HX5 := Lib.hid (show b5 < p from by rw [← hp]; exact HX.out.r5.lt)
  have HZ2 := Lib.hid hz2
  clear m1 f1 m2 f2 m3 f3 hb2 hW2 hx2 hp q1 q2 hz2
  go_wp2_with fail
  (with_reducible refine (HS1.out).mono ?_)
  rintro e w3 hp3
  obtain ⟨hb3, v1, v2, he, l1, l2, hv, hf⟩ := hp3.ok ex_ok1 ex_sm1 ex_so1
  have he' : e = .returned (.tuple #[.slice (some ⟨v1, 0, none⟩) 3 3, .slice (some ⟨v2, 0, none⟩) 2 2, .int .i64 0]) := he
  subst he'
  have HV1 := Lib.hid (show Rf w3 v1 55 (3 * 2) (cellQ (fun c => redQ ((zOf (exG 100) (exS false) exL).volt [true, true] [true] c))) from hv)
  have HF1 := Lib.hid (show Rf w3 v2 55 (2 * 2) (cellQ (fun c => redQ ((zOf (exG 100) (exS false) exL).amp [true, true] [true] c))) from hf)
  have HL1 := Lib.hid (show p ≤ v1 ∧ p ≤ v2 from by have := HZ2.out; omega)
  have HB3 := Lib.hid hb3
  obtain ⟨q1, q2, hx3⟩ := H2.out w3 hb3
  obtain ⟨y1, y2, y3⟩ := rows3 w3 #[.bool true, .bool true] #[.bool true, .bool true] #[.slice (some ⟨w3.heap.size, 0, none⟩) 2 2, .slice (some ⟨w3.heap.size + 1, 0, none⟩) 2 2] 4 4 28
  obtain ⟨_, _, y4⟩ := rows3 w3 #[.bool true, .bool true] #[.bool true, .bool true] #[.slice none 0 0, .slice none 0 0] 4 4 28
  have hb4 := (((Below.refl w3.heap.size w3).alloc (Nat.le_refl _) (.cells #[.bool true, .bool true] 4)).alloc (by simp) (.cells #[.bool true, .bool true] 4)).alloc (by simp; omega) (.cells #[.slice (some ⟨w3.heap.size, 0, none⟩) 2 2, .slice (some ⟨w3.heap.size + 1, 0, none⟩) 2 2] 28)
  have hz4 : (((w3.alloc (.cells #[.bool true, .bool true] 4)).alloc (.cells #[.bool true, .bool true] 4)).alloc (.cells #[.slice (some ⟨w3.heap.size, 0, none⟩) 2 2, .slice (some ⟨w3.heap.size + 1, 0, none⟩) 2 2] 28)).heap.size = w3.heap.size + 3 := by simp
  have m4 : ∀ i : Nat, _ := y4.cell
  have f4 := y4.frozen
  clear hv hf he l1 l2 hp3 hb3 e1 e2 y4 q1 q2 hx3
  go_upto_region 4 with (fail)
  obtain ⟨W4, hW4⟩ : ∃ y, ((w3.alloc (.cells #[.bool true, .bool true] 4)).alloc (.cells #[.bool true, .bool true] 4)).alloc (.cells #[.slice (some ⟨w3.heap.size, 0, none⟩) 2 2, .slice (some ⟨w3.heap.size + 1, 0, none⟩) 2 2] 28) = y := ⟨_, rfl⟩
  rw [hW4] at y1 y2 y3 hb4 hz4 ⊢
  obtain ⟨c, hc⟩ : ∃ c, w3.heap.size = c := ⟨_, rfl⟩
  have HB4 := Lib.hid (HB3.out.trans (hb4.mono HB3.out.size))
  have HV14 := Lib.hid (HV1.out.below hb4 HV1.out.lt); have HF14 := Lib.hid (HF1.out.below hb4 HF1.out.lt); have HP4 := Lib.hid (show p ≤ W4.heap.size from by have := HZ2.out; have := HB3.out.size; have := hb4.size; omega)
  obtain ⟨q1, q2, hx4⟩ := H2.out W4 HB4.out
  have hss := on_s y1 y2
  rw [hc] at y1 y2 y3 hz4 hss ⊢
  have HS2 := Lib.hid (show Calls Tryz.prog 24 #[.agg #[.int .i64 3, .slice (some ⟨b1, 0, none⟩) 2 2, .slice (some ⟨b2, 0, none⟩) 2 2, .int .i64 500], .agg #[.slice (some ⟨c, 0, none⟩) 2 2, .slice (some ⟨c + 1, 0, none⟩) 2 2], .slice (some ⟨b5, 0, none⟩) 1 1] W4 (fun e w' => SvPost (exG 100) (exS true) exL W4 e w') from Solve_any (some ⟨b1, 0, none⟩) (some ⟨b2, 0, none⟩) (some ⟨c, 0, none⟩) (some ⟨c + 1, 0, none⟩) (some ⟨b5, 0, none⟩) 2 2 2 2 1 2 2 2 2 1 (exG 100) (exS true) exL W4 hx4.g hss rfl (by decide) hx4.l)
  have e1 := q1.cell
  have y3' : Rw W4 (c + 1 + 1) 28 #[.slice (some ⟨c, 0, none⟩) 2 2, .slice (some ⟨c + 1, 0, none⟩) 2 2] := y3
  have e4 := y3'.cell
  have HLC := Lib.hid (show w3.heap.size = c from hc)
  clear hb4 hW4 y1 y2 y3 y3' q1 q2 hx4 hss m4 f4 hc hz4
  go_wp2_with fail
  (with_reducible refine (HS2.out).mono ?_)
  rintro e w5 hp3
  obtain ⟨hb5, v3, v4, he, l1, l2, hv, hf⟩ := hp3.ok ex_ok2 ex_sm2 ex_so2
  have he' : e = .returned (.tuple #[.slice (some ⟨v3, 0, none⟩) 3 3, .slice (some ⟨v4, 0, none⟩) 2 2, .int .i64 0]) := he
  subst he'
  have hv2 : Rf w5 v3 55 (3 * 2) (cellQ (fun c => redQ ((zOf (exG 100) (exS true) exL).volt [true, true] [true] c))) := hv
  have hvl : v1 ≠ b2 ∧ v2 ≠ b2 ∧ v3 ≠ b2 := by have := HL1.out; have := HX5.out; have := HX.out.n; have := HP4.out; omega
  have hv1 := HV14.out.below hb5 HV14.out.lt; have hf1 := HF14.out.below hb5 HF14.out.lt
  have HB5 := Lib.hid (HB4.out.trans (hb5.mono HB4.out.size))
  obtain ⟨q1, q2, hx5⟩ := H2.out w5 HB5.out
  have e1' := q1.cell; have g2 := hx5.r2.cell; have f2 := hx5.r2.frozen
  have hn := hx5.n
  have hbp := HX5.out
  have hx6 : ExAt (w5.setCell ⟨b2, 3, none⟩ (.int .i64 39)) w.heap.size b1 b2 b3 b4 b5 39 := ⟨hx5.r1.far 3 _ (by omega), hx5.r2.set 3 _, hx5.r3.far 3 _ (by omega), hx5.r4.far 3 _ (by omega), hx5.r5.far 3 _ (by omega), hx5.n⟩
  have q1' := q1.far (k := b2) 3 (.int .i64 39) (by omega)
  have q2' := q2.far (k := b2) 3 (.int .i64 39) (by omega)
  have HB6 := Lib.hid ((HB2.out.trans (HB5.out.mono HB2.out.size)).setCell (p := ⟨b2, 3, none⟩) (show w.heap.size ≤ b2 by omega) (.int .i64 39))
  have r1 := hv1.far (k := b2) 3 (.int .i64 39) hvl.1
  have r2 := hf1.far (k := b2) 3 (.int .i64 39) hvl.2.1
  have r3 := hv2.far (k := b2) 3 (.int .i64 39) hvl.2.2
  go_upto_region 6 with (fail)
  obtain ⟨W6, hW6⟩ : ∃ y, w5.setCell ⟨b2, 3, none⟩ (.int .i64 39) = y := ⟨_, rfl⟩
  rw [hW6] at hx6 q1' q2' r1 r2 r3 HB6 ⊢
  have H6 := Lib.hid (show ∀ wx, Below W6.heap.size W6 wx → Rw wx p 25 #[.int .i64 3, .slice (some ⟨b1, 0, none⟩) 2 2, .slice (some ⟨b2, 0, none⟩) 2 2, .int .i64 500] ∧ Rw wx (p + 1) 28 #[.slice (some ⟨b3, 0, none⟩) 2 2, .slice (some ⟨b4, 0, none⟩) 2 2] ∧ ExAt wx w.heap.size b1 b2 b3 b4 b5 39 ∧ Rf wx v1 55 (3 * 2) (cellQ (fun c => redQ ((zOf (exG 100) (exS false) exL).volt [true, true] [true] c))) ∧ Rf wx v2 55 (2 * 2) (cellQ (fun c => redQ ((zOf (exG 100) (exS false) exL).amp [true, true] [true] c))) ∧ Rf wx v3 55 (3 * 2) (cellQ (fun c => redQ ((zOf (exG 100) (exS true) exL).volt [true, true] [true] c))) ∧ Below w.heap.size w wx from fun wx hb =>
    ⟨q1'.below hb q1'.lt, q2'.below hb q2'.lt, hx6.below hb, r1.below hb r1.lt, r2.below hb r2.lt, r3.below hb r3.lt, HB6.out.trans (hb.mono HB6.out.size)⟩)
  have HS3 := Lib.hid (show Calls Tryz.prog 35 #[.agg #[.int .i64 3, .slice (some ⟨b1, 0, none⟩) 2 2, .slice (some ⟨b2, 0, none⟩) 2 2, .int .i64 500], .agg #[.slice (some ⟨b3, 0, none⟩) 2 2, .slice (some ⟨b4, 0, none⟩) 2 2], .slice (some ⟨b5, 0, none⟩) 1 1] W6 (fun e w' => StlPost (exG 39) (exS false) exL W6 e w') from Settle_any (some ⟨b1, 0, none⟩) (some ⟨b2, 0, none⟩) (some ⟨b3, 0, none⟩) (some ⟨b4, 0, none⟩) (some ⟨b5, 0, none⟩) 2 2 2 2 1 2 2 2 2 1 (exG 39) (exS false) exL W6 hx6.g hx6.s rfl (by decide) hx6.l)
  have n1 := q1'.cell; have n2 := q2'.cell
  clear e1' g2 f2 hx5 hx6 q1 q2 q1' q2' r1 r2 r3 hn hbp hvl hv1 hf1 hv2 hv hf he l1 l2 hp3 hb5 e1 e4 hW6
  go_wp2_with fail
  (with_reducible refine (HS3.out).mono ?_)
  rintro e w7 hp7
  obtain ⟨hb7, sV, sF, sN, sW, sR, sC, l, f, r, he, hM⟩ := hp7.ok ex_ok3 ex_sm3
  subst he
  have hle := (Zs.steps_end hM.st hM.en ex_steps ex_n3).1
  have hc := hM.C
  rw [hle] at hc
  obtain ⟨Ac, nc, cc⟩ := sC
  obtain ⟨gc, cap, hcv, hcap, _⟩ := own_some hc (by
    intro e0
    obtain ⟨A, c0, hv, _⟩ := hc.form
    rw [e0] at hv; injection hv with _ e2 _; cases e2)
  unfold Sc.v at hcv
  injection hcv with h1 h2 h3
  simp only at h1 h2 h3
  subst h1; subst h2; subst h3
  have hcsl := Own.sl fCu_len hc (show Sc.v ⟨some ⟨gc, 0, none⟩, _, cc⟩ = .slice (some ⟨gc, 0, none⟩) [((4 : Int), 0, ((40 : Int), (1 : Int))), (1, 0, (0, 1))].length cc from rfl)
  have HCS := Lib.hid (show ∀ wx, Below w7.heap.size w7 wx → (wx.cell? ⟨gc, 0, none⟩ = some (.int .i64 4) ∧ wx.cell? ⟨gc, 1, none⟩ = some (.int .i64 0) ∧ wx.cell? ⟨gc, 2, none⟩ = some (.int .i64 40) ∧ wx.cell? ⟨gc, 3, none⟩ = some (.int .i64 1)) ∧ wx.cell? ⟨gc, 4, none⟩ = some (.int .i64 1) from fun wx hb => by
    obtain ⟨b, off, cs, e, hbb, rfl, hcc⟩ := hcsl.at_ (i := 0) (by decide)
    obtain ⟨b', off', cs', e', hbb', rfl, hcc'⟩ := hcsl.at_ (i := 1) (by decide)
    injection e with e; injection e with e1 e2; subst e1; subst e2
    injection e' with e'; injection e' with e1 e2; subst e1; subst e2
    have f := fun (o : Nat) (v : Value) (h : w7.cell? ⟨gc, o, none⟩ = some v) => far_cell (hb.5 gc hbb) h
    exact ⟨⟨f 0 _ (hcc 0 _ rfl), f 1 _ (hcc 1 _ rfl), f 2 _ (hcc 2 _ rfl), f 3 _ (hcc 3 _ rfl)⟩, f 4 _ (hcc' 0 _ rfl)⟩)
  have HB7 := Lib.hid hb7
  have y4 := Rw.new w7 #[.slice none 0 0, .slice none 0 0, .slice none 0 0, .slice none 0 0, .slice none 0 0, .slice none 0 0] 71
  have m4 := y4.cell; have f4 := y4.frozen
  have hb8 := (Below.refl w7.heap.size w7).alloc (Nat.le_refl _) (.cells #[.slice sV.A sV.n sV.c, .slice sF.A sF.n sF.c, .slice sN.A sN.n sN.c, .slice sW.A sW.n sW.c, .slice sR.A sR.n sR.c, .slice (some ⟨gc, 0, none⟩) 2 cc] 71)
  have y8 := Rw.new w7 #[.slice sV.A sV.n sV.c, .slice sF.A sF.n sF.c, .slice sN.A sN.n sN.c, .slice sW.A sW.n sW.c, .slice sR.A sR.n sR.c, .slice (some ⟨gc, 0, none⟩) 2 cc] 71
  obtain ⟨q1, q2, hx8, _⟩ := H6.out _ (hb7.trans (hb8.mono hb7.size))
  clear hp7 hle hc hcap hM n1 n2 hcsl y4
  go_upto_region 7 with (fail)
  obtain ⟨W8, hW8⟩ : ∃ y, w7.alloc (.cells #[.slice sV.A sV.n sV.c, .slice sF.A sF.n sF.c, .slice sN.A sN.n sN.c, .slice sW.A sW.n sW.c, .slice sR.A sR.n sR.c, .slice (some ⟨gc, 0, none⟩) 2 cc] 71) = y := ⟨_, rfl⟩
  rw [hW8] at hb8 y8 q1 q2 hx8 ⊢
  have HB8 := Lib.hid hb8
  have HS4 := Lib.hid (show Calls Tryz.prog 43 #[.agg #[.int .i64 3, .slice (some ⟨b1, 0, none⟩) 2 2, .slice (some ⟨b2, 0, none⟩) 2 2, .int .i64 500], .agg #[.slice (some ⟨b3, 0, none⟩) 2 2, .slice (some ⟨b4, 0, none⟩) 2 2], .slice (some ⟨b5, 0, none⟩) 1 1] W8 (fun e w' => RlfPost (exG 39) (exS false) exL W8 e w') from Relief_any (some ⟨b1, 0, none⟩) (some ⟨b2, 0, none⟩) (some ⟨b3, 0, none⟩) (some ⟨b4, 0, none⟩) (some ⟨b5, 0, none⟩) 2 2 2 2 1 2 2 2 2 1 (exG 39) (exS false) exL W8 hx8.g hx8.s rfl (by decide) hx8.l)
  have n1 := q1.cell; have n2 := q2.cell
  have HY8 := Lib.hid y8
  clear hb8 hW8 y8 q1 q2 hx8 m4 f4 hb7
  go_wp2_with fail
  (with_reducible refine (HS4.out).mono ?_)
  rintro e w9 hp9
  obtain ⟨hb9, hp9⟩ := hp9
  have hR : ∃ (A : Option Addr) (c : Nat), e = .returned (.tuple #[.slice A 1 c, .int .i64 0]) ∧ Own w9 W8.heap.size 3 1 fI (.slice A 1 c) [1] := by
    rcases hp9 with ⟨a, _⟩ | ⟨_, a, _⟩ | ⟨_, _, a, _⟩ | ⟨_, _, p', A, c, a, he, ho⟩
    · rw [ex_ok3] at a; cases a
    · have := ex_of; omega
    · rw [ex_rl] at a; cases a
    · rw [ex_rl] at a; injection a with a; subst a
      exact ⟨A, c, he, ho⟩
  obtain ⟨A9, c9, he9, ho9⟩ := hR
  subst he9
  have hb79 := HB8.out.trans (hb9.mono HB8.out.size)
  have HX9 := Lib.hid (show ∀ wx, Below w9.heap.size w9 wx → Below w7.heap.size w7 wx ∧ Below W6.heap.size W6 wx from fun wx hb => by
    have h1 := hb79.trans (hb.mono hb79.size)
    exact ⟨h1, HB7.out.trans (h1.mono HB7.out.size)⟩)
  have y9 := HY8.out.below hb9 HY8.out.lt
  have HY9 := Lib.hid (show ∀ wx, Below w9.heap.size w9 wx → Rw wx w7.heap.size 71 #[.slice sV.A sV.n sV.c, .slice sF.A sF.n sF.c, .slice sN.A sN.n sN.c, .slice sW.A sW.n sW.c, .slice sR.A sR.n sR.c, .slice (some ⟨gc, 0, none⟩) 2 cc] from fun wx hb => y9.below hb y9.lt)
  have HO9 := Lib.hid (show ∀ wx, Below w9.heap.size w9 wx → Sl wx wx.heap.size 1 CI A9 [1] from fun wx hb => Own.sl (f := fI) (size := 1) fI_len (ho9.below hb (Nat.le_refl _)) rfl)
  have k8 := y9.cell
  clear hp9 hb9 hb79 y9 ho9 n1 n2
  have ha := (Below.refl w9.heap.size w9).alloc (Nat.le_refl _) (.cells #[.int .i64 580, .int .i64 1, .int .i64 560, .int .i64 1, .int .i64 600, .int .i64 1] 55)
  have qa := Rw.new w9 #[.int .i64 580, .int .i64 1, .int .i64 560, .int .i64 1, .int .i64 600, .int .i64 1] 55
  obtain ⟨_, _, _, v1a, _, _, _⟩ := H6.out _ (HX9.out _ ha).2
  have HSA := Lib.hid (show Calls Tryz.prog 27 #[.slice (some ⟨v1, 0, none⟩) 3 3, .slice (some ⟨w9.heap.size, 0, none⟩) 3 3] (w9.alloc (.cells #[.int .i64 580, .int .i64 1, .int .i64 560, .int .i64 1, .int .i64 600, .int .i64 1] 55)) (fun e w' => e = .returned (.bool true) ∧ Below (w9.alloc (.cells #[.int .i64 580, .int .i64 1, .int .i64 560, .int .i64 1, .int .i64 600, .int .i64 1] 55)).heap.size (w9.alloc (.cells #[.int .i64 580, .int .i64 1, .int .i64 560, .int .i64 1, .int .i64 600, .int .i64 1] 55)) w') from by
    have h := rsame_any (some ⟨v1, 0, none⟩) (some ⟨w9.heap.size, 0, none⟩) 3 3 3 3 [(580, 1), (560, 1), (600, 1)] [(580, 1), (560, 1), (600, 1)] (w9.alloc (.cells #[.int .i64 580, .int .i64 1, .int .i64 560, .int .i64 1, .int .i64 600, .int .i64 1] 55)) rfl rfl (by decide) (by decide) (by rw [← ex_v1]; exact cellQ_sl v1a) (qa.sls (f := fQ) (size := 2) (fun _ => rfl) rfl qa.lt)
    rw [decide_eq_true rfl] at h; exact h)
  have HBA := Lib.hid ha
  clear v1a qa ha
  go_wp2_with fail
  (with_reducible refine (HSA.out).mono ?_)
  rintro e wa ⟨rfl, hba⟩
  have hba9 := HBA.out.trans (hba.mono HBA.out.size)
  have ha := hba9.trans (((Below.refl wa.heap.size wa).alloc (Nat.le_refl _) (.cells #[.int .i64 40, .int .i64 1, .int .i64 0, .int .i64 1] 55)).mono hba9.size)
  have qa := Rw.new wa #[.int .i64 40, .int .i64 1, .int .i64 0, .int .i64 1] 55
  obtain ⟨_, _, _, _, v2a, _, _⟩ := H6.out _ (HX9.out _ ha).2
  have HSB := Lib.hid (show Calls Tryz.prog 27 #[.slice (some ⟨v2, 0, none⟩) 2 2, .slice (some ⟨wa.heap.size, 0, none⟩) 2 2] (wa.alloc (.cells #[.int .i64 40, .int .i64 1, .int .i64 0, .int .i64 1] 55)) (fun e w' => e = .returned (.bool true) ∧ Below (wa.alloc (.cells #[.int .i64 40, .int .i64 1, .int .i64 0, .int .i64 1] 55)).heap.size (wa.alloc (.cells #[.int .i64 40, .int .i64 1, .int .i64 0, .int .i64 1] 55)) w') from by
    have h := rsame_any (some ⟨v2, 0, none⟩) (some ⟨wa.heap.size, 0, none⟩) 2 2 2 2 [(40, 1), (0, 1)] [(40, 1), (0, 1)] (wa.alloc (.cells #[.int .i64 40, .int .i64 1, .int .i64 0, .int .i64 1] 55)) rfl rfl (by decide) (by decide) (by rw [← ex_f1]; exact cellQ_sl v2a) (qa.sls (f := fQ) (size := 2) (fun _ => rfl) rfl qa.lt)
    rw [decide_eq_true rfl] at h; exact h)
  have HBB := Lib.hid ha
  clear v2a qa ha hba hba9
  go_wp2_with fail
  (with_reducible refine (HSB.out).mono ?_)
  rintro e wb ⟨rfl, hbb⟩
  have hbb9 := HBB.out.trans (hbb.mono HBB.out.size)
  have ha := hbb9.trans (((Below.refl wb.heap.size wb).alloc (Nat.le_refl _) (.cells #[.int .i64 1760, .int .i64 3, .int .i64 1720, .int .i64 3, .int .i64 1760, .int .i64 3] 55)).mono hbb9.size)
  have qa := Rw.new wb #[.int .i64 1760, .int .i64 3, .int .i64 1720, .int .i64 3, .int .i64 1760, .int .i64 3] 55
  obtain ⟨_, _, _, _, _, v3a, _⟩ := H6.out _ (HX9.out _ ha).2
  have HSC := Lib.hid (show Calls Tryz.prog 27 #[.slice (some ⟨v3, 0, none⟩) 3 3, .slice (some ⟨wb.heap.size, 0, none⟩) 3 3] (wb.alloc (.cells #[.int .i64 1760, .int .i64 3, .int .i64 1720, .int .i64 3, .int .i64 1760, .int .i64 3] 55)) (fun e w' => e = .returned (.bool true) ∧ Below (wb.alloc (.cells #[.int .i64 1760, .int .i64 3, .int .i64 1720, .int .i64 3, .int .i64 1760, .int .i64 3] 55)).heap.size (wb.alloc (.cells #[.int .i64 1760, .int .i64 3, .int .i64 1720, .int .i64 3, .int .i64 1760, .int .i64 3] 55)) w') from by
    have h := rsame_any (some ⟨v3, 0, none⟩) (some ⟨wb.heap.size, 0, none⟩) 3 3 3 3 [(1760, 3), (1720, 3), (1760, 3)] [(1760, 3), (1720, 3), (1760, 3)] (wb.alloc (.cells #[.int .i64 1760, .int .i64 3, .int .i64 1720, .int .i64 3, .int .i64 1760, .int .i64 3] 55)) rfl rfl (by decide) (by decide) (by rw [← ex_v2]; exact cellQ_sl v3a) (qa.sls (f := fQ) (size := 2) (fun _ => rfl) rfl qa.lt)
    rw [decide_eq_true rfl] at h; exact h)
  have HBC := Lib.hid ha
  clear v3a qa ha hbb hbb9
  go_wp2_with fail
  (with_reducible refine (HSC.out).mono ?_)
  rintro e wc ⟨rfl, hbc⟩
  have hbc9 := HBC.out.trans (hbc.mono HBC.out.size)
  have kc := (HY9.out _ hbc9).cell
  obtain ⟨⟨c0, c1, c2, c3⟩, c4⟩ := HCS.out _ (HX9.out _ hbc9).1
  have ha := hbc9.trans (((Below.refl wc.heap.size wc).alloc (Nat.le_refl _) (.cells #[.int .i64 1] 3)).mono hbc9.size)
  have qa := Rw.new wc #[.int .i64 1] 3
  have HSD := Lib.hid (show Calls Tryz.prog 21 #[.slice A9 1 c9, .slice (some ⟨wc.heap.size, 0, none⟩) 1 1] (wc.alloc (.cells #[.int .i64 1] 3)) (fun e w' => e = .returned (.bool true) ∧ Below (wc.alloc (.cells #[.int .i64 1] 3)).heap.size (wc.alloc (.cells #[.int .i64 1] 3)) w') from by
    have h := requal_any A9 (some ⟨wc.heap.size, 0, none⟩) 1 1 c9 1 [1] [1] (wc.alloc (.cells #[.int .i64 1] 3)) rfl rfl (by decide) (by decide) (HO9.out _ ha) (qa.sls (f := fI) (size := 1) (fun _ => rfl) rfl qa.lt)
    rw [decide_eq_true rfl] at h; exact h)
  have HBD := Lib.hid ha
  clear qa ha hbc hbc9
  go_wp2_with fail
  (with_reducible refine (HSD.out).mono ?_)
  rintro e wd ⟨rfl, hbd⟩
  have HEND := Lib.hid ((H6.out _ (HX9.out _ (HBD.out.trans (hbd.mono HBD.out.size))).2).2.2.2.2.2.2)
  clear kc c0 c1 c2 c3 c4 hbd k8
  go_wp2
  go_ret
  exact ⟨rfl, HEND.out⟩
end Go.Proofs.YtbnfnpakibkboaaGreat

namespace Go.Proofs.YtbnfnpakibkboaaGreat
set_option linter.unusedVariables false
set_option linter.unusedSimpArgs false
open Go.RowKit

def fewB (nw nf ns nt nl : Nat) (N : Int) : Bool := decide ((nw : Int) ≤ 100) && (decide ((nf : Int) ≤ 20) && (decide ((ns : Int) ≤ 20) && (decide ((nt : Int) ≤ 100) && (decide ((nl : Int) ≤ 50) && (decide (N ≤ 12) || decide (40 < N))))))
set_option maxRecDepth 100000 in
set_option maxHeartbeats 4000000 in
theorem few_any (Aw Af As At Al : Option Addr) (nw nf ns nt nl cw cf cs ct cl : Nat) (N le : Int) (w : World) :
    Calls Tryz.prog 14 #[.agg #[.int .i64 N, .slice Aw nw cw, .slice Af nf cf, .int .i64 le], .agg #[.slice As ns cs, .slice At nt ct], .slice Al nl cl] w fun e w' => e = .returned (.bool (fewB nw nf ns nt nl N)) ∧ Below w.heap.size w w' := by
  have hb1 := ((Below.refl w.heap.size w).alloc (Nat.le_refl _) (.cells #[.int .i64 N, .slice Aw nw cw, .slice Af nf cf, .int .i64 le] 25)).alloc (by simp) (.cells #[.slice As ns cs, .slice At nt ct] 28)
  obtain ⟨q1, q2⟩ := rows2 w #[.int .i64 N, .slice Aw nw cw, .slice Af nf cf, .int .i64 le] #[.slice As ns cs, .slice At nt ct] 25 28
  have e0 := q1.cell; have e1 := q2.cell
  obtain ⟨W1, hW1⟩ : ∃ y, (w.alloc (.cells #[.int .i64 N, .slice Aw nw cw, .slice Af nf cf, .int .i64 le] 25)).alloc (.cells #[.slice As ns cs, .slice At nt ct] 28) = y := ⟨_, rfl⟩
  rw [hW1] at hb1 e0 e1
  have HB := Lib.hid hb1
  clear q1 q2 hb1
  go_enter Tryz.func14, Tryz.ntmps14
  by_cases h0 : (nw : Int) ≤ 100
  · by_cases h1 : (nf : Int) ≤ 20
    · by_cases h2 : (ns : Int) ≤ 20
      · by_cases h3 : (nt : Int) ≤ 100
        · by_cases h4 : (nl : Int) ≤ 50
          · by_cases h5 : N ≤ 12
            · go_wp2
              go_ret
              exact ⟨by unfold fewB; simp [h0, h1, h2, h3, h4]; (try omega), HB.out⟩
            · by_cases h6 : (40 : Int) < N
              · go_wp2
                go_ret
                exact ⟨by unfold fewB; simp [h0, h1, h2, h3, h4]; (try omega), HB.out⟩
              · go_wp2
                go_ret
                exact ⟨by unfold fewB; simp [h0, h1, h2, h3, h4]; (try omega), HB.out⟩
          · go_wp2
            go_ret
            exact ⟨by unfold fewB; simp; intros; omega, HB.out⟩
        · go_wp2
          go_ret
          exact ⟨by unfold fewB; simp; intros; omega, HB.out⟩
      · go_wp2
        go_ret
        exact ⟨by unfold fewB; simp; intros; omega, HB.out⟩
    · go_wp2
      go_ret
      exact ⟨by unfold fewB; simp; intros; omega, HB.out⟩
  · go_wp2
    go_ret
    exact ⟨by unfold fewB; simp; intros; omega, HB.out⟩
end Go.Proofs.YtbnfnpakibkboaaGreat

namespace Go.Proofs.YtbnfnpakibkboaaGreat
set_option linter.unusedVariables false
set_option linter.unusedSimpArgs false
open Go.RowKit

set_option maxRecDepth 100000 in
set_option maxHeartbeats 4000000 in
theorem rState_any (Aw Af As At : Option Addr) (nw nf ns nt cw cf cs ct : Nat) (g : Gv) (s : Sv) (w : World) (hG : GAt w w.heap.size Aw nw Af nf g) (hS : SAt w w.heap.size As ns At nt s) :
    Calls Tryz.prog 19 #[.agg #[.int .i64 g.nodes, .slice Aw nw cw, .slice Af nf cf, .int .i64 g.least], .agg #[.slice As ns cs, .slice At nt ct]] w fun e w' => e = .returned (.bool (stateB g s)) ∧ Below w.heap.size w w' := by
  have hb1 := ((Below.refl w.heap.size w).alloc (Nat.le_refl _) (.cells #[.int .i64 g.nodes, .slice Aw nw cw, .slice Af nf cf, .int .i64 g.least] 25)).alloc (by simp) (.cells #[.slice As ns cs, .slice At nt ct] 28)
  obtain ⟨q1, q2⟩ := rows2 w #[.int .i64 g.nodes, .slice Aw nw cw, .slice Af nf cf, .int .i64 g.least] #[.slice As ns cs, .slice At nt ct] 25 28
  have hG1 := (hG.below hb1).more hb1.size
  have hS1 := (hS.below hb1).more hb1.size
  obtain ⟨W1, hW1⟩ : ∃ z, (w.alloc (.cells #[.int .i64 g.nodes, .slice Aw nw cw, .slice Af nf cf, .int .i64 g.least] 25)).alloc (.cells #[.slice As ns cs, .slice At nt ct] 28) = z := ⟨_, rfl⟩
  rw [hW1] at hb1 q1 q2 hG1 hS1
  have hszW : W1.heap.size = w.heap.size + 2 := by rw [← hW1]; simp
  have HSZ := Lib.hid hszW
  have HB1 := Lib.hid hb1
  have HQ := Lib.hid (And.intro q1 q2)
  have HG := Lib.hid hG1; have HS := Lib.hid hS1
  have e0 := q1.cell 0; have e1 := q1.cell 1; have e2 := q1.cell 2; have e3 := q1.cell 3; have f0 := q2.cell 0; have f1 := q2.cell 1
  have HWL := Lib.hid hG1.wl; have HFL := Lib.hid hG1.fl; have HSF := Lib.hid hS1.fl; have HSW := Lib.hid hS1.wl
  have hwm := hG1.wm
  clear hb1 q1 q2 hG hG1 hS hS1 hszW
  by_cases hf : ns = nf
  case neg =>
    have hfi : ¬ (ns : Int) = (nf : Int) := by omega
    have hfb : ((ns : Int) == (nf : Int)) = false := by simpa using hfi
    have HBAD := Lib.hid (show stateB g s = false from by unfold stateB; rw [decide_eq_false (by have := HFL.out; have := HSF.out; omega), Bool.false_and])
    go_enter Tryz.func19, Tryz.ntmps19
    go_wp2
    go_ret
    exact ⟨by rw [HBAD.out]; first | done | rfl | simp, HB1.out⟩
  case pos =>
  subst hf
  by_cases hw : nt = nw
  case neg =>
    have hfi : ¬ (nt : Int) = (nw : Int) := by omega
    have hfb : ((nt : Int) == (nw : Int)) = false := by simpa using hfi
    have HBAD := Lib.hid (show stateB g s = false from by unfold stateB; rw [decide_eq_false (p := s.wires.length = g.wires.length) (by have := HWL.out; have := HSW.out; omega), Bool.false_and, Bool.and_false])
    go_enter Tryz.func19, Tryz.ntmps19
    go_wp2
    go_ret
    exact ⟨by rw [HBAD.out]; first | done | rfl | simp, HB1.out⟩
  case pos =>
  subst hw
  have HST := Lib.hid (show stateB g s = (g.wires.zip s.wires).all swB from by
    unfold stateB; rw [decide_eq_true (by have := HFL.out; have := HSF.out; omega), decide_eq_true (by have := HWL.out; have := HSW.out; omega)]; rfl)
  have HZL := Lib.hid (show (g.wires.zip s.wires).length = nt from by rw [List.length_zip, HWL.out, HSW.out, Nat.min_self])
  go_enter Tryz.func19, Tryz.ntmps19
  go_wp2
  clear e0 e1 e2 e3 f0 f1
  go_loopw [5] (fun sl wr => ∃ i : Nat, i ≤ nt ∧ sl = .int .i64 (i : Int) ∧ ((g.wires.zip s.wires).take i).all swB = true ∧ Below W1.heap.size W1 wr) (fun sl _ => nt - (intOf sl).toNat)
  case atStart => exact ⟨0, Nat.zero_le _, rfl, rfl, Below.refl _ _⟩
  case round =>
    obtain ⟨i, hi, rfl, hall, hbr⟩ := hrel
    have HAL := Lib.hid hall; have HBR := Lib.hid hbr
    have q1 := HQ.out.1.below hbr (by have := HSZ.out; omega)
    have q2 := HQ.out.2.below hbr (by have := HSZ.out; omega)
    have f0 := q2.cell 0; have f1 := q2.cell 1
    have k1 := q1.cell 1
    have hgr := HG.out.below hbr
    have hsr := HS.out.below hbr
    by_cases hin : i < nt
    · have hii : (i : Int) < (nt : Int) := by omega
      have hi0 : (0 : Int) ≤ (i : Int) := by omega
      have hil : i < g.wires.length := by have := HWL.out; omega
      have hil2 : i < s.wires.length := by have := HSW.out; omega
      have hzl : i < (g.wires.zip s.wires).length := by have := HZL.out; omega
      obtain ⟨b, o, rfl, hbb, c0, c1, c2, c3⟩ := wire_at hgr.ws hil
      obtain ⟨b', o', rfl, hbb', d0⟩ := bool_at hsr.ws hil2
      obtain ⟨x, hx⟩ : ∃ x, g.wires[i] = x := ⟨_, rfl⟩
      obtain ⟨y, hy⟩ : ∃ y, s.wires[i] = y := ⟨_, rfl⟩
      rw [hx] at c0 c1 c2 c3
      rw [hy] at d0
      have hz : (g.wires.zip s.wires)[i] = (x, y) := by rw [List.getElem_zip, hx, hy]
      have HGO := Lib.hid (show (x.sw || y) = true → ((g.wires.zip s.wires).take (i + 1)).all swB = true from fun h => by
        rw [List.take_succ_eq_append_getElem hzl, List.all_append, HAL.out, hz]; simp [swB, h])
      have HBAD := Lib.hid (show (x.sw || y) = false → stateB g s = false from fun h => by
        rw [HST.out, List.all_eq_false]; exact ⟨(x, y), by rw [← hz]; exact List.getElem_mem hzl, by simp [swB, h]⟩)
      have HIN := Lib.hid hin
      clear q2 hgr hsr hall hx hy hz hil hil2 hzl hin
      have q1c := q1.cell
      have g0 := q1c 0; have g1 := q1c 1
      have HB3 := Lib.hid HBR.out
      clear q1 q1c hbr hbb hbb' c0 c1 c2 g0
      cases hsw : x.sw with
      | true =>
        rw [hsw] at c3
        have HT := Lib.hid (HGO.out (by rw [hsw]; rfl))
        clear hsw
        go_wp2
        go_roundw
        case rel => exact ⟨i + 1, by have := HIN.out; omega, by simp, HT.out, HB3.out⟩
        case measure => have := HIN.out; simp [intOf] <;> omega
      | false =>
        rw [hsw] at c3
        have HSWX := Lib.hid hsw
        clear hsw
        cases y with
        | true =>
          have HT := Lib.hid (HGO.out (by rw [HSWX.out]; rfl))
          go_wp2
          go_roundw
          case rel => exact ⟨i + 1, by have := HIN.out; omega, by simp, HT.out, HB3.out⟩
          case measure => have := HIN.out; simp [intOf] <;> omega
        | false =>
          have HT := Lib.hid (HBAD.out (by rw [HSWX.out]; rfl))
          go_wp2
          go_ret
          exact ⟨by rw [HT.out]; first | done | rfl | simp, HB1.out.trans (HB3.out.mono HB1.out.size)⟩
    · have hii : ¬ (i : Int) < (nt : Int) := by omega
      have HFIN := Lib.hid (show stateB g s = true from by
        have htk : (g.wires.zip s.wires).take i = g.wires.zip s.wires := List.take_of_length_le (by have := HZL.out; omega)
        rw [HST.out, ← htk]; exact HAL.out)
      clear q1 q2 hgr hsr hall
      go_wp2
      go_ret
      exact ⟨by rw [HFIN.out]; first | done | rfl | simp, HB1.out.trans (HBR.out.mono HB1.out.size)⟩
end Go.Proofs.YtbnfnpakibkboaaGreat
