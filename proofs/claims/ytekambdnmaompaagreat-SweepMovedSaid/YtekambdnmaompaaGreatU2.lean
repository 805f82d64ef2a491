/- Plain: a plan whose spots are moved, exchanged or mirrored. -/
import Derived.Test.YtekambdnmaompaaGreatJM
import Derived.Test.YtekambdnmaompaaGreatU1
namespace Go.Proofs.YtekambdnmaompaaGreat.SW
set_option linter.unusedVariables false
set_option linter.unusedSimpArgs false
open Go.RowKit

/-- a map of spots that keeps dots, and turns up to one sign -/
structure Iso (f : S → S) (e : Int) : Prop where
  e1 : e = 1 ∨ e = -1
  dot : ∀ a b c d : S, ((f b).x - (f a).x) * ((f d).x - (f c).x) + ((f b).y - (f a).y) * ((f d).y - (f c).y) = (b.x - a.x) * (d.x - c.x) + (b.y - a.y) * (d.y - c.y)
  turn : ∀ a b s : S, turnV (f a) (f b) (f s) = e * turnV a b s
theorem iso_moved (b : S) (kind : Int) : ∃ e, Iso (fun s => movedS s b kind) e := by
  by_cases h1 : kind = 1
  · refine ⟨-1, .inr rfl, fun a c d u => ?_, fun a c s => ?_⟩
    · simp only [movedS, if_pos h1]; grind
    · simp only [movedS, if_pos h1, turnV]; grind
  · by_cases h2 : kind = 2
    · refine ⟨-1, .inr rfl, fun a c d u => ?_, fun a c s => ?_⟩
      · simp only [movedS, if_neg h1, if_pos h2]; grind
      · simp only [movedS, if_neg h1, if_pos h2, turnV]; grind
    · refine ⟨1, .inl rfl, fun a c d u => ?_, fun a c s => ?_⟩
      · simp only [movedS, if_neg h1, if_neg h2]; grind
      · simp only [movedS, if_neg h1, if_neg h2, turnV]; grind
section
variable {f : S → S} {e : Int}
theorem Iso.sq (h : Iso f e) (x y : Int) : e * x * (e * y) = x * y := by
  rcases h.e1 with rfl | rfl <;> grind
theorem Iso.spot (h : Iso f e) (a b : S) : sepSpot (f a) (f b) = sepSpot a b := by
  unfold sepSpot sq2
  rw [h.dot a b a b]
theorem Iso.seg (h : Iso f e) (s a b : S) : sepSeg (f s) (f a) (f b) = sepSeg s a b := by
  have t := h.turn a b s
  unfold turnV at t
  unfold sepSeg
  rw [h.spot, h.spot]
  unfold sq2
  rw [h.dot a b a s, h.dot a b a b, t, h.sq]
theorem Iso.side (h : Iso f e) (a b s : S) : sideV (f a) (f b) (f s) = e * sideV a b s := by
  rw [side_turn, side_turn, h.turn]
  generalize turnV a b s = x
  rcases h.e1 with rfl | rfl
  · simp
  · rcases sgn_vals x with ⟨e1, g⟩ | ⟨e1, g⟩ | ⟨e1, g⟩ <;> rcases sgn_vals (-1 * x) with ⟨e2, g2⟩ | ⟨e2, g2⟩ | ⟨e2, g2⟩ <;> rw [e1, e2] <;> omega
theorem Iso.cross (h : Iso f e) (a b c d : S) : crossB (f a) (f b) (f c) (f d) = crossB a b c d := by
  unfold crossB
  rw [h.side, h.side, h.side, h.side, h.sq, h.sq]
/-- a strip's image -/
structure Img (f : S → S) (x x' : Swp) : Prop where
  a : x'.a = f x.a
  b : x'.b = f x.b
  bends : x'.bends = x.bends.map f
variable {x x' y y' : Swp}
theorem Img.seps (h : Iso f e) (hx : Img f x x') (hy : Img f y y') : seps x' y' = seps x y := by
  unfold SW.seps
  rw [hx.a, hx.b, hy.a, hy.b, h.seg, h.seg, h.seg, h.seg]
theorem Img.cross (h : Iso f e) (hx : Img f x x') (hy : Img f y y') : crossB x'.a x'.b y'.a y'.b = crossB x.a x.b y.a y.b := by
  rw [hx.a, hx.b, hy.a, hy.b, h.cross]
theorem Img.gap (h : Iso f e) (hx : Img f x x') (hy : Img f y y') : gapW x' y' = gapW x y := by
  unfold gapW
  rw [Img.cross h hx hy, Img.seps h hx hy]
theorem Img.sides (h : Iso f e) (hx : Img f x x') (hy : Img f y y') (r : Int) : sidesB x' y' r = sidesB x y r := by
  unfold sidesB
  rw [Img.cross h hx hy, Img.seps h hx hy]
theorem Img.bend (h : Iso f e) (hx : Img f x x') (hy : Img f y y') (r : Int) : bendsB x' y' r = bendsB x y r := by
  unfold bendsB
  rw [hx.bends, hy.a, hy.b, List.any_map]
  refine any_congr fun s _ => ?_
  show (sepSeg (f s) (f y.a) (f y.b)).below r false = _
  rw [h.seg]
theorem Img.both (h : Iso f e) (hx : Img f x x') (hy : Img f y y') (r : Int) : bothB x' y' r = bothB x y r := by
  unfold bothB
  rw [hx.bends, hy.bends, List.any_map]
  refine any_congr fun s _ => ?_
  show ((y.bends.map f).any fun u => (sepSpot (f s) u).below r false) = _
  rw [List.any_map]
  refine any_congr fun u _ => ?_
  show (sepSpot (f s) (f u)).below r false = _
  rw [h.spot]
theorem Img.foul (h : Iso f e) (hx : Img f x x') (hy : Img f y y') (ox : SwOk x) (oy : SwOk y) (ox' : SwOk x') (oy' : SwOk y') {hx' sx hy2 sy : Int} (px : Pr hx' sx) (py : Pr hy2 sy) : foulB x' y' hx' sx hy2 sy = foulB x y hx' sx hy2 sy := by
  rw [foul_same ox.bends oy.bends px.h1 px.h3 py.h1 py.h3, foul_same ox'.bends oy'.bends px.h1 px.h3 py.h1 py.h3]
  unfold foulR
  rw [Img.sides h hx hy, Img.bend h hx hy, Img.bend h hy hx, Img.both h hx hy]
theorem sAt_map {L : List S} {k : Nat} (hk : k < L.length) : sAt (L.map f) k = f (sAt L k) := by
  simp [sAt, hk]
theorem Iso.bendB (h : Iso f e) {L : List S} {i : Nat} (hi : i < L.length) : isBendB (L.map f) i = isBendB L i := by
  unfold isBendB
  rw [List.length_map]
  split
  · rfl
  · rename_i hc
    rw [sAt_map (show i - 1 < L.length by omega), sAt_map hi, sAt_map (show i + 1 < L.length by omega), h.side, h.dot]
    congr 1
    rcases h.e1 with rfl | rfl
    · simp
    · generalize sideV (sAt L (i - 1)) (sAt L i) (sAt L (i + 1)) = z
      by_cases hz : z = 0
      · simp [hz]
      · have : -1 * z ≠ 0 := by omega
        simp [hz, this]
theorem Iso.bendAt (h : Iso f e) {L : List S} {i : Nat} (hi : i < L.length) : bendAt (L.map f) i = (bendAt L i).map f := by
  unfold SW.bendAt
  rw [h.bendB hi]
  split
  · rw [sAt_map hi]; rfl
  · rfl
theorem Iso.strip (h : Iso f e) (r : Nat) {L : List S} {k : Nat} (hk : k + 1 < L.length) : Img f (stripAt r L k) (stripAt r (L.map f) k) where
  a := sAt_map (by omega)
  b := sAt_map hk
  bends := by
    show SW.bendAt (L.map f) k ++ SW.bendAt (L.map f) (k + 1) = (SW.bendAt L k ++ SW.bendAt L (k + 1)).map f
    rw [h.bendAt (show k < L.length by omega), h.bendAt hk, List.map_append]
end
def movedN (f : S → S) (n : N) : N := ⟨f n.spot, n.kind, n.ends, n.normal⟩
def movedR (f : S → S) (r : R) : R := ⟨r.frm, r.to, r.shape.map f, r.limit, r.slope⟩
def movedP (f : S → S) (p : Pl) : Pl := ⟨p.nodes.map (movedN f), p.rails.map (movedR f)⟩
theorem moved_spot (f : S → S) {p : Pl} {i : Int} (h : nodeIx p i) : spotOf (movedP f p) i = f (spotOf p i) := by
  obtain ⟨h0, h1⟩ := h
  have hk : i.toNat < p.nodes.length := by omega
  unfold spotOf movedP
  simp [hk, movedN]
theorem moved_line (f : S → S) {p : Pl} {r : R} (h1 : nodeIx p r.frm) (h2 : nodeIx p r.to) : lineOf (movedP f p) (movedR f r) = (lineOf p r).map f := by
  unfold lineOf
  rw [show (movedR f r).frm = r.frm from rfl, show (movedR f r).to = r.to from rfl, show (movedR f r).shape = r.shape.map f from rfl, moved_spot f h1, moved_spot f h2]
  simp
/-- a rail of a moved plan -/
theorem moved_rl (f : S → S) {p : Pl} (hV : Vld p) (hQ : Vld (movedP f p)) {r : Nat} {L : List S} (hL : RlOk p r L) : RlOk (movedP f p) r (L.map f) := by
  have hr := hL.hr
  have hr2 : r < (movedP f p).rails.length := by unfold movedP; simpa using hr
  have h := Vld.rl hQ hr2
  have e : (movedP f p).rails[r] = movedR f (p.rails[r]'hr) := List.getElem_map (movedR f)
  rw [e, moved_line f hL.h1 hL.h2, hL.eL] at h
  exact h
theorem moved_rails {f : S → S} {e : Int} (h : Iso f e) {p : Pl} (hV : Vld p) (hQ : Vld (movedP f p)) {r r2 : Nat} {L L2 : List S} (hL : RlOk p r L) (hL2 : RlOk p r2 L2) {hx sx hy sy : Int} (px : Pr hx sx) (py : Pr hy sy) :
    railsB (L.map f) (L2.map f) r r2 hx sx hy sy = railsB L L2 r r2 hx sx hy sy := by
  have gL := moved_rl f hV hQ hL; have gL2 := moved_rl f hV hQ hL2
  unfold railsB
  rw [List.length_map, List.length_map]
  refine any_congr fun i hi => any_congr fun k hk => ?_
  have g1 := List.mem_range.1 hi; have g2 := List.mem_range.1 hk
  have a1 : i + 1 < L.length := by omega
  have a2 : k + 1 < L2.length := by omega
  exact Img.foul h (h.strip r a1) (h.strip r2 a2) (stripAt_ok hL.hR hL.hok a1) (stripAt_ok hL2.hR hL2.hok a2) (stripAt_ok gL.hR gL.hok (by simpa using a1)) (stripAt_ok gL2.hR gL2.hok (by simpa using a2)) px py
theorem fm_cg {α β : Type} {l : List α} {f g : α → List β} (h : ∀ x ∈ l, f x = g x) : l.flatMap f = l.flatMap g := by
  induction l with
  | nil => rfl
  | cons x l ih => rw [List.flatMap_cons, List.flatMap_cons, h x (by simp), ih fun y hy => h y (by simp [hy])]
theorem f1_cg {R R' : Nat → Nat → Nat → Nat → Bool} {N n : Nat} (h : ∀ a x b y, a < N → x < n → b < N → y < n → R a x b y = R' a x b y) : f1 R N n N = f1 R' N n N := by
  unfold f1 f2 f3 f4
  refine fm_cg fun a ha => fm_cg fun x hx => fm_cg fun j hj => ?_
  have g1 := List.mem_range.1 ha; have g2 := List.mem_range.1 hx; have g3 := List.mem_range.1 hj
  congr 1
  refine List.filter_congr fun y hy => ?_
  rw [h a x (a + j) y g1 g2 (by omega) (List.mem_range.1 hy)]
theorem moved_fouls {f : S → S} {e : Int} (h : Iso f e) {p : Pl} (hV : Vld p) (hQ : Vld (movedP f p)) {l : List S} (hl : l.all prB = true) : foulsL (movedP f p) l = foulsL p l := by
  unfold foulsL
  rw [show (movedP f p).rails.length = p.rails.length by unfold movedP; simp]
  refine f1_cg fun a x b y ha hx hb hy => ?_
  unfold rF
  have r1 := Vld.rl hV ha; have r2 := Vld.rl hV hb
  have ha2 : a < (movedP f p).rails.length := by unfold movedP; simpa using ha
  have hb2 : b < (movedP f p).rails.length := by unfold movedP; simpa using hb
  have e1 : (movedP f p).rails[a] = movedR f (p.rails[a]) := List.getElem_map (movedR f)
  have e2 : (movedP f p).rails[b] = movedR f (p.rails[b]) := List.getElem_map (movedR f)
  rw [lnR_eq ha, lnR_eq hb, lnR_eq ha2, lnR_eq hb2, e1, e2, moved_line f r1.h1 r1.h2, moved_line f r2.h1 r2.h2]
  rw [List.getElem?_eq_getElem hx, List.getElem?_eq_getElem hy]
  have p1 := List.all_eq_true.1 hl _ (List.getElem_mem hx)
  have p2 := List.all_eq_true.1 hl _ (List.getElem_mem hy)
  exact moved_rails h hV hQ r1 r2 (prB_pr p1) (prB_pr p2)
theorem moved_gap {f : S → S} {e : Int} (h : Iso f e) {L L2 : List S} {r r2 k k2 : Nat} (h1 : k + 1 < L.length) (h2 : k2 + 1 < L2.length) : gapW (stripAt r (L.map f) k) (stripAt r2 (L2.map f) k2) = gapW (stripAt r L k) (stripAt r2 L2 k2) :=
  Img.gap h (h.strip r h1) (h.strip r2 h2)
end Go.Proofs.YtekambdnmaompaaGreat.SW
