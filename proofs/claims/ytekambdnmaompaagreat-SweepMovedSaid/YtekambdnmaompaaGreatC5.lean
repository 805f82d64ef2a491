/- Contracts: railsRight. -/
import Derived.Test.YtekambdnmaompaaGreatC4
import Derived.Test.YtekambdnmaompaaGreatBlk
namespace Go.Proofs.YtekambdnmaompaaGreat
set_option linter.unusedVariables false
set_option linter.unusedSimpArgs false
open Go.RowKit

def railOk (p : Pl) (r : R) : Bool := railB p.nodes.length r && okL (lineOf p r)
def railsB (p : Pl) : Bool := p.rails.all (railOk p)
def lenZ (p : Pl) (r : R) : Int := (lenOf (lineOf p r) : Nat)
def lensOf (p : Pl) : List Int := p.rails.map (lenZ p)
/-- the lengths of the first k rails, then zeros -/
def lensTo (p : Pl) (k : Nat) : List Int := (p.rails.take k).map (lenZ p) ++ List.replicate (p.rails.length - k) 0
theorem lensTo_len {p : Pl} {k : Nat} (h : k ≤ p.rails.length) : (lensTo p k).length = p.rails.length := by simp [lensTo]; omega
theorem lensTo_zero (p : Pl) : lensTo p 0 = List.replicate p.rails.length 0 := by simp [lensTo]
theorem lensTo_all (p : Pl) : lensTo p p.rails.length = lensOf p := by simp [lensTo, lensOf]
theorem lensTo_succ {p : Pl} {k : Nat} (h : k < p.rails.length) : (lensTo p k).set k (lenZ p p.rails[k]) = lensTo p (k + 1) := by
  apply List.ext_getElem?
  intro i
  simp only [lensTo]
  rw [List.getElem?_set]
  by_cases hik : i = k
  · subst hik
    rw [if_pos rfl, if_pos (by simp; omega), List.getElem?_append_left (by simp; omega)]
    simp [h]
  · rw [if_neg (fun e => hik e.symm)]
    by_cases hlt : i < k
    · rw [List.getElem?_append_left (by simp; omega), List.getElem?_append_left (by simp; omega)]
      simp [List.getElem?_take, hlt, show i < k + 1 by omega]
    · rw [List.getElem?_append_right (by simp; omega), List.getElem?_append_right (by simp; omega)]
      simp only [List.length_map, List.length_take, List.getElem?_replicate]
      congr 1
      apply propext
      omega

theorem allR_line {p : Pl} {r : R} (hn : ∀ j (hj : j < p.nodes.length), spotB p.nodes[j].spot = true) (hr : railB p.nodes.length r = true) : allR (lineOf p r) := by
  simp only [railB, railN, Bool.and_eq_true, decide_eq_true_eq] at hr
  obtain ⟨⟨h1, h2, h3, h4, h5, _⟩, hs⟩ := hr
  have hfr : inR (spotOf p r.frm) := by
    obtain ⟨k, hk⟩ := Int.eq_ofNat_of_zero_le h1
    have : k < p.nodes.length := by omega
    rw [spotOf_eq hk this, ← spotB_iff]; exact hn k this
  have hto : inR (spotOf p r.to) := by
    obtain ⟨k, hk⟩ := Int.eq_ofNat_of_zero_le h3
    have : k < p.nodes.length := by omega
    rw [spotOf_eq hk this, ← spotB_iff]; exact hn k this
  intro k hk
  have hmem : sAt (lineOf p r) k ∈ lineOf p r := by rw [sAt_eq hk]; exact List.getElem_mem hk
  simp only [lineOf, List.mem_cons, List.mem_append, List.not_mem_nil, or_false] at hmem
  rcases hmem with e | e | e
  · simp only [lineOf] at e ⊢; rw [e]; exact hfr
  · rw [List.all_eq_true] at hs
    have := hs _ e
    rw [spotB_iff] at this; exact this
  · simp only [lineOf] at e ⊢; rw [e]; exact hto
theorem railB_ix {p : Pl} {r : R} (hr : railB p.nodes.length r = true) : nodeIx p r.frm ∧ nodeIx p r.to ∧ r.shape.length ≤ 30 := by
  simp only [railB, railN, Bool.and_eq_true, decide_eq_true_eq] at hr
  obtain ⟨⟨h1, h2, h3, h4, h5, _⟩, _⟩ := hr
  exact ⟨⟨h1, h2⟩, ⟨h3, h4⟩, h5⟩

structure RailsPost (g : Nat) (A : Option Addr) (c : Nat) (A2 : Option Addr) (c2 : Nat) (p : Pl) (Sv Nv Bv : Value) (w : World) (e : Ending) (w' : World) : Prop where
  res : e = .returned (.bool (railsB p))
  gr : Gr g w w'
  net : ∃ b, w.heap.size ≤ b ∧ Net w' g A c A2 c2 p (.slice (some ⟨b, 0, none⟩) p.rails.length p.rails.length) Sv Nv Bv ∧ (railsB p = true → IRow w' b (lensOf p))

structure RailsRel (g : Nat) (A : Option Addr) (c : Nat) (A2 : Option Addr) (c2 : Nat) (p : Pl) (Sv Nv Bv : Value) (w : World) (k : Nat) (wr : World) : Prop where
  le : k ≤ p.rails.length
  all : ∀ j (hj : j < p.rails.length), j < k → railOk p p.rails[j] = true
  gr : Gr g w wr
  net : Net wr g A c A2 c2 p (.slice (some ⟨w.heap.size, 0, none⟩) p.rails.length p.rails.length) Sv Nv Bv
  row : IRow wr w.heap.size (lensTo p k)

set_option maxRecDepth 100000 in
set_option maxHeartbeats 4000000 in
theorem railsRight_any (g : Nat) (A A2 : Option Addr) (c c2 : Nat) (p : Pl) (Lv Sv Nv Bv : Value) (w : World) (hN : Net w g A c A2 c2 p Lv Sv Nv Bv)
    (hn : ∀ j (hj : j < p.nodes.length), spotB p.nodes[j].spot = true) (hm400 : p.rails.length ≤ 400) :
    Calls Tryz.prog 83 #[.pointer (some ⟨g, 0, none⟩)] w (RailsPost g A c A2 c2 p Sv Nv Bv w) := by
  obtain ⟨i0, hi, hz0, hz1, hz2⟩ := info_parts info3
  obtain ⟨c0, c1, _, _, _, _⟩ := hN.cell
  have hrc := hN.pl.rc; have hrm := hN.pl.rm
  have hgl := hN.lt
  have f2 := hN.frozen 2
  have hmk := fun W : World => run_mk (P := Tryz.prog) 115 3 i0 _ 1 Tryz.underlying115 hi hz0 hz1 (p.rails.length : Int) (p.rails.length : Int) p.rails.length p.rails.length rfl rfl (by omega) (by rw [hz2]; omega) (by omega) W
  have hNn := (hN.set2 (.slice (some ⟨w.heap.size, 0, none⟩) p.rails.length p.rails.length)).alloc (.cells (madeCells #[.int .i64 0] p.rails.length) 3)
  have hR0 : IRow ((w.setCell ⟨g, 2, none⟩ (.slice (some ⟨w.heap.size, 0, none⟩) p.rails.length p.rails.length)).alloc (.cells (madeCells #[.int .i64 0] p.rails.length) 3)) w.heap.size (lensTo p 0) := by
    rw [lensTo_zero]
    have := IRow.made (w.setCell ⟨g, 2, none⟩ (.slice (some ⟨w.heap.size, 0, none⟩) p.rails.length p.rails.length)) p.rails.length
    simpa using this
  have hG0 : Gr g w ((w.setCell ⟨g, 2, none⟩ (.slice (some ⟨w.heap.size, 0, none⟩) p.rails.length p.rails.length)).alloc (.cells (madeCells #[.int .i64 0] p.rails.length) 3)) :=
    ((Gr.refl g w).set (p := ⟨g, 2, none⟩) _ (.inl rfl)).alloc _
  have HN := Lib.hid hNn; have HR := Lib.hid hR0; have HG := Lib.hid hG0; clear hNn hR0 hG0 hN
  go_enter Tryz.func83, Tryz.ntmps83
  go_wp2
  clear hmk
  go_loopw [23] (fun i wr => ∃ k : Nat, i = .int .i64 (k : Int) ∧ RailsRel g A c A2 c2 p Sv Nv Bv w k wr) (fun i _ => p.rails.length - (intOf i).toNat)
  case atStart => exact ⟨0, rfl, by omega, fun j _ h => absurd h (by omega), HG.out, HN.out, HR.out⟩
  case round =>
    obtain ⟨k, rfl, hrel⟩ := hrel
    obtain ⟨hk, hall, hg, hnet, hrow⟩ := hrel
    have HA := Lib.hid hall; clear hall HN HR HG c0 c1 f2
    by_cases hlt : k < p.rails.length
    · obtain ⟨b, off, A', c', hA, hb, hE, hc1, hc2, k0, k1, k2, k3, k4⟩ := hnet.pl.rail hlt
      subst hA
      have hgr := hnet.lt
      have hsz := hg.size
      have hbb : b < wr.heap.size := by omega
      cases hs : railB p.nodes.length p.rails[k]
      · have HB := Lib.hid (show railsB p = false from all_no' hlt (by simp [railOk, hs]))
        go_wp2_with fail
        refine (railRight_any g A _ c c2 p _ Sv Nv Bv p.rails[k] A' c' _ (hnet.alloc _) (hE.keep (fun _ _ h => h) fun q hq => ((Below.refl g wr).alloc (by omega) _).cell hq) hc1 hc2).mono ?_
        rintro e w2 ⟨rfl, hb2⟩
        go_wp2
        go_ret
        exact ⟨by rw [HB.out]; rfl, (hg.alloc _).below hb2 (by simp; omega), w.heap.size, Nat.le_refl _, (hnet.alloc _).below hb2 (by simp; omega), fun h => by rw [HB.out] at h; cases h⟩
      · obtain ⟨x1, x2, x3⟩ := railB_ix hs
        have hAR := allR_line hn hs
        have hll : (lineOf p p.rails[k]).length = p.rails[k].shape.length + 2 := by simp [lineOf]
        have HX := Lib.hid hll; clear hll
        go_wp2_with fail
        refine (railRight_any g A _ c c2 p _ Sv Nv Bv p.rails[k] A' c' _ (hnet.alloc _) (hE.keep (fun _ _ h => h) fun q hq => ((Below.refl g wr).alloc (by omega) _).cell hq) hc1 hc2).mono ?_
        rintro e w2 ⟨rfl, hb2⟩
        have hn2 := (hnet.alloc (.cells #[.int .i64 p.rails[k].frm, .int .i64 p.rails[k].to, .slice A' p.rails[k].shape.length c', .int .i64 p.rails[k].limit, .int .i64 p.rails[k].slope] 63)).below hb2 (by simp; omega)
        have hr2 := (hrow.alloc (.cells #[.int .i64 p.rails[k].frm, .int .i64 p.rails[k].to, .slice A' p.rails[k].shape.length c', .int .i64 p.rails[k].limit, .int .i64 p.rails[k].slope] 63)).below hb2 (by simp; have := hrow.lt; omega)
        have hg2 := (hg.alloc (.cells #[.int .i64 p.rails[k].frm, .int .i64 p.rails[k].to, .slice A' p.rails[k].shape.length c', .int .i64 p.rails[k].limit, .int .i64 p.rails[k].slope] 63)).below hb2 (by simp; omega)
        clear hb2 hnet hrow hg hE k0 k1 k2 k3 k4
        obtain ⟨y0, y1, y2, _, _, _⟩ := hn2.cell
        go_wp2_with fail
        refine (sLine_any A _ c c2 p k _ (hn2.pl.more (by have := hn2.lt; omega)) hlt x1 x2 (by omega)).mono ?_
        rintro e w3 ⟨v, rfl, ho, hb3⟩
        obtain ⟨A3, c3, rfl, hc31, hc32, _⟩ := ho.form
        have hn3 := hn2.below hb3 hn2.lt
        have hr3 := hr2.below hb3 hr2.lt
        have hg3 := hg2.below hb3 hg2.size
        have hS3 := ho.sl fS_len rfl
        clear ho hb3 hn2 hr2 hg2 y0 y1 y2
        go_wp2_with fail
        refine (sLength_any A3 (lineOf p p.rails[k]) c3 _ hS3 (by have := HX.out; omega) (by have := HX.out; omega) hAR).mono ?_
        rintro e w4 ⟨rfl, hb4⟩
        have hn4 := hn3.below hb4 hn3.lt
        have hr4 := hr3.below hb4 hr3.lt
        have hg4 := hg3.below hb4 hg3.size
        clear hb4 hn3 hr3 hg3 hS3
        cases hok : okL (lineOf p p.rails[k])
        · have HB := Lib.hid (show railsB p = false from all_no' hlt (by simp [railOk, hs, hok]))
          rw [show lenRes (lineOf p p.rails[k]) = .tuple #[.int .i64 0, .bool false] by simp [lenRes, hok]]
          go_wp2
          go_ret
          exact ⟨by rw [HB.out]; rfl, hg4, w.heap.size, Nat.le_refl _, hn4, fun h => by rw [HB.out] at h; cases h⟩
        · have HB := Lib.hid (show railOk p p.rails[k] = true by simp [railOk, hs, hok])
          rw [show lenRes (lineOf p p.rails[k]) = .tuple #[.int .i64 (lenOf (lineOf p p.rails[k]) : Nat), .bool true] by simp [lenRes, hok]]
          obtain ⟨y0, y1, y2, _, _, _⟩ := hn4.cell
          have y3 := hr4.frozen k
          have y4 := hr4.cell (i := k) (by rw [lensTo_len (by omega)]; exact hlt)
          go_wp2
          go_roundw
          case rel =>
            refine ⟨k + 1, by go_num, by omega, fun j hj hjk => if h : j = k then by subst h; exact HB.out else HA.out j hj (by omega), hg4.set (p := ⟨w.heap.size, k, none⟩) _ (.inr (Nat.le_refl _)), hn4.other (q := ⟨w.heap.size, k, none⟩) _ (by simp; omega), ?_⟩
            rw [← lensTo_succ hlt]
            exact hr4.set k _
          case measure => simp [intOf]; omega
    · obtain rfl : k = p.rails.length := by omega
      have HB := Lib.hid (show railsB p = true from all_yes' fun j hj => HA.out j hj hj)
      go_wp2
      go_ret
      exact ⟨by rw [HB.out]; rfl, hg, w.heap.size, Nat.le_refl _, hnet, fun _ => by rw [← lensTo_all]; exact hrow⟩
end Go.Proofs.YtekambdnmaompaaGreat
