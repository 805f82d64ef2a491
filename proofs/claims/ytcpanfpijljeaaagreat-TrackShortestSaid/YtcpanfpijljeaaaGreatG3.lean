/- Contracts: Check, Length, Line, Next, Follows, Between. -/
import Derived.Test.YtcpanfpijljeaaaGreatG1
import Derived.Test.YtcpanfpijljeaaaGreatG2
import Derived.Deep.RegionHeld3
namespace Go.Proofs.YtcpanfpijljeaaaGreat
set_option linter.unusedVariables false
set_option linter.unusedSimpArgs false
open Go.RowKit

theorem PlAt.box {w : World} {A A2 : Option Addr} {c c2 : Nat} {p : Pl} (h : PlAt w w.heap.size A c A2 c2 p) (o : Obj) : PlAt (w.alloc o) (w.alloc o).heap.size A c A2 c2 p :=
  (h.below ((Below.refl _ _).alloc (Nat.le_refl _) _)).more (by simp)

theorem cell_keep1 {w : World} {b i : Nat} {o : Obj} {v : Option Value} (h : w.cell? ⟨b, i, none⟩ = v) (hb : b < w.heap.size) : (w.alloc o).cell? ⟨b, i, none⟩ = v :=
  (((Below.refl w.heap.size w).alloc (Nat.le_refl _) o).cell (p := ⟨b, i, none⟩) hb).trans h
theorem cell_new1 (w : World) (cs : Array Value) (t : TypeId) (i : Nat) : (w.alloc (.cells cs t)).cell? ⟨w.heap.size, i, none⟩ = cs[i]? :=
  cell_of_row _ w.heap.size i _ t (0, 0) (heap_alloc_new w _)
theorem box_cells3 (w : World) (a b c : Array Value) (t1 t2 t3 : TypeId) (i : Nat) :
    (((w.alloc (.cells a t1)).alloc (.cells b t2)).alloc (.cells c t3)).cell? ⟨w.heap.size + 1, i, none⟩ = b[i]? ∧ (((w.alloc (.cells a t1)).alloc (.cells b t2)).alloc (.cells c t3)).cell? ⟨w.heap.size + 1 + 1, i, none⟩ = c[i]? := by
  have h1 := cell_new1 (w.alloc (.cells a t1)) b t2 i
  have h2 := cell_new1 ((w.alloc (.cells a t1)).alloc (.cells b t2)) c t3 i
  rw [show (w.alloc (.cells a t1)).heap.size = w.heap.size + 1 by simp] at h1
  rw [show ((w.alloc (.cells a t1)).alloc (.cells b t2)).heap.size = w.heap.size + 1 + 1 by simp] at h2
  exact ⟨cell_keep1 h1 (by simp), h2⟩

theorem cell_alloc_lt (w : World) (o : Obj) {b i : Nat} (hb : b < w.heap.size) : (w.alloc o).cell? ⟨b, i, none⟩ = w.cell? ⟨b, i, none⟩ :=
  ((Below.refl w.heap.size w).alloc (Nat.le_refl _) o).cell (p := ⟨b, i, none⟩) hb
theorem frozen_keep1 {w : World} {b i : Nat} {o : Obj} {v : Bool} (h : w.frozen? ⟨b, i, none⟩ = v) (hb : b < w.heap.size) : (w.alloc o).frozen? ⟨b, i, none⟩ = v :=
  (((Below.refl w.heap.size w).alloc (Nat.le_refl _) o).frozen (p := ⟨b, i, none⟩) hb).trans h
theorem frozen_new1 (w : World) (cs : Array Value) (t : TypeId) (i : Nat) : (w.alloc (.cells cs t)).frozen? ⟨w.heap.size, i, none⟩ = false := by
  unfold World.frozen?; rw [heap_alloc_new]; simp
theorem box_cells4 (w : World) (a b c d : Array Value) (t1 t2 t3 t4 : TypeId) (i : Nat) :
    ((((w.alloc (.cells a t1)).alloc (.cells b t2)).alloc (.cells c t3)).alloc (.cells d t4)).cell? ⟨w.heap.size + 1, i, none⟩ = b[i]? ∧ ((((w.alloc (.cells a t1)).alloc (.cells b t2)).alloc (.cells c t3)).alloc (.cells d t4)).cell? ⟨w.heap.size + 1 + 1, i, none⟩ = c[i]? ∧
    ((((w.alloc (.cells a t1)).alloc (.cells b t2)).alloc (.cells c t3)).alloc (.cells d t4)).cell? ⟨w.heap.size + 1 + 1 + 1, i, none⟩ = d[i]? ∧ ((((w.alloc (.cells a t1)).alloc (.cells b t2)).alloc (.cells c t3)).alloc (.cells d t4)).frozen? ⟨w.heap.size + 1 + 1 + 1, i, none⟩ = false := by
  obtain ⟨h1, h2⟩ := box_cells3 w a b c t1 t2 t3 i
  have h3 := cell_new1 (((w.alloc (.cells a t1)).alloc (.cells b t2)).alloc (.cells c t3)) d t4 i
  have h4 := frozen_new1 (((w.alloc (.cells a t1)).alloc (.cells b t2)).alloc (.cells c t3)) d t4 i
  rw [show (((w.alloc (.cells a t1)).alloc (.cells b t2)).alloc (.cells c t3)).heap.size = w.heap.size + 1 + 1 + 1 by simp] at h3 h4
  exact ⟨cell_keep1 h1 (by simp), cell_keep1 h2 (by simp), h3, h4⟩

theorem row2 {w : World} {K : Nat} {x y : Value} {t : TypeId} (h : w.heap[K]? = some (.cells #[x, y] t)) :
    w.cell? ⟨K, 0, none⟩ = some x ∧ w.cell? ⟨K, 1, none⟩ = some y ∧ w.frozen? ⟨K, 0, none⟩ = false ∧ w.frozen? ⟨K, 1, none⟩ = false :=
  ⟨cell_of_row _ _ 0 _ _ _ h, cell_of_row _ _ 1 _ _ _ h, by unfold World.frozen?; rw [h]; simp, by unfold World.frozen?; rw [h]; simp⟩

def CheckPost (p : Pl) (w : World) (e : Ending) (w' : World) : Prop := ((Vld p ∧ e = .returned (.int .i64 0)) ∨ (¬ Vld p ∧ e = .returned (.int .i64 2))) ∧ Below w.heap.size w w'
def lenAt (p : Pl) (r : Int) : Int := ((lensOf p)[r.toNat]?).getD 0
def LengthPost (p : Pl) (r : Int) (w : World) (e : Ending) (w' : World) : Prop :=
  ((Vld p ∧ railIn p r = true ∧ e = .returned (.tuple #[.int .i64 (lenAt p r), .int .i64 0])) ∨ ((¬ Vld p ∨ railIn p r = false) ∧ e = .returned (.tuple #[.int .i64 0, .int .i64 2]))) ∧ Below w.heap.size w w'
theorem lens_len (p : Pl) : (lensOf p).length = p.rails.length := by simp [lensOf]
set_option maxHeartbeats 1000000 in
theorem Length_any (A A2 : Option Addr) (c c2 : Nat) (p : Pl) (r : Int) (w : World) (hP : PlAt w w.heap.size A c A2 c2 p) :
    Calls Tryz.prog 47 #[.agg #[.slice A p.nodes.length c, .slice A2 p.rails.length c2], .int .i64 r] w (LengthPost p r w) := by
  have HP := Lib.hid (hP.box (.cells #[.slice A p.nodes.length c, .slice A2 p.rails.length c2] 25)); clear hP
  go_enter Tryz.func47, Tryz.ntmps47
  go_wp2_with fail
  refine (survey_any A A2 c c2 p _ HP.out).mono ?_
  rintro e w1 ⟨hb, ⟨hv, rfl⟩ | ⟨hv, g, rfl, hg, hN⟩⟩
  · have HV := Lib.hid hv; have HB := Lib.hid hb; clear hv hb
    go_wp2
    go_ret2
    exact ⟨.inr ⟨.inl HV.out, rfl⟩, ((Below.refl _ _).alloc (Nat.le_refl _) _).trans (HB.out.mono (by simp))⟩
  · have HV := Lib.hid hv; have HB := Lib.hid hb; have HN := Lib.hid hN; clear hv hb hN
    go_wp2_with fail
    refine (hasRail_any _ g p r _ HN.out).mono ?_
    rintro e w2 ⟨rfl, rfl⟩
    cases hr : railIn p r
    · have HR := Lib.hid hr; clear hr
      go_wp2
      go_ret2
      exact ⟨.inr ⟨.inr HR.out, rfl⟩, ((Below.refl _ _).alloc (Nat.le_refl _) _).trans (HB.out.mono (by simp))⟩
    · have HR := Lib.hid hr
      have hsz := HN.out.sizes
      have hr2 := of_decide_eq_true hr
      obtain ⟨k, rfl⟩ := Int.eq_ofNat_of_zero_le hr2.1
      have hk : k < p.rails.length := by omega
      clear hr hr2
      obtain ⟨A, c, A2, c2, lb, sb, nb, bb, hN, h1, h2, h3, h4, h5, h6⟩ := HN.out.net
      obtain ⟨_, _, k2, _, _, _⟩ := hN.cell
      have z := h3.cell (i := k) (by rw [lens_len]; exact hk)
      have HL := Lib.hid (show (lensOf p)[k]'(by rw [lens_len]; exact hk) = lenAt p k by simp [lenAt, lens_len, hk])
      rw [HL.out] at z
      clear hN h3 h4 h5 h6
      go_wp2
      go_ret2
      exact ⟨.inl ⟨HV.out, HR.out, rfl⟩, ((Below.refl _ _).alloc (Nat.le_refl _) _).trans (HB.out.mono (by simp))⟩

def R0 : R := ⟨0, 0, [], 0, 0⟩
def railAt (p : Pl) (r : Int) : R := (p.rails[r.toNat]?).getD R0
def LinePost (p : Pl) (r : Int) (w : World) (e : Ending) (w' : World) : Prop :=
  ((Vld p ∧ railIn p r = true ∧ ∃ v, e = .returned (.tuple #[v, .int .i64 0]) ∧ Own w' w.heap.size 82 2 fS v (lineOf p (railAt p r))) ∨ ((¬ Vld p ∨ railIn p r = false) ∧ e = .returned (.tuple #[.slice none 0 0, .int .i64 2]))) ∧ Below w.heap.size w w'
theorem Vld.rail {p : Pl} (h : Vld p) {k : Nat} (hk : k < p.rails.length) : railB p.nodes.length p.rails[k] = true ∧ okL (lineOf p p.rails[k]) = true := by
  have := List.all_eq_true.1 h.rails _ (List.getElem_mem hk)
  simpa [railOk] using this
theorem leaveL_bd {p : Pl} (hV : Vld p) {m : Nat} (hm : m < 2 * p.rails.length) : ∀ z ∈ leaveL p m, 0 ≤ z ∧ z < 2 * (p.rails.length : Int) := by
  have hx := flip_lt hm
  obtain ⟨i, hi, k, hk, h1, h2, h3⟩ := slots_spec hV.ends hx
  have hxl : flip m < (slotsOf p).length := by rw [slots_len]; exact hx
  have hlv := leaveL_eq (m := m) h2 hi rfl hxl (h3 hxl)
  intro z hz
  rw [hlv] at hz
  obtain ⟨s, hs, rfl⟩ := List.mem_map.1 hz
  have hLb := thru_lt (List.all_eq_true.1 hV.nodes _ (List.getElem_mem hi)) hk
  obtain ⟨h1, h2⟩ := hLb s hs
  obtain ⟨t, rfl⟩ := Int.eq_ofNat_of_zero_le h1
  rw [endAt_nat (show t < p.nodes[i].ends.length by omega)]
  exact endNo_bd (hV.ends.1 i hi _ (List.getElem_mem (show t < p.nodes[i].ends.length by omega)))
theorem nextL_bd {p : Pl} (hV : Vld p) {m : Nat} (hm : m < 2 * p.rails.length) : ∀ z ∈ nextL p m, 0 ≤ z ∧ z < 2 * (p.rails.length : Int) := fun z hz =>
  leaveL_bd hV hm z (by unfold nextL at hz; rwa [List.mem_mergeSort] at hz)

def NextPost (p : Pl) (m : E) (w : World) (e : Ending) (w' : World) : Prop :=
  ((Vld p ∧ railIn p m.rail = true ∧ ∃ v, e = .returned (.tuple #[v, .int .i64 0]) ∧ Own w' w.heap.size 27 2 fE v ((nextL p (keyE m)).map moveE)) ∨ ((¬ Vld p ∨ railIn p m.rail = false) ∧ e = .returned (.tuple #[.slice none 0 0, .int .i64 2]))) ∧ Below w.heap.size w w'
theorem key_lt {p : Pl} {m : E} (h : railIn p m.rail = true) : ((keyE m : Nat) : Int) = endNo m ∧ keyE m < 2 * p.rails.length := by
  have h2 := of_decide_eq_true h
  unfold keyE endNo
  split <;> omega
set_option maxHeartbeats 1000000 in
theorem Next_any (A0 A20 : Option Addr) (c0 c20 : Nat) (p : Pl) (m : E) (w : World) (hP : PlAt w w.heap.size A0 c0 A20 c20 p) :
    Calls Tryz.prog 12 #[.agg #[.slice A0 p.nodes.length c0, .slice A20 p.rails.length c20], .agg #[.int .i64 m.rail, .bool m.last]] w (NextPost p m w) := by
  have HP := Lib.hid ((hP.box (.cells #[.slice A0 p.nodes.length c0, .slice A20 p.rails.length c20] 25)).box (.cells #[.int .i64 m.rail, .bool m.last] 27)); clear hP
  go_enter Tryz.func12, Tryz.ntmps12
  go_wp2_with fail
  refine (survey_any A0 A20 c0 c20 p _ HP.out).mono ?_
  rintro e w1 ⟨hb, ⟨hv, rfl⟩ | ⟨hv, g, rfl, hg, hN⟩⟩
  · have HV := Lib.hid hv; have HB := Lib.hid hb; clear hv hb
    go_wp2
    go_ret2
    exact ⟨.inr ⟨.inl HV.out, rfl⟩, (((Below.refl _ _).alloc (Nat.le_refl _) _).alloc (by simp) _).trans (HB.out.mono (by simp; omega))⟩
  · have HV := Lib.hid hv; have HB := Lib.hid hb; have HN := Lib.hid hN
    obtain ⟨hc2, hf2⟩ := bcell hb
    have hz1 := hb.size
    simp at hz1
    clear hv hb hN
    go_wp2_with fail
    refine (hasRail_any _ g p m.rail _ HN.out).mono ?_
    rintro e w2 ⟨rfl, rfl⟩
    cases hr : railIn p m.rail
    · have HR := Lib.hid hr; clear hr
      go_wp2
      go_ret2
      exact ⟨.inr ⟨.inr HR.out, rfl⟩, (((Below.refl _ _).alloc (Nat.le_refl _) _).alloc (by simp) _).trans (HB.out.mono (by simp; omega))⟩
    · have HR := Lib.hid hr
      have hsz := HN.out.sizes
      have hr2 := of_decide_eq_true hr
      have hr0 := hr2.1
      have hr1 : m.rail ≤ 1000000 := by omega
      obtain ⟨kk, kl⟩ := key_lt hr
      have HK := Lib.hid kk
      clear hr hr2 kk
      obtain ⟨A, c, A2, c2, lb, sb, nb, bb, hN, h1, h2, h3, h4, h5, h6⟩ := HN.out.net
      obtain ⟨_, _, _, _, c4, _⟩ := hN.cell
      obtain ⟨An, cn, q0, q1, q2, q3⟩ := h5.2 _ kl
      have hnb := h5.1
      have hgB := HN.out.gB
      have hl := nextL_len p (keyE m)
      have HS := Lib.hid (show Sl w1 w1.heap.size 1 CI An (nextL p (keyE m)) from q3)
      have kl' : ((keyE m : Nat) : Int) < 2 * (p.rails.length : Int) := by omega
      have k0' : (0 : Int) ≤ ((keyE m : Nat) : Int) := by omega
      have y0 := hc2 (w.heap.size + 1) 0 (by simp)
      have y1 := hc2 (w.heap.size + 1) 1 (by simp)
      rw [show ((w.alloc (.cells #[.slice A0 p.nodes.length c0, .slice A20 p.rails.length c20] 25)).alloc (.cells #[.int .i64 m.rail, .bool m.last] 27)).cell? ⟨w.heap.size + 1, 0, none⟩ = some (.int .i64 m.rail) by simp] at y0
      rw [show ((w.alloc (.cells #[.slice A0 p.nodes.length c0, .slice A20 p.rails.length c20] 25)).alloc (.cells #[.int .i64 m.rail, .bool m.last] 27)).cell? ⟨w.heap.size + 1, 1, none⟩ = some (.bool m.last) by simp] at y1
      have HF := Lib.hid hf2
      clear hN h3 h4 h5 h6 q3 hc2 hf2
      go_wp2
      go_region_held3 (fun w' => w'.cell? ⟨g, 4, none⟩ = some (.slice (some ⟨nb, 0, none⟩) (2 * p.rails.length) (2 * p.rails.length)) ∧ w'.cell? ⟨w.heap.size + 1, 0, none⟩ = some (.int .i64 m.rail) ∧ w'.cell? ⟨w.heap.size + 1, 1, none⟩ = some (.bool m.last) ∧ w'.cell? ⟨nb, keyE m, none⟩ = some (.slice An (nextL p (keyE m)).length cn))
        (first | exact ⟨z0, z1, z2, z3⟩ | exact ⟨(hb3.cell (p := ⟨g, 4, none⟩) (by simp; omega)).trans z0, (hb3.cell (p := ⟨w.heap.size + 1, 0, none⟩) (by simp; omega)).trans z1, (hb3.cell (p := ⟨w.heap.size + 1, 1, none⟩) (by simp; omega)).trans z2, (hb3.cell (p := ⟨nb, keyE m, none⟩) (by simp; omega)).trans z3⟩ | (go_keep; done))
        ((first
          | (go_at_call 51; refine (number_any m _ hr0 hr1).mono ?_; rintro e w2 ⟨rfl, hb2'⟩; rw [← HK.out]; have hb2 : Below w1.heap.size w1 w2 := (Below.refl _ _).drew.trans hb2'; have hz2 := hb2.size; have z0 := (hb2.cell (p := ⟨g, 4, none⟩) (by simp; omega)).trans c4; have z1 := (hb2.cell (p := ⟨w.heap.size + 1, 0, none⟩) (by simp; omega)).trans y0; have z2 := (hb2.cell (p := ⟨w.heap.size + 1, 1, none⟩) (by simp; omega)).trans y1; have z3 := (hb2.cell (p := ⟨nb, keyE m, none⟩) (by simp; omega)).trans q0)
          | (go_at_call 50; refine (moves_any An (nextL p (keyE m)) cn _ ((HS.out.below hb2).more (fun _ _ h => h) hb2.size) (by omega) (fun x hx => by have := nextL_bd HV.out kl x hx; omega)).mono ?_; rintro e w3 ⟨⟨v, rfl, ho⟩, hb3⟩)))
      have HO := Lib.hid ho; have HB3 := Lib.hid hb3; have HB2 := Lib.hid hb2
      have hz3 := hb3.size
      clear ho hb3 hb2
      go_wp2
      go_ret2
      exact ⟨.inl ⟨HV.out, HR.out, v, rfl, HO.out.lower (by omega)⟩, (((((Below.refl _ _).alloc (Nat.le_refl _) _).alloc (by simp) _).trans (HB.out.mono (by simp; omega))).trans (HB2.out.mono (by omega))).trans (HB3.out.mono (by omega))⟩

theorem number_gen (r : Int) (b : Bool) (w : World) (h0 : 0 ≤ r) (h1 : r ≤ 1000000) :
    Calls Tryz.prog 51 #[.agg #[.int .i64 r, .bool b]] w fun e w' => e = .returned (.int .i64 (endNo ⟨r, b⟩)) ∧ Below w.heap.size w w' := number_any ⟨r, b⟩ w h0 h1

def FollPost (p : Pl) (m n : E) (w : World) (e : Ending) (w' : World) : Prop :=
  ((Vld p ∧ railIn p m.rail = true ∧ railIn p n.rail = true ∧ e = .returned (.tuple #[.bool (folB p (keyE m) (endNo n)), .int .i64 0])) ∨ ((¬ Vld p ∨ railIn p m.rail = false ∨ railIn p n.rail = false) ∧ e = .returned (.tuple #[.bool false, .int .i64 2]))) ∧ Below w.heap.size w w'
set_option maxRecDepth 100000 in
set_option maxHeartbeats 2000000 in
theorem Follows_any (A0 A20 : Option Addr) (c0 c20 : Nat) (p : Pl) (m n : E) (w : World) (hP : PlAt w w.heap.size A0 c0 A20 c20 p) :
    Calls Tryz.prog 13 #[.agg #[.slice A0 p.nodes.length c0, .slice A20 p.rails.length c20], .agg #[.int .i64 m.rail, .bool m.last], .agg #[.int .i64 n.rail, .bool n.last]] w (FollPost p m n w) := by
  have HP := Lib.hid (((hP.box (.cells #[.slice A0 p.nodes.length c0, .slice A20 p.rails.length c20] 25)).box (.cells #[.int .i64 m.rail, .bool m.last] 27)).box (.cells #[.int .i64 n.rail, .bool n.last] 27)); clear hP
  have HB0 := Lib.hid (((((Below.refl w.heap.size w).alloc (Nat.le_refl _) (.cells #[.slice A0 p.nodes.length c0, .slice A20 p.rails.length c20] 25))).alloc (by simp) (.cells #[.int .i64 m.rail, .bool m.last] 27)).alloc (by simp; omega) (.cells #[.int .i64 n.rail, .bool n.last] 27))
  go_enter Tryz.func13, Tryz.ntmps13
  go_wp2_with fail
  refine (survey_any A0 A20 c0 c20 p _ HP.out).mono ?_
  rintro e w1 ⟨hb, ⟨hv, rfl⟩ | ⟨hv, g, rfl, hg, hN⟩⟩
  · have HV := Lib.hid hv; have HB := Lib.hid (HB0.out.trans (hb.mono (by simp; omega))); clear hv hb
    go_wp2
    go_ret2
    exact ⟨.inr ⟨.inl HV.out, rfl⟩, HB.out⟩
  · have HV := Lib.hid hv; have HB := Lib.hid (HB0.out.trans (hb.mono (by simp; omega))); have HN := Lib.hid hN
    obtain ⟨hc2, hf2⟩ := bcell hb
    have hz1 := hb.size
    simp at hz1
    clear hv hb hN
    go_wp2_with fail
    refine (hasRail_any _ g p m.rail _ HN.out).mono ?_
    rintro e w2 ⟨rfl, rfl⟩
    cases hr : railIn p m.rail
    · have HR := Lib.hid hr; clear hr
      go_wp2
      go_ret2
      exact ⟨.inr ⟨.inr (.inl HR.out), rfl⟩, HB.out⟩
    have HR := Lib.hid hr
    have hsz := HN.out.sizes
    have hr2 := of_decide_eq_true hr
    have hr0 := hr2.1
    have hr1 : m.rail ≤ 1000000 := by omega
    obtain ⟨kk, kl⟩ := key_lt hr
    have HK := Lib.hid (show endNo ⟨m.rail, m.last⟩ = ((keyE m : Nat) : Int) from kk.symm)
    clear hr hr2 kk
    go_wp2_with fail
    refine (hasRail_any _ g p n.rail _ HN.out).mono ?_
    rintro e w2 ⟨rfl, rfl⟩
    cases hr : railIn p n.rail
    · have HR := Lib.hid hr; clear hr
      go_wp2
      go_ret2
      exact ⟨.inr ⟨.inr (.inr HR.out), rfl⟩, HB.out⟩
    have HRn := Lib.hid hr
    have hr2 := of_decide_eq_true hr
    have hn0 := hr2.1
    have hn1 : n.rail ≤ 1000000 := by omega
    obtain ⟨nk, nl⟩ := key_lt hr
    have HKn := Lib.hid (show endNo ⟨n.rail, n.last⟩ = ((keyE n : Nat) : Int) from nk.symm)
    clear hr hr2 nk
    have y0 := (hc2 (w.heap.size + 1) 0 (by simp)).trans (box_cells3 _ _ _ _ _ _ _ _).1
    have y1 := (hc2 (w.heap.size + 1) 1 (by simp)).trans (box_cells3 _ _ _ _ _ _ _ _).1
    have y2 := (hc2 (w.heap.size + 1 + 1) 0 (by simp)).trans (box_cells3 _ _ _ _ _ _ _ _).2
    have y3 := (hc2 (w.heap.size + 1 + 1) 1 (by simp)).trans (box_cells3 _ _ _ _ _ _ _ _).2
    simp only [List.getElem?_toArray, List.getElem?_cons_zero, List.getElem?_cons_succ] at y0 y1 y2 y3
    clear hc2 hf2
    have hbw : Below w1.heap.size w1 w1.drew := (Below.refl _ _).drew
    go_wp2
    go_region_held3 (fun w' => w'.cell? ⟨w.heap.size + 1, 0, none⟩ = some (.int .i64 m.rail) ∧ w'.cell? ⟨w.heap.size + 1, 1, none⟩ = some (.bool m.last) ∧ w'.cell? ⟨w.heap.size + 1 + 1, 0, none⟩ = some (.int .i64 n.rail) ∧ w'.cell? ⟨w.heap.size + 1 + 1, 1, none⟩ = some (.bool n.last))
      (exact ⟨(hbw.cell (p := ⟨w.heap.size + 1, 0, none⟩) (by simp; omega)).trans y0, (hbw.cell (p := ⟨w.heap.size + 1, 1, none⟩) (by simp; omega)).trans y1, (hbw.cell (p := ⟨w.heap.size + 1 + 1, 0, none⟩) (by simp; omega)).trans y2, (hbw.cell (p := ⟨w.heap.size + 1 + 1, 1, none⟩) (by simp; omega)).trans y3⟩)
      ((first
        | (go_at_call 51; refine (number_gen _ _ _ (by omega) (by omega)).mono ?_; rintro e w2 ⟨rfl, hb2⟩; replace hbw := hbw.trans (hb2.mono hbw.size); first | rw [HK.out] | rw [HKn.out])
        | (go_at_call 52; refine (follows_any _ g p (keyE m) _ _ (HN.out.below hbw) hbw.size kl).mono ?_; rintro e w3 ⟨rfl, rfl⟩)))
    all_goals
      have HBW := Lib.hid hbw
      clear hbw y0 y1 y2 y3
      go_wp2
      go_ret2
      exact ⟨.inl ⟨HV.out, HR.out, HRn.out, by rw [show endNo n = ((keyE n : Nat) : Int) from HKn.out]; rfl⟩, HB.out.trans (HBW.out.mono HB.out.size)⟩

def BetwPost (p : Pl) (m n : E) (w : World) (e : Ending) (w' : World) : Prop :=
  (((¬ Vld p ∨ railIn p m.rail = false ∨ railIn p n.rail = false) ∧ e = .returned (.tuple #[.agg #[.int .i64 0, .int .i64 0], .int .i64 2])) ∨
   (Vld p ∧ railIn p m.rail = true ∧ railIn p n.rail = true ∧
     ((¬ (folB p (keyE m) (endNo n) = true ∧ (atN p (flip (keyE m))).kind = 4) ∧ e = .returned (.tuple #[.agg #[.int .i64 0, .int .i64 0], .int .i64 4])) ∨
      (folB p (keyE m) (endNo n) = true ∧ (atN p (flip (keyE m))).kind = 4 ∧ e = .returned (.tuple #[.agg #[.int .i64 (nodeAtZ p (flip (keyE m) : Nat)), .int .i64 (setZ p (keyE m) (keyE n))], .int .i64 0]))))) ∧ Below w.heap.size w w'
set_option maxRecDepth 100000 in
set_option maxHeartbeats 4000000 in
theorem Between_any (A0 A20 : Option Addr) (c0 c20 : Nat) (p : Pl) (m n : E) (w : World) (hP : PlAt w w.heap.size A0 c0 A20 c20 p) :
    Calls Tryz.prog 14 #[.agg #[.slice A0 p.nodes.length c0, .slice A20 p.rails.length c20], .agg #[.int .i64 m.rail, .bool m.last], .agg #[.int .i64 n.rail, .bool n.last]] w (BetwPost p m n w) := by
  have HP := Lib.hid ((((hP.box (.cells #[.slice A0 p.nodes.length c0, .slice A20 p.rails.length c20] 25)).box (.cells #[.int .i64 m.rail, .bool m.last] 27)).box (.cells #[.int .i64 n.rail, .bool n.last] 27)).box (.cells #[.int .i64 0, .int .i64 0] 38)); clear hP
  have HB0 := Lib.hid ((((((Below.refl w.heap.size w).alloc (Nat.le_refl _) (.cells #[.slice A0 p.nodes.length c0, .slice A20 p.rails.length c20] 25))).alloc (by simp) (.cells #[.int .i64 m.rail, .bool m.last] 27)).alloc (by simp; omega) (.cells #[.int .i64 n.rail, .bool n.last] 27)).alloc (by simp; omega) (.cells #[.int .i64 0, .int .i64 0] 38))
  go_enter Tryz.func14, Tryz.ntmps14
  go_wp2_with fail
  refine (survey_any A0 A20 c0 c20 p _ HP.out).mono ?_
  rintro e w1 ⟨hb, ⟨hv, rfl⟩ | ⟨hv, g, rfl, hg, hN⟩⟩
  all_goals
    have HV := Lib.hid hv; have HB := Lib.hid (HB0.out.trans (hb.mono (by simp; omega)))
    obtain ⟨hc2, hf2⟩ := bcell hb
    have hz1 := hb.size
    simp at hz1
    have y0 := (hc2 (w.heap.size + 1) 0 (by simp)).trans (box_cells4 _ _ _ _ _ _ _ _ _ _).1
    have y1 := (hc2 (w.heap.size + 1) 1 (by simp)).trans (box_cells4 _ _ _ _ _ _ _ _ _ _).1
    have y2 := (hc2 (w.heap.size + 1 + 1) 0 (by simp)).trans (box_cells4 _ _ _ _ _ _ _ _ _ _).2.1
    have y3 := (hc2 (w.heap.size + 1 + 1) 1 (by simp)).trans (box_cells4 _ _ _ _ _ _ _ _ _ _).2.1
    have r0 := (hc2 (w.heap.size + 1 + 1 + 1) 0 (by simp)).trans (box_cells4 _ _ _ _ _ _ _ _ _ _).2.2.1
    have r1 := (hc2 (w.heap.size + 1 + 1 + 1) 1 (by simp)).trans (box_cells4 _ _ _ _ _ _ _ _ _ _).2.2.1
    have f0 := (hf2 (w.heap.size + 1 + 1 + 1) 0 (by simp)).trans (box_cells4 _ _ _ _ _ _ _ _ _ _).2.2.2
    have f1 := (hf2 (w.heap.size + 1 + 1 + 1) 1 (by simp)).trans (box_cells4 _ _ _ _ _ _ _ _ _ _).2.2.2
    simp only [List.getElem?_toArray, List.getElem?_cons_zero, List.getElem?_cons_succ] at y0 y1 y2 y3 r0 r1
    clear hc2 hf2 hb hv
  · go_wp2
    exact bodyPost_ret (v := .tuple #[.agg #[.int .i64 0, .int .i64 0], .int .i64 2]) (by simp [results, Tryz.results14, go_sem, r0, r1]) rfl ⟨.inl ⟨.inl HV.out, rfl⟩, (HB.out.setCell (by simp; omega) _).setCell (by simp; omega) _⟩
  · have HN := Lib.hid hN
    clear hN
    go_wp2_with fail
    refine (hasRail_any _ g p m.rail _ HN.out).mono ?_
    rintro e w2 ⟨rfl, rfl⟩
    cases hr : railIn p m.rail
    · have HR := Lib.hid hr; clear hr
      go_wp2
      exact bodyPost_ret (v := .tuple #[.agg #[.int .i64 0, .int .i64 0], .int .i64 2]) (by simp [results, Tryz.results14, go_sem, r0, r1]) rfl ⟨.inl ⟨.inr (.inl HR.out), rfl⟩, (HB.out.setCell (by simp; omega) _).setCell (by simp; omega) _⟩
    have HR := Lib.hid hr
    have hsz := HN.out.sizes
    have hr2 := of_decide_eq_true hr
    have hr0 := hr2.1
    have hr1 : m.rail ≤ 1000000 := by omega
    obtain ⟨kk, kl⟩ := key_lt hr
    have HK := Lib.hid (show endNo ⟨m.rail, m.last⟩ = ((keyE m : Nat) : Int) from kk.symm)
    clear hr hr2 kk
    go_wp2_with fail
    refine (hasRail_any _ g p n.rail _ HN.out).mono ?_
    rintro e w2 ⟨rfl, rfl⟩
    cases hr : railIn p n.rail
    · have HR := Lib.hid hr; clear hr
      go_wp2
      exact bodyPost_ret (v := .tuple #[.agg #[.int .i64 0, .int .i64 0], .int .i64 2]) (by simp [results, Tryz.results14, go_sem, r0, r1]) rfl ⟨.inl ⟨.inr (.inr HR.out), rfl⟩, (HB.out.setCell (by simp; omega) _).setCell (by simp; omega) _⟩
    have HRn := Lib.hid hr
    have hr2 := of_decide_eq_true hr
    have hn0 := hr2.1
    have hn1 : n.rail ≤ 1000000 := by omega
    obtain ⟨nk, nl⟩ := key_lt hr
    have HKn := Lib.hid (show endNo ⟨n.rail, n.last⟩ = ((keyE n : Nat) : Int) from nk.symm)
    clear hr hr2 nk
    have hbw : Below w1.heap.size w1 w1.drew := (Below.refl _ _).drew
    go_wp2
    go_region_held3 (fun w' => w'.cell? ⟨w.heap.size + 1, 0, none⟩ = some (.int .i64 m.rail) ∧ w'.cell? ⟨w.heap.size + 1, 1, none⟩ = some (.bool m.last) ∧ w'.cell? ⟨w.heap.size + 1 + 1, 0, none⟩ = some (.int .i64 n.rail) ∧ w'.cell? ⟨w.heap.size + 1 + 1, 1, none⟩ = some (.bool n.last))
      (exact ⟨(hbw.cell (p := ⟨w.heap.size + 1, 0, none⟩) (by simp; omega)).trans y0, (hbw.cell (p := ⟨w.heap.size + 1, 1, none⟩) (by simp; omega)).trans y1, (hbw.cell (p := ⟨w.heap.size + 1 + 1, 0, none⟩) (by simp; omega)).trans y2, (hbw.cell (p := ⟨w.heap.size + 1 + 1, 1, none⟩) (by simp; omega)).trans y3⟩)
      ((first
        | (go_at_call 51; refine (number_gen _ _ _ (by omega) (by omega)).mono ?_; rintro e w2 ⟨rfl, hb2⟩; replace hbw := hbw.trans (hb2.mono hbw.size); first | rw [HK.out] | rw [HKn.out])
        | (go_at_call 52; refine (follows_any _ g p (keyE m) _ _ (HN.out.below hbw) hbw.size kl).mono ?_; rintro e w3 ⟨rfl, rfl⟩)))
    all_goals
      have z0 := (hbw.cell (p := ⟨w.heap.size + 1, 0, none⟩) (by simp; omega)).trans y0
      have z1 := (hbw.cell (p := ⟨w.heap.size + 1, 1, none⟩) (by simp; omega)).trans y1
      have z2 := (hbw.cell (p := ⟨w.heap.size + 1 + 1, 0, none⟩) (by simp; omega)).trans y2
      have z3 := (hbw.cell (p := ⟨w.heap.size + 1 + 1, 1, none⟩) (by simp; omega)).trans y3
      have q0 := (hbw.cell (p := ⟨w.heap.size + 1 + 1 + 1, 0, none⟩) (by simp; omega)).trans r0
      have q1 := (hbw.cell (p := ⟨w.heap.size + 1 + 1 + 1, 1, none⟩) (by simp; omega)).trans r1
      have g0 := (hbw.frozen (p := ⟨w.heap.size + 1 + 1 + 1, 0, none⟩) (by simp; omega)).trans f0
      have g1 := (hbw.frozen (p := ⟨w.heap.size + 1 + 1 + 1, 1, none⟩) (by simp; omega)).trans f1
      have hzw := hbw.size
      have HBW := Lib.hid (HB.out.trans (hbw.mono HB.out.size))
      have HNW := Lib.hid (HN.out.below hbw)
      clear hbw y0 y1 y2 y3 r0 r1 f0 f1
      have HE := Lib.hid (show endNo n = ((keyE n : Nat) : Int) from HKn.out)
      cases hin : folB p (keyE m) ((keyE n : Nat) : Int)
      · have HI := Lib.hid (show ¬ folB p (keyE m) (endNo n) = true by rw [HE.out, hin]; simp)
        go_wp2
        exact bodyPost_ret (v := .tuple #[.agg #[.int .i64 0, .int .i64 0], .int .i64 4]) (by simp [results, Tryz.results14, go_sem, q0, q1]) rfl ⟨.inr ⟨HV.out, HR.out, HRn.out, .inl ⟨fun h => HI.out h.1, rfl⟩⟩, (HBW.out.setCell (by simp; omega) _).setCell (by simp; omega) _⟩
      · have HI := Lib.hid (show folB p (keyE m) (endNo n) = true by rw [HE.out, hin])
        have kdv : ∃ V : Array Value, ∃ b : Bool, settingV p (keyE m) (keyE n) = .tuple #[.agg V, .bool b] ∧ (b = true ↔ (atN p (flip (keyE m))).kind = 4) ∧ ∃ x y : Int, V = #[.int .i64 x, .int .i64 y] ∧ (b = true → x = nodeAtZ p (flip (keyE m) : Nat) ∧ y = setZ p (keyE m) (keyE n)) := by
          unfold settingV
          split
          · exact ⟨_, _, rfl, by simp [*], _, _, rfl, fun _ => ⟨rfl, rfl⟩⟩
          · exact ⟨_, _, rfl, by simp [*], _, _, rfl, fun h => by cases h⟩
        obtain ⟨V, bk, hsv, hbk, vx, vy, rfl, hxy⟩ := kdv
        have HSV := Lib.hid hsv; have HBK := Lib.hid hbk; have HXY := Lib.hid hxy
        clear hsv hbk hxy
        have hbw : Below w2.heap.size w2 w2.drew := (Below.refl _ _).drew
        go_wp2
        go_region_held3 (fun w' => w'.cell? ⟨w.heap.size + 1, 0, none⟩ = some (.int .i64 m.rail) ∧ w'.cell? ⟨w.heap.size + 1, 1, none⟩ = some (.bool m.last) ∧ w'.cell? ⟨w.heap.size + 1 + 1, 0, none⟩ = some (.int .i64 n.rail) ∧ w'.cell? ⟨w.heap.size + 1 + 1, 1, none⟩ = some (.bool n.last))
          (first
            | exact ⟨((hbw).cell (p := ⟨w.heap.size + 1, 0, none⟩) (by simp; omega)).trans z0, ((hbw).cell (p := ⟨w.heap.size + 1, 1, none⟩) (by simp; omega)).trans z1, ((hbw).cell (p := ⟨w.heap.size + 1 + 1, 0, none⟩) (by simp; omega)).trans z2, ((hbw).cell (p := ⟨w.heap.size + 1 + 1, 1, none⟩) (by simp; omega)).trans z3⟩
            | exact ⟨(((hbw.alloc hbw.size _)).cell (p := ⟨w.heap.size + 1, 0, none⟩) (by simp; omega)).trans z0, (((hbw.alloc hbw.size _)).cell (p := ⟨w.heap.size + 1, 1, none⟩) (by simp; omega)).trans z1, (((hbw.alloc hbw.size _)).cell (p := ⟨w.heap.size + 1 + 1, 0, none⟩) (by simp; omega)).trans z2, (((hbw.alloc hbw.size _)).cell (p := ⟨w.heap.size + 1 + 1, 1, none⟩) (by simp; omega)).trans z3⟩
            | exact ⟨((((hbw.setCell (p := ⟨_, 0, none⟩) hzK _).setCell (p := ⟨_, 1, none⟩) hzK _)).cell (p := ⟨w.heap.size + 1, 0, none⟩) (by simp; omega)).trans z0, ((((hbw.setCell (p := ⟨_, 0, none⟩) hzK _).setCell (p := ⟨_, 1, none⟩) hzK _)).cell (p := ⟨w.heap.size + 1, 1, none⟩) (by simp; omega)).trans z1, ((((hbw.setCell (p := ⟨_, 0, none⟩) hzK _).setCell (p := ⟨_, 1, none⟩) hzK _)).cell (p := ⟨w.heap.size + 1 + 1, 0, none⟩) (by simp; omega)).trans z2, ((((hbw.setCell (p := ⟨_, 0, none⟩) hzK _).setCell (p := ⟨_, 1, none⟩) hzK _)).cell (p := ⟨w.heap.size + 1 + 1, 1, none⟩) (by simp; omega)).trans z3⟩)
          ((first
            | (go_at_call 51; refine (number_gen _ _ _ (by omega) (by omega)).mono ?_; rintro e w3 ⟨rfl, hb3⟩; (try (have hnk := (hb3.block _ (Array.getElem?_eq_some_iff.1 hnk).1).trans hnk; obtain ⟨e0, e1, e2, e3⟩ := row2 hnk)); replace hbw := hbw.trans (hb3.mono hbw.size); have hzb := hbw.size; first | rw [HK.out] | rw [HKn.out])
            | (go_at_call 51; refine (number_gen _ _ _ (by omega) (by omega)).mono ?_; rintro e w3 ⟨rfl, hb3⟩; have hzK := hbw.size; have hnk := (hb3.block _ (by simp)).trans (heap_alloc_new _ _); obtain ⟨e0, e1, e2, e3⟩ := row2 hnk; replace hbw := (hbw.alloc hbw.size _).trans (hb3.mono (hbw.alloc hbw.size _).size); have hzb := hbw.size; first | rw [HK.out] | rw [HKn.out])
            | (go_at_call 53; refine (setting_any _ g p (keyE m) (keyE n) _ (HNW.out.below (hbw.mono hzw)) (by first | exact Nat.le_trans hzw hbw.size) kl nl).mono ?_; rintro e w3 ⟨rfl, hb3⟩; (try (have hnk := (hb3.block _ (Array.getElem?_eq_some_iff.1 hnk).1).trans hnk; obtain ⟨e0, e1, e2, e3⟩ := row2 hnk)); replace hbw := hbw.trans (hb3.mono hbw.size); have hzb := hbw.size; rw [HSV.out])
            | (go_at_call 53; refine (setting_any _ g p (keyE m) (keyE n) _ (HNW.out.below ((hbw.alloc hbw.size _).mono hzw)) (by first | exact Nat.le_trans hzw (hbw.alloc hbw.size _).size) kl nl).mono ?_; rintro e w3 ⟨rfl, hb3⟩; have hzK := hbw.size; have hnk := (hb3.block _ (by simp)).trans (heap_alloc_new _ _); obtain ⟨e0, e1, e2, e3⟩ := row2 hnk; replace hbw := (hbw.alloc hbw.size _).trans (hb3.mono (hbw.alloc hbw.size _).size); have hzb := hbw.size; rw [HSV.out])))
        all_goals
          have v0 := (hbw.cell (p := ⟨w.heap.size + 1 + 1 + 1, 0, none⟩) (by simp; omega)).trans q0
          have v1 := (hbw.cell (p := ⟨w.heap.size + 1 + 1 + 1, 1, none⟩) (by simp; omega)).trans q1
          have h0 := (hbw.frozen (p := ⟨w.heap.size + 1 + 1 + 1, 0, none⟩) (by simp; omega)).trans g0
          have h1 := (hbw.frozen (p := ⟨w.heap.size + 1 + 1 + 1, 1, none⟩) (by simp; omega)).trans g1
          have hlt : w.heap.size + 1 + 1 + 1 < w3.heap.size := by omega
          have HBF := Lib.hid (HBW.out.trans (hbw.mono HBW.out.size))
          have HbK := Lib.hid hbw
          clear hbw z0 z1 z2 z3 q0 q1 g0 g1
          have hKn : ∀ K, w2.heap.size ≤ K → ¬ w.heap.size + 1 + 1 + 1 = K := fun K hK => by omega
          cases bk
          · have HN4 := Lib.hid (show ¬ (folB p (keyE m) (endNo n) = true ∧ (atN p (flip (keyE m))).kind = 4) from fun h => by have := HBK.out.2 h.2; cases this)
            go_wp2
            refine bodyPost_ret (v := .tuple #[.agg #[.int .i64 0, .int .i64 0], .int .i64 4]) (by simp [results, Tryz.results14, go_sem, v0, v1, cell_alloc_lt, hlt]) rfl ⟨.inr ⟨HV.out, HR.out, HRn.out, .inl ⟨HN4.out, rfl⟩⟩, ?_⟩
            (first
              | exact ((HBF.out.setCell (by simp; omega) _).setCell (by simp; omega) _).alloc (by simp; omega) _
              | exact (((HBF.out.setCell (by simp; omega) _).setCell (by simp; omega) _).setCell (by simp; omega) _).setCell (by simp; omega) _)
          · have HN4 := Lib.hid (show folB p (keyE m) (endNo n) = true ∧ (atN p (flip (keyE m))).kind = 4 from ⟨HI.out, HBK.out.1 rfl⟩)
            have HX1 := Lib.hid (HXY.out rfl).1; have HX2 := Lib.hid (HXY.out rfl).2
            go_wp2
            refine bodyPost_ret (v := .tuple #[.agg #[.int .i64 vx, .int .i64 vy], .int .i64 0]) (by simp [results, Tryz.results14, go_sem, v0, v1, cell_alloc_lt, hlt]) rfl ⟨.inr ⟨HV.out, HR.out, HRn.out, .inr ⟨HN4.out.1, HN4.out.2, by rw [HX1.out, HX2.out]⟩⟩, ?_⟩
            (first
              | exact ((HBF.out.setCell (by simp; omega) _).setCell (by simp; omega) _).alloc (by simp; omega) _
              | exact (((HBF.out.setCell (by simp; omega) _).setCell (by simp; omega) _).setCell (by simp; omega) _).setCell (by simp; omega) _)
end Go.Proofs.YtcpanfpijljeaaaGreat
