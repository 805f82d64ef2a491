/- Contracts: nodeAt, endsRight. -/
import Derived.Test.YtekambdnmaompaaGreatBlk
import Derived.Test.YtekambdnmaompaaGreatJC
import Derived.Test.YtekambdnmaompaaGreatJB
namespace Go.Proofs.YtekambdnmaompaaGreat
set_option linter.unusedVariables false
set_option linter.unusedSimpArgs false
open Go.RowKit

set_option maxHeartbeats 1000000 in
theorem nodeAt_any (g : Nat) (A A2 : Option Addr) (c c2 : Nat) (p : Pl) (Lv Sv Nv Bv : Value) (x : Nat) (w : World) (hN : Net w g A c A2 c2 p Lv Sv Nv Bv) (hx : x < 2 * p.rails.length) :
    Calls Tryz.prog 107 #[.pointer (some ⟨g, 0, none⟩), .int .i64 (x : Int)] w fun e w' => e = .returned (.int .i64 (nodeAtZ p (x : Int))) ∧ w = w' := by
  obtain ⟨c0, c1, _, _, _, _⟩ := hN.cell
  have hrc := hN.pl.rc; have hrm := hN.pl.rm
  have hk : x / 2 < p.rails.length := by omega
  obtain ⟨b, off, A', c', rfl, hb, hE, hc1, hc2, k0, k1, k2, k3, k4⟩ := hN.pl.rail hk
  have hq : ((x : Int) / 2).toNat = x / 2 := by omega
  by_cases h : x % 2 = 1
  · have HE := Lib.hid (show nodeAtZ p (x : Int) = p.rails[x / 2].to by unfold nodeAtZ; rw [if_pos (by omega), hq]; simp [hk])
    have h' : ((x : Int) % 2 == 1) = true := by simp; omega
    clear hN hE
    go_enter Tryz.func107, Tryz.ntmps107
    go_wp2
    go_ret
    exact ⟨by rw [HE.out]; rfl, rfl⟩
  · have HE := Lib.hid (show nodeAtZ p (x : Int) = p.rails[x / 2].frm by unfold nodeAtZ; rw [if_neg (by omega), hq]; simp [hk])
    have h' : ((x : Int) % 2 == 1) = false := by simp; omega
    clear hN hE
    go_enter Tryz.func107, Tryz.ntmps107
    go_wp2
    go_ret
    exact ⟨by rw [HE.out]; rfl, rfl⟩

/-- the slots while they are made -1 -/
def negTo (m2 k : Nat) : List Int := List.replicate k (-1) ++ List.replicate (m2 - k) 0
theorem negTo_len {m2 k : Nat} (h : k ≤ m2) : (negTo m2 k).length = m2 := by simp [negTo]; omega
theorem negTo_zero (m2 : Nat) : negTo m2 0 = List.replicate m2 0 := by simp [negTo]
theorem negTo_all (m2 : Nat) : negTo m2 m2 = fillS m2 [] := by simp [negTo, fillS]
theorem negTo_succ {m2 k : Nat} (h : k < m2) : (negTo m2 k).set k (-1) = negTo m2 (k + 1) := by
  apply List.ext_getElem?
  intro i
  simp only [negTo]
  rw [List.getElem?_set]
  by_cases hik : i = k
  · subst hik
    rw [if_pos rfl, if_pos (by simp; omega), List.getElem?_append_left (by simp)]
    simp
  · rw [if_neg (fun e => hik e.symm)]
    by_cases hlt : i < k
    · rw [List.getElem?_append_left (by simp; omega), List.getElem?_append_left (by simp; omega)]
      simp [List.getElem?_replicate, hlt, show i < k + 1 by omega]
    · rw [List.getElem?_append_right (by simp; omega), List.getElem?_append_right (by simp; omega)]
      simp only [List.length_replicate, List.getElem?_replicate]
      congr 1
      apply propext
      omega

structure EndsPost (g : Nat) (A : Option Addr) (c : Nat) (A2 : Option Addr) (c2 : Nat) (p : Pl) (Lv Nv Bv : Value) (w : World) (e : Ending) (w' : World) : Prop where
  res : ∃ r, e = .returned (.bool r) ∧ (r = true ↔ okEnds p) ∧ ∃ b, w.heap.size ≤ b ∧ Net w' g A c A2 c2 p Lv (.slice (some ⟨b, 0, none⟩) (2 * p.rails.length) (2 * p.rails.length)) Nv Bv ∧ (r = true → IRow w' b (slotsOf p))
  gr : Gr g w w'
structure NegRel (g : Nat) (A : Option Addr) (c : Nat) (A2 : Option Addr) (c2 : Nat) (p : Pl) (Lv Nv Bv : Value) (w : World) (k : Nat) (wr : World) : Prop where
  le : k ≤ 2 * p.rails.length
  gr : Gr g w wr
  net : Net wr g A c A2 c2 p Lv (.slice (some ⟨w.heap.size, 0, none⟩) (2 * p.rails.length) (2 * p.rails.length)) Nv Bv
  row : IRow wr w.heap.size (negTo (2 * p.rails.length) k)
structure ERel (g : Nat) (A : Option Addr) (c : Nat) (A2 : Option Addr) (c2 : Nat) (p : Pl) (Lv Nv Bv : Value) (w : World) (i k : Nat) (wr : World) : Prop where
  ok : OkTo p i k
  gr : Gr g w wr
  net : Net wr g A c A2 c2 p Lv (.slice (some ⟨w.heap.size, 0, none⟩) (2 * p.rails.length) (2 * p.rails.length)) Nv Bv
  row : IRow wr w.heap.size (fillS (2 * p.rails.length) (befQ p i k))

set_option maxRecDepth 100000 in
set_option maxHeartbeats 8000000 in
theorem endsRight_any (g : Nat) (A A2 : Option Addr) (c c2 : Nat) (p : Pl) (Lv Sv Nv Bv : Value) (w : World) (hN : Net w g A c A2 c2 p Lv Sv Nv Bv)
    (h4 : ∀ j (hj : j < p.nodes.length), p.nodes[j].ends.length ≤ 4) (hm400 : p.rails.length ≤ 400) (hn300 : p.nodes.length ≤ 300) :
    Calls Tryz.prog 84 #[.pointer (some ⟨g, 0, none⟩)] w (EndsPost g A c A2 c2 p Lv Nv Bv w) := by
  obtain ⟨i0, hi, hz0, hz1, hz2⟩ := info_parts info3
  obtain ⟨c0, c1, _, _, _, _⟩ := hN.cell
  have hrc := hN.pl.rc; have hrm := hN.pl.rm
  have hgl := hN.lt
  have f3 := hN.frozen 3
  have hmk := fun W : World => run_mk (P := Tryz.prog) 115 3 i0 _ 1 Tryz.underlying115 hi hz0 hz1 (2 * (p.rails.length : Int)) (2 * (p.rails.length : Int)) (2 * p.rails.length) (2 * p.rails.length) (by simp) (by simp) (by omega) (by rw [hz2]; omega) (by omega) W
  have hNn := (hN.set3 (.slice (some ⟨w.heap.size, 0, none⟩) (2 * p.rails.length) (2 * p.rails.length))).alloc (.cells (madeCells #[.int .i64 0] (2 * p.rails.length)) 3)
  have hR0 : IRow ((w.setCell ⟨g, 3, none⟩ (.slice (some ⟨w.heap.size, 0, none⟩) (2 * p.rails.length) (2 * p.rails.length))).alloc (.cells (madeCells #[.int .i64 0] (2 * p.rails.length)) 3)) w.heap.size (negTo (2 * p.rails.length) 0) := by
    rw [negTo_zero]
    have := IRow.made (w.setCell ⟨g, 3, none⟩ (.slice (some ⟨w.heap.size, 0, none⟩) (2 * p.rails.length) (2 * p.rails.length))) (2 * p.rails.length)
    simpa using this
  have hG0 : Gr g w ((w.setCell ⟨g, 3, none⟩ (.slice (some ⟨w.heap.size, 0, none⟩) (2 * p.rails.length) (2 * p.rails.length))).alloc (.cells (madeCells #[.int .i64 0] (2 * p.rails.length)) 3)) :=
    ((Gr.refl g w).set (p := ⟨g, 3, none⟩) _ (.inl rfl)).alloc _
  have HN := Lib.hid hNn; have HR := Lib.hid hR0; have HG := Lib.hid hG0; clear hNn hR0 hG0 hN
  go_enter Tryz.func84, Tryz.ntmps84
  go_wp2
  clear hmk
  go_loopw [26] (fun i wr => ∃ k : Nat, i = .int .i64 (k : Int) ∧ NegRel g A c A2 c2 p Lv Nv Bv w k wr) (fun i _ => 2 * p.rails.length - (intOf i).toNat)
  case atStart => exact ⟨0, rfl, by omega, HG.out, HN.out, HR.out⟩
  case round =>
    obtain ⟨k, rfl, hrel⟩ := hrel
    obtain ⟨hk, hg, hnet, hrow⟩ := hrel
    clear HN HR HG c0 c1 f3
    obtain ⟨c0, c1, c2', c3', _, _⟩ := hnet.cell
    by_cases hlt : k < 2 * p.rails.length
    · have y3 := hrow.frozen k
      have y4 := hrow.cell (i := k) (by rw [negTo_len (by omega)]; exact hlt)
      have hlt' : (k : Int) < 2 * (p.rails.length : Int) := by omega
      go_wp2
      go_roundw
      case rel =>
        refine ⟨k + 1, by go_num, by omega, hg.set (p := ⟨w.heap.size, k, none⟩) _ (.inr (Nat.le_refl _)), hnet.other (q := ⟨w.heap.size, k, none⟩) _ (by simp; omega), ?_⟩
        rw [← negTo_succ hlt]
        exact hrow.set k _
      case measure => simp [intOf]; omega
    · have hke : k = 2 * p.rails.length := by omega
      have HP : ERel g A c A2 c2 p Lv Nv Bv w 0 0 wr := ⟨OkTo.start p, hg, hnet, by rw [befQ_zero, ← negTo_all]; rw [hke] at hrow; exact hrow⟩
      have HQ := Lib.hid HP; clear HP hg hnet hrow hke
      go_wp2
      go_loopw [4, 42] (fun f i wr => ∃ k : Nat, k ≤ p.nodes.length ∧ i = .int .i64 (k : Int) ∧ f = .int .i64 ((befE p k 0).length : Nat) ∧ ERel g A c A2 c2 p Lv Nv Bv w k 0 wr) (fun _ i _ => p.nodes.length - (intOf i).toNat)
      case atStart => exact ⟨0, by omega, rfl, by rw [befE_zero]; rfl, HQ.out⟩
      case round =>
        obtain ⟨i, hi, rfl, rfl, hrel⟩ := hrel
        obtain ⟨wo, rfl⟩ : ∃ wo : World, wo = wr := ⟨_, rfl⟩
        clear HQ c0 c1 c2' c3'
        obtain ⟨hok, hg, hnet, hrow⟩ := hrel
        by_cases hlt : i < p.nodes.length
        · obtain ⟨b, off, A', c', hA, hb, hE, hc1, hc2, k0, k1, k2, k3, k4⟩ := hnet.pl.node hlt
          subst hA
          have hgr := hnet.lt
          have hsz := hg.size
          have hbb : b < wo.heap.size := by omega
          have e4 := h4 i hlt
          have HREL := Lib.hid (show ERel g (some ⟨b, off, none⟩) c A2 c2 p Lv Nv Bv w i 0 (wo.alloc (.cells #[.int .i64 p.nodes[i].spot.x, .int .i64 p.nodes[i].spot.y, .int .i64 p.nodes[i].kind, .slice A' p.nodes[i].ends.length c', .int .i64 p.nodes[i].normal] 87)) from
            ⟨hok, hg.alloc _, hnet.alloc _, hrow.alloc _⟩)
          have HE := Lib.hid hE
          clear hok hg hnet hrow hE
          go_wp2
          go_loopw [4, 50] (fun f i' wr' => ∃ k : Nat, k ≤ p.nodes[i].ends.length ∧ i' = .int .i64 (k : Int) ∧ f = .int .i64 ((befE p i k).length : Nat) ∧ ERel g (some ⟨b, off, none⟩) c A2 c2 p Lv Nv Bv w i k wr' ∧ Sl wr' g 2 CE A' p.nodes[i].ends) (fun _ i' _ => p.nodes[i].ends.length - (intOf i').toNat)
          case atStart => exact ⟨0, by omega, rfl, rfl, HREL.out, HE.out.keep (fun _ _ h => h) fun q hq => ((Below.refl g wo).alloc (by omega) _).cell hq⟩
          case round =>
            obtain ⟨k, hk, rfl, rfl, hrel, hE⟩ := hrel
            clear HREL HE k0 k1 k2 k3 k4
            obtain ⟨hok, hg, hnet, hrow⟩ := hrel
            obtain ⟨c0, c1, _, c3', _, _⟩ := hnet.cell
            have hle := befE_le h4 i k
            by_cases hlk : k < p.nodes[i].ends.length
            · obtain ⟨b3, off3, hA', hb3, m0, m1⟩ := end_at hE hlk
              subst hA'
              have hgr' := hnet.lt
              have hbb3 : b3 < wr.heap.size := by omega
              have hGF := hg.alloc (.cells #[.int .i64 p.nodes[i].ends[k].rail, .bool p.nodes[i].ends[k].last] 107)
              have hNF := hnet.alloc (.cells #[.int .i64 p.nodes[i].ends[k].rail, .bool p.nodes[i].ends[k].last] 107)
              have hRF := hrow.alloc (.cells #[.int .i64 p.nodes[i].ends[k].rail, .bool p.nodes[i].ends[k].last] 107)
              have hEF : Sl (wr.alloc (.cells #[.int .i64 p.nodes[i].ends[k].rail, .bool p.nodes[i].ends[k].last] 107)) g 2 CE (some ⟨b3, off3, none⟩) p.nodes[i].ends := hE.keep (fun _ _ h => h) fun q hq => ((Below.refl g wr).alloc (by omega) _).cell hq
              have hwr := hrow.lt
              clear hg hnet hrow hE
              have HG := Lib.hid hGF; have HN := Lib.hid hNF; have HR := Lib.hid hRF; have HE := Lib.hid hEF; have HO := Lib.hid hok
              clear hGF hNF hRF hEF hok
              by_cases r0 : p.nodes[i].ends[k].rail < 0
              · have HB := Lib.hid (not_ok_bad hlt hlk (fun h => by have := h.1; omega))
                have d0 : decide (p.nodes[i].ends[k].rail < 0) = true := by simpa using r0
                clear r0
                go_wp2
                go_quiet (fail)
                go_wp2
                go_ret
                exact ⟨⟨false, rfl, ⟨(fun h => by cases h), fun h => absurd h HB.out⟩, w.heap.size, Nat.le_refl _, HN.out.drewN _, (fun h => by cases h)⟩, HG.out.drewN _⟩
              have d0 : decide (p.nodes[i].ends[k].rail < 0) = false := by simpa using r0
              by_cases r1 : (p.rails.length : Int) ≤ p.nodes[i].ends[k].rail
              · have HB := Lib.hid (not_ok_bad hlt hlk (fun h => by have := h.2.1; omega))
                have d1 : decide ((p.rails.length : Int) ≤ p.nodes[i].ends[k].rail) = true := by simpa using r1
                clear r0 r1
                go_wp2
                go_quiet (fail)
                go_wp2
                go_ret
                exact ⟨⟨false, rfl, ⟨(fun h => by cases h), fun h => absurd h HB.out⟩, w.heap.size, Nat.le_refl _, HN.out.drewN _, (fun h => by cases h)⟩, HG.out.drewN _⟩
              have d1 : decide ((p.rails.length : Int) ≤ p.nodes[i].ends[k].rail) = false := by simpa using r1
              have g0 : 0 ≤ p.nodes[i].ends[k].rail := by omega
              have g1 : p.nodes[i].ends[k].rail < p.rails.length := by omega
              have hbd : 0 ≤ endNo p.nodes[i].ends[k] ∧ endNo p.nodes[i].ends[k] < 2 * (p.rails.length : Int) := by unfold endNo; split <;> omega
              obtain ⟨x, hx⟩ := Int.eq_ofNat_of_zero_le hbd.1
              have hxl : x < 2 * p.rails.length := by omega
              have HX := Lib.hid hx
              have HZ := Lib.hid (show nodeAtZ p (x : Int) = atZ p p.nodes[i].ends[k] by rw [← hx]; exact nodeAtZ_end p _ g0)
              have hsgn := slot_sign HO.out g0 (2 * p.rails.length) (by rw [fillS_len, hx]; simpa using hxl)
              have hfl : x < (fillS (2 * p.rails.length) (befQ p i k)).length := by rw [fillS_len]; exact hxl
              have hsg : 0 ≤ (fillS (2 * p.rails.length) (befQ p i k))[x] ↔ p.nodes[i].ends[k] ∈ befE p i k := by
                rw [← hsgn]; simp [hx]
              obtain ⟨v, hv⟩ : ∃ v, (fillS (2 * p.rails.length) (befQ p i k))[x] = v := ⟨_, rfl⟩
              rw [hv] at hsg
              have HV := Lib.hid hv; have HS := Lib.hid hsg
              clear r0 r1 hbd hx hsgn hsg hv
              have hx0 : (0 : Int) ≤ (x : Int) := by omega
              have hx1 : (x : Int) < 2 * (p.rails.length : Int) := by omega
              by_cases ha : atZ p p.nodes[i].ends[k] = (i : Int)
              · have ha1 : (atZ p p.nodes[i].ends[k] != (i : Int)) = false := by simp [ha]
                have ha2 : (!(atZ p p.nodes[i].ends[k] == (i : Int))) = false := by simp [ha]
                have HA := Lib.hid ha; clear ha
                by_cases hv0 : 0 ≤ v
                · have HB := Lib.hid (not_ok_twice hlt hlk (HS.out.1 hv0))
                  have hv1 : decide (0 ≤ v) = true := by simpa using hv0
                  clear hv0
                  go_wp2
                  go_quiet (fail)
                  go_wp2_with fail
                  refine (endNumber_any p.nodes[i].ends[k] _ g0 (by omega)).mono ?_
                  rintro e w2 ⟨rfl, hb2⟩
                  rw [HX.out]
                  have hbx : Below (wr.heap.size + 1) (wr.alloc (.cells #[.int .i64 p.nodes[i].ends[k].rail, .bool p.nodes[i].ends[k].last] 107)) w2 :=
                    (bDrewN (Below.refl _ _) nq).trans (hb2.mono (by show _ ≤ (wr.alloc _).heap.size; simp))
                  have hn2 := HN.out.below hbx (by omega)
                  have hr2 := HR.out.below hbx (by omega)
                  have hg2 := HG.out.below hbx (by omega)
                  obtain ⟨z0, z1, _, z3, _, _⟩ := hn2.cell
                  have z5 := (hr2.cell hfl).trans (by rw [HV.out])
                  have z6 := hr2.frozen x
                  have HN2 := Lib.hid hn2; have HR2 := Lib.hid hr2; have HG2 := Lib.hid hg2
                  clear hn2 hr2 hg2 hb2 hbx
                  go_wp2_with fail
                  refine (nodeAt_any g _ A2 c c2 p Lv _ Nv Bv x _ HN2.out hxl).mono ?_
                  rintro e w3 ⟨rfl, rfl⟩
                  rw [HZ.out]
                  go_wp2
                  go_ret
                  exact ⟨⟨false, rfl, ⟨(fun h => by cases h), fun h => absurd h HB.out⟩, w.heap.size, Nat.le_refl _, HN2.out, (fun h => by cases h)⟩, HG2.out⟩
                · have HB := Lib.hid (HO.out.step hlt hlk ⟨g0, g1, HA.out⟩ (fun h => hv0 (HS.out.2 h)))
                  have hv1 : decide (0 ≤ v) = false := by simpa using hv0
                  clear hv0
                  go_wp2
                  go_quiet (fail)
                  go_wp2_with fail
                  refine (endNumber_any p.nodes[i].ends[k] _ g0 (by omega)).mono ?_
                  rintro e w2 ⟨rfl, hb2⟩
                  rw [HX.out]
                  have hbx : Below (wr.heap.size + 1) (wr.alloc (.cells #[.int .i64 p.nodes[i].ends[k].rail, .bool p.nodes[i].ends[k].last] 107)) w2 :=
                    (bDrewN (Below.refl _ _) nq).trans (hb2.mono (by show _ ≤ (wr.alloc _).heap.size; simp))
                  have hn2 := HN.out.below hbx (by omega)
                  have hr2 := HR.out.below hbx (by omega)
                  have hg2 := HG.out.below hbx (by omega)
                  have he2 : Sl w2 g 2 CE (some ⟨b3, off3, none⟩) p.nodes[i].ends := HE.out.below (hbx.mono (by omega))
                  obtain ⟨z0, z1, _, z3, _, _⟩ := hn2.cell
                  have z5 := (hr2.cell hfl).trans (by rw [HV.out])
                  have z6 := hr2.frozen x
                  have HN2 := Lib.hid hn2; have HR2 := Lib.hid hr2; have HG2 := Lib.hid hg2; have HE2 := Lib.hid he2
                  clear hn2 hr2 hg2 hb2 hbx he2
                  go_wp2_with fail
                  refine (nodeAt_any g _ A2 c c2 p Lv _ Nv Bv x _ HN2.out hxl).mono ?_
                  rintro e w3 ⟨rfl, rfl⟩
                  rw [HZ.out]
                  go_wp2
                  go_roundw
                  case rel =>
                    refine ⟨k + 1, by omega, by go_num, by rw [befE_succ hlt hlk]; simp, ⟨HB.out, HG2.out.set (p := ⟨w.heap.size, x, none⟩) _ (.inr (Nat.le_refl _)), HN2.out.other (q := ⟨w.heap.size, x, none⟩) _ (by simp; omega), ?_⟩, HE2.out.below ((Below.refl g _).setCell (p := ⟨w.heap.size, x, none⟩) (by simp; omega) _)⟩
                    rw [befQ_succ hlt hlk, fillS_snoc]
                    simp only [HX.out]
                    exact HR2.out.set x _
                  case measure => simp [intOf]; omega
              · have HB := Lib.hid (not_ok_bad hlt hlk (fun h => ha h.2.2))
                have ha1 : (atZ p p.nodes[i].ends[k] != (i : Int)) = true := by simp [ha]
                have ha2 : (!(atZ p p.nodes[i].ends[k] == (i : Int))) = true := by simp [ha]
                clear ha
                go_wp2
                go_quiet (fail)
                go_wp2_with fail
                refine (endNumber_any p.nodes[i].ends[k] _ g0 (by omega)).mono ?_
                rintro e w2 ⟨rfl, hb2⟩
                rw [HX.out]
                have hbx : Below (wr.heap.size + 1) (wr.alloc (.cells #[.int .i64 p.nodes[i].ends[k].rail, .bool p.nodes[i].ends[k].last] 107)) w2 :=
                  (bDrewN (Below.refl _ _) nq).trans (hb2.mono (by show _ ≤ (wr.alloc _).heap.size; simp))
                have hn2 := HN.out.below hbx (by omega)
                have hr2 := HR.out.below hbx (by omega)
                have hg2 := HG.out.below hbx (by omega)
                have he2 : Sl w2 g 2 CE (some ⟨b3, off3, none⟩) p.nodes[i].ends := HE.out.below (hbx.mono (by omega))
                obtain ⟨z0, z1, _, z3, _, _⟩ := hn2.cell
                have z5 := (hr2.cell hfl).trans (by rw [HV.out])
                have z6 := hr2.frozen x
                have HN2 := Lib.hid hn2; have HR2 := Lib.hid hr2; have HG2 := Lib.hid hg2; have HE2 := Lib.hid he2
                clear hn2 hr2 hg2 hb2 hbx he2
                go_wp2_with fail
                refine (nodeAt_any g _ A2 c c2 p Lv _ Nv Bv x _ HN2.out hxl).mono ?_
                rintro e w3 ⟨rfl, rfl⟩
                rw [HZ.out]
                go_wp2
                go_ret
                exact ⟨⟨false, rfl, ⟨(fun h => by cases h), fun h => absurd h HB.out⟩, w.heap.size, Nat.le_refl _, HN2.out, (fun h => by cases h)⟩, HG2.out⟩
            · obtain rfl : k = p.nodes[i].ends.length := by omega
              have HB := Lib.hid (hok.next hlt)
              have HR := Lib.hid (show IRow wr w.heap.size (fillS (2 * p.rails.length) (befQ p (i + 1) 0)) by rw [← befQ_next hlt]; exact hrow)
              have HL := Lib.hid (befE_next (p := p) hlt)
              clear hok hrow
              go_wp2
              go_roundw
              case rel => exact ⟨i + 1, by omega, by go_num, by rw [HL.out], HB.out, hg, hnet, HR.out⟩
              case measure => simp [intOf]; omega
        · obtain rfl : i = p.nodes.length := by omega
          have HO := Lib.hid (ok_all hok)
          have HR := Lib.hid (show IRow wo w.heap.size (slotsOf p) by unfold slotsOf; rw [← befQ_all]; exact hrow)
          have hle := befE_le h4 p.nodes.length 0
          obtain ⟨c0, c1, _, c3', _, _⟩ := hnet.cell
          clear hok hrow
          by_cases hq : (befE p p.nodes.length 0).length = 2 * p.rails.length
          · have hq1 : (((befE p p.nodes.length 0).length : Int) == ((2 * p.rails.length : Nat) : Int)) = true := by simp [hq]
            have hq2 : (((befE p p.nodes.length 0).length : Int) == 2 * (p.rails.length : Int)) = true := by simp; omega
            have HQ := Lib.hid hq; clear hq
            go_wp2
            go_ret
            exact ⟨⟨true, rfl, ⟨fun _ => HO.out.2 HQ.out, fun _ => rfl⟩, w.heap.size, Nat.le_refl _, hnet, fun _ => HR.out⟩, hg⟩
          · have hq1 : (((befE p p.nodes.length 0).length : Int) == ((2 * p.rails.length : Nat) : Int)) = false := by simp; omega
            have hq2 : (((befE p p.nodes.length 0).length : Int) == 2 * (p.rails.length : Int)) = false := by simp; omega
            have HQ := Lib.hid hq; clear hq
            go_wp2
            go_ret
            exact ⟨⟨false, rfl, ⟨(fun h => by cases h), fun h => absurd (HO.out.1 h) HQ.out⟩, w.heap.size, Nat.le_refl _, hnet, (fun h => by cases h)⟩, hg⟩
end Go.Proofs.YtekambdnmaompaaGreat
