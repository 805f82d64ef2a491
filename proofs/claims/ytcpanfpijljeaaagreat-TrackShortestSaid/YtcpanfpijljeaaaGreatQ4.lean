/- Contract: an item is put into a pile. -/
import Derived.Test.YtcpanfpijljeaaaGreatQ2
import Derived.Test.YtcpanfpijljeaaaGreatQ5
import Derived.Deep.RegionLaw
import Derived.Deep.AppendLies
import Derived.Deep.LoopGhost
namespace Go.Proofs.YtcpanfpijljeaaaGreat
set_option linter.unusedVariables false
set_option linter.unusedSimpArgs false
open Go.RowKit

theorem inf118 : (Tryz.prog.info? 136).map (fun i => (i.zero, i.size, i.bytes)) = some (some (.agg #[.int .i64 0, .int .i64 0, .int .i64 0]), 3, 24) := by kernel_rfl
def PutPost (w : World) (base pb : Nat) (F : Value) (l : List V3) (g0 : Nat) (e : Ending) (w' : World) : Prop :=
  e = .returned (.tuple #[]) ∧ (∃ g c, Pile w' base pb F l g c ∧ (g = g0 ∨ w.heap.size ≤ g)) ∧ Fp pb g0 w w'
def UpRel (w : World) (base pb : Nat) (l : List V3) (g0 n : Nat) (wr : World) : Prop :=
  ∃ cur g c, n < cur.length ∧ cur.length ≤ 2000000 ∧ upL cur n = l ∧ Pile wr base pb vless cur g c ∧ (g = g0 ∨ w.heap.size ≤ g) ∧ Fp pb g0 w wr
set_option maxRecDepth 100000 in
set_option maxHeartbeats 4000000 in
theorem put_any {w : World} {base pb : Nat} {l : List V3} {g c : Nat} (h : Pile w base pb vless l g c) (hbase : base ≤ w.heap.size) (hl : l.length ≤ 1500000) (x : V3) :
    Calls Tryz.prog 156 #[.pointer (some ⟨pb, 0, none⟩), .agg #[.int .i64 x.l, .int .i64 x.m, .int .i64 x.v]] w (PutPost w base pb vless (putL l x) g) := by
  obtain ⟨p0, p1, pf⟩ := h.head
  obtain ⟨i0, hi, hz0, hz1, hz2⟩ := info_parts inf118
  have hpl := h.plt; have hgl := h.glt
  have hp1 : pb < w.heap.size + 1 := by omega
  have hp2 : pb < w.heap.size + 1 + 1 := by omega
  have hcm := h.cm; have hlc := h.lc
  have hne := h.ne
  have hbb := h.pl
  unfold maxLen at hcm
  have hnew := heap_alloc_new (w.alloc (.cells #[.int .i64 x.l, .int .i64 x.m, .int .i64 x.v] 136)) (.cells #[.int .i64 x.l, .int .i64 x.m, .int .i64 x.v] 136)
  rw [show (w.alloc (.cells #[.int .i64 x.l, .int .i64 x.m, .int .i64 x.v] 136)).heap.size = w.heap.size + 1 by simp] at hnew
  have HN := Lib.hid hnew
  have H := Lib.hid ((h.alloc (.cells #[.int .i64 x.l, .int .i64 x.m, .int .i64 x.v] 136)).alloc (.cells #[.int .i64 x.l, .int .i64 x.m, .int .i64 x.v] 136))
  have HB := Lib.hid (((Fp.refl pb g w).alloc (.cells #[.int .i64 x.l, .int .i64 x.m, .int .i64 x.v] 136)).alloc (.cells #[.int .i64 x.l, .int .i64 x.m, .int .i64 x.v] 136))
  clear h hnew
  go_enter Tryz.func156, Tryz.ntmps156
  go_wp2_with fail
  have hgb := H.out.gl
  go_region_law (
    refine step_append_lies _ rfl (.tmp 9) (.tmp 11) _ rfl base 136 i0 _ 3 24 Tryz.underlying137 hi hz0 hz1 hz2 rfl (by omega) _ l.length (l.flatMap fV) rfl H.out.own ⟨w.heap.size + 1, 0, none⟩ 1 1 (fV x) rfl rfl (World.news_of_block HN.out) (fV_one x) (by omega) (by unfold maxLen; omega) (by omega) (by simp; omega) _ rfl ?_
    intro g2 c2 w2 ho hgr hat hlt
    have hc0 : w2.cell? ⟨pb, 0, none⟩ = some (.slice (some ⟨g, 0, none⟩) l.length c) := (hgr.cell_far ⟨pb, 0, none⟩ (by simp; omega) (by intro e; exact hne (Option.some.inj e))).trans H.out.head.1
    have hf0 : w2.frozen? ⟨pb, 0, none⟩ = false := (hgr.frozen_far ⟨pb, 0, none⟩ (by simp; omega) (by intro e; exact hne (Option.some.inj e))).trans H.out.head.2.2
    have hgp : pb ≠ g2 := by
      rcases hat with e | e
      · exact fun q => hne (q.trans (Option.some.inj (show some g = some g2 from e)).symm)
      · simp at e; omega
    have HP := Lib.hid (H.out.grown x ho (hgr.block pb (by simp; omega) (by intro e; exact hne (Option.some.inj e))) hgp)
    have HB2 := Lib.hid (((HB.out.drew).grown hgr (by intro k e; exact .inl (Option.some.inj (show some g = some k from e)).symm)).set (p := ⟨pb, 0, none⟩) (.slice (some ⟨g2, 0, none⟩) (l.length + 1) c2) (.inl rfl))
    have HG2 := Lib.hid (show g2 = g ∨ w.heap.size ≤ g2 by
      rcases hat with e | e
      · exact .inl (Option.some.inj (show some g = some g2 from e)).symm
      · right; simp at e; omega)
    clear ho hgr hat hlt)
  all_goals
    obtain ⟨w3, hw3⟩ : ∃ w3, w2.setCell ⟨pb, 0, none⟩ (.slice (some ⟨g2, 0, none⟩) (l.length + 1) c2) = w3 := ⟨_, rfl⟩
    rw [hw3] at HP HB2 ⊢
    obtain ⟨k0, _, _⟩ := HP.out.head
    rw [show (l ++ [x]).length = l.length + 1 by simp] at k0
    clear hw3 hc0 hf0 p0 p1 pf
    have hw1 : IntKind.i64.wrap ((l.length : Int) + 1 - 1) = (l.length : Int) := by rw [IntKind.wrap_i64]; omega
    have hw2 : IntKind.i64.wrap (l.length : Int) = (l.length : Int) := by rw [IntKind.wrap_i64]; omega
    go_wp2
    clear hw1 hw2
    go_loopw [4] (fun i wr => ∃ n : Nat, i = .int .i64 (n : Int) ∧ UpRel w base pb (putL l x) g n wr) (fun i _ => (intOf i).toNat)
    case atStart => exact ⟨l.length, rfl, l ++ [x], g2, c2, by simp, by simp; omega, rfl, HP.out, HG2.out, HB2.out⟩
    case round =>
      obtain ⟨n, rfl, cur, g3, c3, hn, hcl, hup, hp, hg3, hb⟩ := hrel
      have HUP := Lib.hid hup
      have HPR := Lib.hid hp
      have HBR := Lib.hid hb
      clear hup hp hb
      rcases Nat.eq_zero_or_pos n with rfl | hpos
      · have HQ := Lib.hid (show cur = putL l x by have := HUP.out; rwa [upL_end (.inl rfl)] at this)
        go_wp2
        go_end0
        exact ⟨rfl, ⟨g3, c3, by rw [← HQ.out]; exact HPR.out, hg3⟩, HBR.out⟩
      · obtain ⟨q, hq⟩ : ∃ q, (n - 1) / 2 = q := ⟨_, rfl⟩
        have hqn : q < n := by omega
        have hql : q < cur.length := by omega
        have e2 : ((n : Int) - 1) / 2 = (q : Int) := by omega
        have e3 : (0 : Int) ≤ (n : Int) - 1 := by omega
        have e4 : (1 : Int) ≤ (n : Int) := by omega
        have e5 : (0 : Int) < (n : Int) := by omega
        have e6 : (n : Int) ≤ 2000000 := by omega
        have HQ := Lib.hid hq
        clear hq
        cases hr : ltAt cur n q
        · have HR := Lib.hid hr; clear hr
          have HQ2 := Lib.hid (show cur = putL l x by have := HUP.out; rwa [upL_end (.inr (by rw [HQ.out]; exact HR.out))] at this)
          go_wp2_with (go_at_call 159; refine (less_at HPR.out hn hql false HR.out).mono ?_; rintro e w4 ⟨rfl, hb4⟩)
          go_end0
          exact ⟨rfl, ⟨g3, c3, by rw [← HQ2.out]; exact HPR.out.below hb4 HPR.out.plt HPR.out.glt, hg3⟩, HBR.out.below hb4 HBR.out.size⟩
        · have HR := Lib.hid hr; clear hr
          have HQ2 := Lib.hid (show upL (swapL cur n q) q = putL l x by have := HUP.out; rwa [upL_go hpos (by rw [HQ.out]; exact HR.out), HQ.out] at this)
          go_wp2_with fail
          refine (less_at HPR.out hn hql true HR.out).mono ?_
          rintro e w4 ⟨rfl, hb4⟩
          have HP4 := Lib.hid (HPR.out.below hb4 HPR.out.plt HPR.out.glt)
          have HB4 := Lib.hid (HBR.out.below hb4 HBR.out.size)
          clear hb4
          go_wp2_with fail
          refine (swap_any HP4.out hn hql (by omega)).mono ?_
          rintro e w5 ⟨rfl, hp5, hb5⟩
          have HP5 := Lib.hid hp5
          have HB5 := Lib.hid (HB4.out.trans hb5 hg3)
          clear hp5 hb5
          go_wp2
          go_roundw
          case rel => exact ⟨q, by rw [e2], swapL cur n q, g3, c3, by rw [swapL_len]; exact hql, by rw [swapL_len]; exact hcl, HQ2.out, HP5.out, hg3, HB5.out⟩
          case measure => simp [intOf]; omega
end Go.Proofs.YtcpanfpijljeaaaGreat
