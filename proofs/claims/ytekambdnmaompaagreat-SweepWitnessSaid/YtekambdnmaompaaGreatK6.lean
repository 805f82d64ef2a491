/- Contract: Witness. -/
import Derived.Test.YtekambdnmaompaaGreatK5
namespace Go.Proofs.YtekambdnmaompaaGreat.SW
set_option linter.unusedVariables false
set_option linter.unusedSimpArgs false
open Go.RowKit

section append
variable {α : Type} {f : α → List Value} {P : Program} (w : World)
/-- append of a slice that reads as m onto one of the call's own -/
theorem wp_app {o : Oper} {a : Act} {K : Act → World → Prop} {Q : Exit → Act → World → Prop} (s x : Operand) (t : TypeId)
    (ho : o.op = .call { callee := .builtin .append, args := #[s, x], argTypes := #[t, t] })
    (base : Nat) (e : TypeId) (i : TypeInfo) (z : Value) (size bytes : Nat) (ht : P.underlying t = some (.slice e)) (hi : P.info? e = some i) (hz : i.zero = some z)
    (hsize : i.size = size) (hby : i.bytes = bytes) (hzs : z.cells.size = size) (hsz : 0 < size) (hf : ∀ x, (f x).length = size) (h1 : ∀ x, ∀ u ∈ f x, u.oneCell' = true)
    (v : Value) (l : List α) (hs : a.eval s = v) (hown : Own w base e size f v l)
    (B : Nat) (A : Option Addr) (m : List α) (c : Nat) (hx : a.eval x = .slice A m.length c) (hr : Sl w B size (fun x cs => cs = f x) A m)
    (h63 : l.length + m.length ≤ maxLen) (hbytes : (l.length + m.length) * bytes ≤ 140737488355328) (hbase : base ≤ w.heap.size) (hA0 : m = [] → A = none ∨ ∃ ad, A = some ad)
    (h : ∀ v' w', Own w' base e size f v' (l ++ m) → w.grownBy w' v.ownBlock → (v'.ownBlock = v.ownBlock ∨ v'.ownBlock = some w.heap.size) → (m ≠ [] → v' ≠ .slice none 0 0) → K (a.put o.dst v') w') : o.wp P a w K Q := by
  have key : ∃ v' w', (Builtin.append_ #[t, t] o.type #[v, .slice A m.length c]).run P w = .ok v' w' ∧ Own w' base e size f v' (l ++ m) ∧ w.grownBy w' v.ownBlock ∧ (v'.ownBlock = v.ownBlock ∨ v'.ownBlock = some w.heap.size) ∧ (m ≠ [] → v' ≠ .slice none 0 0) := by
    rcases A with _ | ad
    · have hm : m = [] := by
        rcases m with _ | ⟨x, r⟩
        · rfl
        · obtain ⟨_, _, h, _⟩ := hr (by simp); cases h
      subst hm
      exact ⟨v, w, run_app_nil w base t o.type e i size ht hi v _ _ hown c, by simpa using hown, World.grownBy.refl w _, .inl rfl, fun h => absurd rfl h⟩
    · have hcells : ∀ j u, (m.flatMap f)[j]? = some u → w.cell? (ad.add j) = some u := by
        rcases m with _ | ⟨x, r⟩
        · intro j u hu; simp at hu
        · obtain ⟨b, off, h, _⟩ := hr (by simp)
          injection h with h; subst h
          exact hr.flat hf hsz rfl
      obtain ⟨v', w', hrun, h2, h3, h4, h5⟩ := run_append_own_at (P := P) w base t o.type e i z size bytes ht hi hz hsize hby hzs hsz v _ _ hown ad m.length c (m.flatMap f) (flat_len hf m) hcells (flat_one h1 m) h63 hbytes hbase
      refine ⟨v', w', hrun, ?_, h3, h5, fun hm hv => ?_⟩
      · unfold Own; rw [List.length_append, List.flatMap_append]; exact h2
      · exact hm (List.eq_nil_of_length_eq_zero (h4.1 hv).2)
  obtain ⟨v', w', hrun, h2, h3, h4, h5⟩ := key
  refine Oper.wp.eq_1 P o a w K Q ▸ ?_
  unfold execOp
  simp only [ho, resolve, invoke, builtin, Sem.run_bind, Sem.run_pure, Result.andThen_ok, List.map_toArray, List.map_cons, List.map_nil, hs, hx, hrun]
  exact h v' w' h2 h3 h4 h5
end append

/-- what stays while a row grows that is v0's, or newer than wy -/
structure KI (wy : World) (v0 : Value) (wr : World) (v : Value) : Prop where
  sz : wy.heap.size ≤ wr.heap.size
  bl : ∀ k, k < wy.heap.size → v0.ownBlock ≠ some k → wr.heap[k]? = wy.heap[k]?
  ob : v.ownBlock = v0.ownBlock ∨ ∀ b, v.ownBlock = some b → wy.heap.size ≤ b
theorem KI.start (w : World) (v : Value) : KI w v w v := ⟨Nat.le_refl _, fun _ _ _ => rfl, .inl rfl⟩
theorem KI.below {wy : World} {v0 : Value} {wr wx : World} {v : Value} (h : KI wy v0 wr v) (hb : Below wr.heap.size wr wx) : KI wy v0 wx v :=
  ⟨Nat.le_trans h.sz hb.size, fun k hk hv => (hb.block k (Nat.lt_of_lt_of_le hk h.sz)).trans (h.bl k hk hv), h.ob⟩
theorem KI.app {wy : World} {v0 : Value} {wr wx : World} {v v' : Value} (h : KI wy v0 wr v) (hg : wr.grownBy wx v.ownBlock) (ha : v'.ownBlock = v.ownBlock ∨ v'.ownBlock = some wr.heap.size) : KI wy v0 wx v' := by
  refine ⟨Nat.le_trans h.sz hg.size, fun k hk hv => (hg.block k (Nat.lt_of_lt_of_le hk h.sz) (fun e => ?_)).trans (h.bl k hk hv), ?_⟩
  · rcases h.ob with h1 | h1
    · exact hv (by rw [← h1, ← e])
    · have := h1 k e.symm; omega
  · rcases ha with h1 | h1
    · rcases h.ob with h2 | h2
      · exact .inl (h1.trans h2)
      · exact .inr fun b hb => h2 b (h1.symm.trans hb)
    · exact .inr fun b hb => by
        rw [h1] at hb; cases hb; exact h.sz
theorem KI.row {wy : World} {v0 : Value} {wr : World} {v : Value} (h : KI wy v0 wr v) {g : Nat} {t : TypeId} {cs : Array Value} (hr : Rw wy g t cs) (hv : v0.ownBlock ≠ some g) : Rw wr g t cs := (h.bl g hr.lt hv).trans hr
theorem info130 : (Tryz.prog.info? 130).map (fun i => (i.zero, i.size, i.bytes)) = some (some (.agg #[.int .i64 0, .int .i64 0, .int .i64 0, .int .i64 0, .int .i64 0]), 5, 40) := by kernel_rfl
set_option maxRecDepth 100000 in
set_option maxHeartbeats 16000000 in
theorem Witness_yes (A A2 : Option Addr) (c c2 : Nat) (p : Pl) (r r2 m m2 : Nat) (L L2 : List S) (w : World) (hP : PlAt w w.heap.size A c A2 c2 p) (hV : Vld p) (h : RlOk p r L) (h2 : RlOk p r2 L2) (hm : L.length = m + 1) (hm2 : L2.length = m2 + 1) (b : W3)
    (hb : bestP (pairsL (fun i k => gapW (stripAt r L i) (stripAt r2 L2 k)) m m2) = b) :
    Calls Tryz.prog 36 #[.agg #[.slice A p.nodes.length c, .slice A2 p.rails.length c2], .int .i64 (r : Int), .int .i64 (r2 : Int)] w fun e w' => e = .returned (.tuple #[.agg #[.int .i64 (r : Int), .int .i64 (b.i : Int)], .agg #[.int .i64 (r2 : Int), .int .i64 (b.k : Int)], .int .i64 (b.g : Int), .int .i64 0]) ∧ Below w.heap.size w w' := by
  obtain ⟨iD, hiD, hD0, hD1, hD2⟩ := info_parts info130
  have hle := h.le; have hle2 := h2.le
  have HM := Lib.hid (show 1 ≤ m ∧ m ≤ 41 ∧ 1 ≤ m2 ∧ m2 ≤ 41 from by omega)
  obtain ⟨F, hF⟩ : ∃ F : Nat → Nat → Nat, F = (fun i k => gapW (stripAt r L i) (stripAt r2 L2 k)) := ⟨_, rfl⟩
  have HFD := Lib.hid (show ∀ i k, gapW (stripAt r L i) (stripAt r2 L2 k) = F i k from fun i k => by rw [hF])
  rw [← hF] at hb
  have HBB := Lib.hid hb
  have hb3 := ((Below.refl _ w).alloc (Nat.le_refl _) (.cells #[.slice A p.nodes.length c, .slice A2 p.rails.length c2] 25)).alloc (by simp) (.cells #[.int .i64 0, .int .i64 0] 34) |>.alloc (by simp; omega) (.cells #[.int .i64 0, .int .i64 0] 34)
  obtain ⟨q1, q2, q3⟩ := rows3 w #[.slice A p.nodes.length c, .slice A2 p.rails.length c2] #[.int .i64 0, .int .i64 0] #[.int .i64 0, .int .i64 0] 25 34 34
  have hz1 : (((w.alloc (.cells #[.slice A p.nodes.length c, .slice A2 p.rails.length c2] 25)).alloc (.cells #[.int .i64 0, .int .i64 0] 34)).alloc (.cells #[.int .i64 0, .int .i64 0] 34)).heap.size = w.heap.size + 3 := by simp
  obtain ⟨W1, hW1⟩ : ∃ z, (((w.alloc (.cells #[.slice A p.nodes.length c, .slice A2 p.rails.length c2] 25)).alloc (.cells #[.int .i64 0, .int .i64 0] 34)).alloc (.cells #[.int .i64 0, .int .i64 0] 34)) = z := ⟨_, rfl⟩
  rw [hW1] at hb3 q1 q2 q3 hz1
  have HB1 := Lib.hid hb3
  have HB0 := Lib.hid (Below.refl W1.heap.size W1)
  have HZ1 := Lib.hid hz1
  have HR := Lib.hid (show ∀ wx, Below W1.heap.size W1 wx → Rw wx w.heap.size 25 #[.slice A p.nodes.length c, .slice A2 p.rails.length c2] ∧ Rw wx (w.heap.size + 1) 34 #[.int .i64 0, .int .i64 0] ∧ Rw wx (w.heap.size + 1 + 1) 34 #[.int .i64 0, .int .i64 0] from fun wx h => ⟨q1.below h (by omega), q2.below h (by omega), q3.below h (by omega)⟩)
  have HPB := Lib.hid (show ∀ wx, Below W1.heap.size W1 wx → PlAt wx wx.heap.size A c A2 c2 p from fun wx h => ((hP.below hb3).below (h.mono hb3.size)).more (Nat.le_trans hb3.size h.size))
  have HCK := Lib.hid (show ∀ wx, Below W1.heap.size W1 wx → Calls Tryz.prog 48 #[.agg #[.slice A p.nodes.length c, .slice A2 p.rails.length c2]] wx fun e w' => e = .returned (.int .i64 0) ∧ Below wx.heap.size wx w' from fun wx hx => (Check_any A A2 c c2 p wx (HPB.out wx hx)).mono (by
    rintro e w' ⟨h, hb⟩
    rcases h with ⟨_, rfl⟩ | ⟨hn, rfl⟩
    · exact ⟨rfl, hb⟩
    · exact absurd hV hn))
  have HH1 := Lib.hid (show ∀ wx, Below W1.heap.size W1 wx → Calls Tryz.prog 49 #[.agg #[.slice A p.nodes.length c, .slice A2 p.rails.length c2], .int .i64 (r : Int)] wx fun e w' => e = .returned (.bool true) ∧ Below wx.heap.size wx w' from fun wx hx => by
    have := hasRail2_any A A2 c c2 p r wx (HPB.out wx hx)
    rwa [show railIn p (r : Int) = true from decide_eq_true ⟨by omega, by have := h.hr; omega⟩] at this)
  have HH2 := Lib.hid (show ∀ wx, Below W1.heap.size W1 wx → Calls Tryz.prog 49 #[.agg #[.slice A p.nodes.length c, .slice A2 p.rails.length c2], .int .i64 (r2 : Int)] wx fun e w' => e = .returned (.bool true) ∧ Below wx.heap.size wx w' from fun wx hx => by
    have := hasRail2_any A A2 c c2 p r2 wx (HPB.out wx hx)
    rwa [show railIn p (r2 : Int) = true from decide_eq_true ⟨by omega, by have := h2.hr; omega⟩] at this)
  have HA1 := Lib.hid (show ∀ wx, Below W1.heap.size W1 wx → Calls Tryz.prog 50 #[.agg #[.slice A p.nodes.length c, .slice A2 p.rails.length c2], .int .i64 (r : Int)] wx _ from fun wx hx => by
    have := along_any A A2 c c2 p r wx (HPB.out wx hx) h.hr h.h1 h.h2 h.hs (by rw [h.eL]; exact h.hR) (by rw [h.eL]; exact h.hok)
    rw [h.eL] at this
    exact this)
  have HA2 := Lib.hid (show ∀ wx, Below W1.heap.size W1 wx → Calls Tryz.prog 50 #[.agg #[.slice A p.nodes.length c, .slice A2 p.rails.length c2], .int .i64 (r2 : Int)] wx _ from fun wx hx => by
    have := along_any A A2 c c2 p r2 wx (HPB.out wx hx) h2.hr h2.h1 h2.h2 h2.hs (by rw [h2.eL]; exact h2.hR) (by rw [h2.eL]; exact h2.hok)
    rw [h2.eL] at this
    exact this)
  have HLM := Lib.hid (And.intro hm hm2)
  have HOK := Lib.hid (show ∀ i k, i < m → k < m2 → SwOk (stripAt r L i) ∧ SwOk (stripAt r2 L2 k) from fun i k hi hk => ⟨stripAt_ok h.hR h.hok (by omega), stripAt_ok h2.hR h2.hok (by omega)⟩)
  have e0 := q1.cell 0; have e1 := q1.cell 1
  clear hb3 q1 q2 q3 hP hz1 h h2 hm hm2 hle hle2 hF hb hV
  go_enter Tryz.func36, Tryz.ntmps36
  go_wp2_with fail
  refine (HCK.out _ HB0.out).mono ?_
  rintro e w2 ⟨rfl, hb2⟩
  have HB2 := Lib.hid hb2
  obtain ⟨r1, r2', r3⟩ := HR.out _ HB2.out
  have e0 := r1.cell 0; have e1 := r1.cell 1
  clear hb2 r1 r2' r3 hW1
  go_wp2_with fail
  refine (HH1.out _ HB2.out).mono ?_
  rintro e w3 ⟨rfl, hb3⟩
  have HB3 := Lib.hid (HB2.out.trans (hb3.mono HB2.out.size))
  obtain ⟨r1, r2', r3⟩ := HR.out _ HB3.out
  have e0 := r1.cell 0; have e1 := r1.cell 1
  clear hb3 r1 r2' r3
  go_wp2_with fail
  refine (HH2.out _ HB3.out).mono ?_
  rintro e w4 ⟨rfl, hb4⟩
  have HB4 := Lib.hid (HB3.out.trans (hb4.mono HB3.out.size))
  obtain ⟨r1, r2', r3⟩ := HR.out _ HB4.out
  have e0 := r1.cell 0; have e1 := r1.cell 1
  clear hb4 r1 r2' r3
  go_wp2_with fail
  refine (HA1.out _ HB4.out).mono ?_
  rintro e w5 ⟨va, xs, rfl, hxs, hoa, hsa, hb5⟩
  have HB5 := Lib.hid (HB4.out.trans (hb5.mono HB4.out.size))
  have HXS := Lib.hid hxs
  have hn1 : xs.length = m := by
    have := congrArg List.length hxs
    rw [List.length_map, alongL_len] at this
    have := HLM.out.1; omega
  obtain ⟨Aa, cva, rfl, hl1, hl2, _⟩ := hoa.form
  have HOA := Lib.hid hoa
  have HXA := Lib.hid (show ∀ wx, Below w5.heap.size w5 wx → ∀ (i : Nat) (x : SwM), xs[i]? = some x → ∃ b3 off3, Aa = some ⟨b3, off3, none⟩ ∧ ∀ q u, (fSw x)[q]? = some u → wx.cell? ⟨b3, off3 + i * 13 + q, none⟩ = some u from fun wx h i x hx => by
    obtain ⟨hi, e⟩ := List.getElem?_eq_some_iff.1 hx
    obtain ⟨b3, off3, cs, eA, hbb, hcc, hc⟩ := (HOA.out.sl fSw_len rfl).at_ hi
    rw [e] at hcc
    subst hcc
    exact ⟨b3, off3, eA, fun q u hq => (h.cell (p := ⟨b3, off3 + i * 13 + q, none⟩) hbb).trans (hc q u hq)⟩)
  have HX0 := Lib.hid (show ∀ (i : Nat) (x : SwM), xs[i]? = some x → x.s = stripAt r L i from fun i x hx => by
    have h1 : (xs.map (·.s))[i]? = some x.s := by rw [List.getElem?_map, hx]; rfl
    rw [HXS.out] at h1
    obtain ⟨hq, e⟩ := List.getElem?_eq_some_iff.1 h1
    rw [← e, alongL_at])
  have HN1 := Lib.hid hn1
  rw [hn1] at hl1 ⊢
  have hm41 : m ≤ 41 := HM.out.2.1
  clear hxs hoa hsa hb5 hn1 e0 e1
  go_wp2
  go_loopw [10, 37] (fun s10 s37 wr => ∃ i : Nat, i ≤ m ∧ s37 = .int .i64 (i : Int) ∧ Own wr w5.heap.size 130 5 (fP r r2) s10 (pairsL F i m2) ∧ Below w5.heap.size w5 wr) (fun _ s37 _ => m - (intOf s37).toNat)
  case atStart => exact ⟨0, Nat.zero_le _, rfl, Own.nil _ _ _ _ _, Below.refl _ _⟩
  case round =>
    obtain ⟨i, hi, rfl, hown, hb⟩ := hrel
    have HO := Lib.hid hown; have HB := Lib.hid hb
    clear hown
    by_cases hin : i < m
    · obtain ⟨x, hxm⟩ : ∃ z, xs[i]? = some z := ⟨_, List.getElem?_eq_getElem (by have := HN1.out; omega)⟩
      have HX := Lib.hid hxm
      have HIN := Lib.hid hin
      have HXE := Lib.hid (HX0.out i x hxm)
      obtain ⟨b3, off3, eA, hxl⟩ := HXA.out _ hb i x hxm
      subst eA
      have d0 : wr.cell? ⟨b3, off3 + i * 13, none⟩ = some (.int .i64 x.s.rail) := hxl 0 _ rfl
      have d1 := hxl 1 _ rfl
      have d2 := hxl 2 _ rfl
      have d3 := hxl 3 _ rfl
      have d4 := hxl 4 _ rfl
      have d5 := hxl 5 _ rfl
      have d6 := hxl 6 _ rfl
      have d7 := hxl 7 _ rfl
      have d8 := hxl 8 _ rfl
      have d9 := hxl 9 _ rfl
      have d10 := hxl 10 _ rfl
      have d11 := hxl 11 _ rfl
      have d12 := hxl 12 _ rfl
      have g1 : (i : Int) < (m : Int) := by omega
      have g0 : (0 : Int) ≤ (i : Int) := by omega
      have hb5 := (Below.refl wr.heap.size wr).alloc (Nat.le_refl _) (.cells #[.int .i64 x.s.rail, .int .i64 x.s.seg, .int .i64 x.s.a.x, .int .i64 x.s.a.y, .int .i64 x.s.b.x, .int .i64 x.s.b.y, .int .i64 x.s.bg, .int .i64 x.s.en, .slice x.A x.s.bends.length x.c, .int .i64 (min x.s.a.x x.s.b.x), .int .i64 (min x.s.a.y x.s.b.y), .int .i64 (max x.s.a.x x.s.b.x), .int .i64 (max x.s.a.y x.s.b.y)] 98)
      have q5 := Rw.new wr #[.int .i64 x.s.rail, .int .i64 x.s.seg, .int .i64 x.s.a.x, .int .i64 x.s.a.y, .int .i64 x.s.b.x, .int .i64 x.s.b.y, .int .i64 x.s.bg, .int .i64 x.s.en, .slice x.A x.s.bends.length x.c, .int .i64 (min x.s.a.x x.s.b.x), .int .i64 (min x.s.a.y x.s.b.y), .int .i64 (max x.s.a.x x.s.b.x), .int .i64 (max x.s.a.y x.s.b.y)] 98
      have hz6 : (wr.alloc (.cells #[.int .i64 x.s.rail, .int .i64 x.s.seg, .int .i64 x.s.a.x, .int .i64 x.s.a.y, .int .i64 x.s.b.x, .int .i64 x.s.b.y, .int .i64 x.s.bg, .int .i64 x.s.en, .slice x.A x.s.bends.length x.c, .int .i64 (min x.s.a.x x.s.b.x), .int .i64 (min x.s.a.y x.s.b.y), .int .i64 (max x.s.a.x x.s.b.x), .int .i64 (max x.s.a.y x.s.b.y)] 98)).heap.size = wr.heap.size + 1 := by simp
      obtain ⟨W6, hW6⟩ : ∃ z, wr.alloc (.cells #[.int .i64 x.s.rail, .int .i64 x.s.seg, .int .i64 x.s.a.x, .int .i64 x.s.a.y, .int .i64 x.s.b.x, .int .i64 x.s.b.y, .int .i64 x.s.bg, .int .i64 x.s.en, .slice x.A x.s.bends.length x.c, .int .i64 (min x.s.a.x x.s.b.x), .int .i64 (min x.s.a.y x.s.b.y), .int .i64 (max x.s.a.x x.s.b.x), .int .i64 (max x.s.a.y x.s.b.y)] 98) = z := ⟨_, rfl⟩
      rw [hW6] at hb5 q5 hz6
      have HB6 := Lib.hid (HB.out.trans (hb5.mono HB.out.size))
      have HO6 := Lib.hid (HO.out.below hb5 (Nat.le_refl _))
      have HQ6 := Lib.hid (And.intro q5 hz6)
      have HNV := Lib.hid (show ∀ k, u10.ownBlock = some k → k < wr.heap.size from fun k hk => (HO.out.lt k hk).2)
      obtain ⟨r1, r2', r3⟩ := HR.out _ (HB5.out.trans (HB6.out.mono HB5.out.size))
      have e0 := r1.cell 0; have e1 := r1.cell 1
      clear hb5 q5 hz6 r1 r2' r3 hxm hxl hb
      go_wp2_with fail
      refine (HA2.out _ (HB5.out.trans (HB6.out.mono HB5.out.size))).mono ?_
      rintro e w7 ⟨vb, ys, rfl, hys, hob, hsb, hb7⟩
      have HB7 := Lib.hid (HB6.out.trans (hb7.mono HB6.out.size))
      have HO7 := Lib.hid (HO6.out.below hb7 (Nat.le_refl _))
      have HY0 := Lib.hid (show ∀ (i : Nat) (x : SwM), ys[i]? = some x → x.s = stripAt r2 L2 i from fun i x hx => by
        have h1 : (ys.map (·.s))[i]? = some x.s := by rw [List.getElem?_map, hx]; rfl
        rw [hys] at h1
        obtain ⟨hq, e⟩ := List.getElem?_eq_some_iff.1 h1
        rw [← e, alongL_at])
      have hn2 : ys.length = m2 := by
        have := congrArg List.length hys
        rw [List.length_map, alongL_len] at this
        have := HLM.out.2; omega
      obtain ⟨Ab, cvb, rfl, hl3, hl4, _⟩ := hob.form
      have HOB := Lib.hid hob
      obtain ⟨v0, hv0⟩ : ∃ z, u10 = z := ⟨_, rfl⟩
      rw [hv0] at HO HO6 HO7 HNV ⊢
      have HYA := Lib.hid (show ∀ wx v, KI w7 v0 wx v → ∀ (k : Nat) (y : SwM), ys[k]? = some y → ∃ b4 off4, Ab = some ⟨b4, off4, none⟩ ∧ ∀ q u, (fSw y)[q]? = some u → wx.cell? ⟨b4, off4 + k * 13 + q, none⟩ = some u from fun wx v hk k y hy => by
        obtain ⟨hi, e⟩ := List.getElem?_eq_some_iff.1 hy
        obtain ⟨b4, off4, cs, eA, hbb, hcc, hc⟩ := (HOB.out.sl fSw_len rfl).at_ hi
        rw [e] at hcc
        subst hcc
        subst eA
        have hl := (HOB.out.lt b4 rfl).1
        have hz := HQ6.out.2
        exact ⟨b4, off4, rfl, fun q u hq => (World.cell?_of_block (a := ⟨b4, off4 + k * 13 + q, none⟩) (hk.bl b4 hbb (fun e => by have := HNV.out b4 e; omega))).trans (hc q u hq)⟩)
      have HKX := Lib.hid (show ∀ wx v, KI w7 v0 wx v → Rw wx wr.heap.size 98 #[.int .i64 x.s.rail, .int .i64 x.s.seg, .int .i64 x.s.a.x, .int .i64 x.s.a.y, .int .i64 x.s.b.x, .int .i64 x.s.b.y, .int .i64 x.s.bg, .int .i64 x.s.en, .slice x.A x.s.bends.length x.c, .int .i64 (min x.s.a.x x.s.b.x), .int .i64 (min x.s.a.y x.s.b.y), .int .i64 (max x.s.a.x x.s.b.x), .int .i64 (max x.s.a.y x.s.b.y)] from fun wx v hk => hk.row (HQ6.out.1.below hb7 (by have := HQ6.out.2; omega)) (fun e => by have := HNV.out _ e; omega))
      have HZ7 := Lib.hid (show wr.heap.size < w7.heap.size from by have := HQ6.out.2; have := hb7.size; omega)
      have HN2 := Lib.hid hn2
      obtain ⟨kx, hkx⟩ : ∃ z, wr.heap.size = z := ⟨_, rfl⟩
      rw [hkx] at HKX HZ7 HNV ⊢
      rw [hn2] at hl3 ⊢
      have hm412 : m2 ≤ 41 := HM.out.2.2.2
      clear hys hob hsb hb7 hn2 e0 e1 hv0 hW6 hkx d0 d1 d2 d3 d4 d5 d6 d7 d8 d9 d10 d11 d12 HO HO6 HQ6
      go_wp2
      go_loopw [10, 45] (fun s10 s45 wr => ∃ k : Nat, k ≤ m2 ∧ s45 = .int .i64 (k : Int) ∧ Own wr w5.heap.size 130 5 (fP r r2) s10 (pairsL F i m2 ++ rowP F i k) ∧ KI w7 v0 wr s10 ∧ Below w5.heap.size w5 wr) (fun _ s45 _ => m2 - (intOf s45).toNat)
      case atStart => exact ⟨0, Nat.zero_le _, rfl, by simpa [rowP] using HO7.out, KI.start _ _, HB7.out⟩
      case round =>
        obtain ⟨k, hk, rfl, hown, hki, hb⟩ := hrel
        have HO := Lib.hid hown; have HKI := Lib.hid hki; have HB8 := Lib.hid hb
        clear hown hb
        by_cases hkm : k < m2
        · obtain ⟨y, hym⟩ : ∃ z, ys[k]? = some z := ⟨_, List.getElem?_eq_getElem (by have := HN2.out; omega)⟩
          have HKM := Lib.hid hkm
          have HYE := Lib.hid (HY0.out k y hym)
          obtain ⟨b4, off4, eA, hyl⟩ := HYA.out _ _ hki k y hym
          subst eA
          have f0 : wr.cell? ⟨b4, off4 + k * 13, none⟩ = some (.int .i64 y.s.rail) := hyl 0 _ rfl
          have f1 := hyl 1 _ rfl
          have f2 := hyl 2 _ rfl
          have f3 := hyl 3 _ rfl
          have f4 := hyl 4 _ rfl
          have f5 := hyl 5 _ rfl
          have f6 := hyl 6 _ rfl
          have f7 := hyl 7 _ rfl
          have f8 := hyl 8 _ rfl
          have f9 := hyl 9 _ rfl
          have f10 := hyl 10 _ rfl
          have f11 := hyl 11 _ rfl
          have f12 := hyl 12 _ rfl
          have j1 : (k : Int) < (m2 : Int) := by omega
          have j0 : (0 : Int) ≤ (k : Int) := by omega
          have hrx := HKX.out _ _ hki
          have hb9 := (Below.refl wr.heap.size wr).alloc (Nat.le_refl _) (.cells #[.int .i64 y.s.rail, .int .i64 y.s.seg, .int .i64 y.s.a.x, .int .i64 y.s.a.y, .int .i64 y.s.b.x, .int .i64 y.s.b.y, .int .i64 y.s.bg, .int .i64 y.s.en, .slice y.A y.s.bends.length y.c, .int .i64 (min y.s.a.x y.s.b.x), .int .i64 (min y.s.a.y y.s.b.y), .int .i64 (max y.s.a.x y.s.b.x), .int .i64 (max y.s.a.y y.s.b.y)] 98)
          have q9 := Rw.new wr #[.int .i64 y.s.rail, .int .i64 y.s.seg, .int .i64 y.s.a.x, .int .i64 y.s.a.y, .int .i64 y.s.b.x, .int .i64 y.s.b.y, .int .i64 y.s.bg, .int .i64 y.s.en, .slice y.A y.s.bends.length y.c, .int .i64 (min y.s.a.x y.s.b.x), .int .i64 (min y.s.a.y y.s.b.y), .int .i64 (max y.s.a.x y.s.b.x), .int .i64 (max y.s.a.y y.s.b.y)] 98
          have hrx9 := hrx.alloc (.cells #[.int .i64 y.s.rail, .int .i64 y.s.seg, .int .i64 y.s.a.x, .int .i64 y.s.a.y, .int .i64 y.s.b.x, .int .i64 y.s.b.y, .int .i64 y.s.bg, .int .i64 y.s.en, .slice y.A y.s.bends.length y.c, .int .i64 (min y.s.a.x y.s.b.x), .int .i64 (min y.s.a.y y.s.b.y), .int .i64 (max y.s.a.x y.s.b.x), .int .i64 (max y.s.a.y y.s.b.y)] 98)
          have hz9 : (wr.alloc (.cells #[.int .i64 y.s.rail, .int .i64 y.s.seg, .int .i64 y.s.a.x, .int .i64 y.s.a.y, .int .i64 y.s.b.x, .int .i64 y.s.b.y, .int .i64 y.s.bg, .int .i64 y.s.en, .slice y.A y.s.bends.length y.c, .int .i64 (min y.s.a.x y.s.b.x), .int .i64 (min y.s.a.y y.s.b.y), .int .i64 (max y.s.a.x y.s.b.x), .int .i64 (max y.s.a.y y.s.b.y)] 98)).heap.size = wr.heap.size + 1 := by simp
          obtain ⟨W9, hW9⟩ : ∃ z, wr.alloc (.cells #[.int .i64 y.s.rail, .int .i64 y.s.seg, .int .i64 y.s.a.x, .int .i64 y.s.a.y, .int .i64 y.s.b.x, .int .i64 y.s.b.y, .int .i64 y.s.bg, .int .i64 y.s.en, .slice y.A y.s.bends.length y.c, .int .i64 (min y.s.a.x y.s.b.x), .int .i64 (min y.s.a.y y.s.b.y), .int .i64 (max y.s.a.x y.s.b.x), .int .i64 (max y.s.a.y y.s.b.y)] 98) = z := ⟨_, rfl⟩
          rw [hW9] at hb9 q9 hz9 hrx9
          have HO9 := Lib.hid (HO.out.below hb9 (Nat.le_refl _))
          have HKI9 := Lib.hid (HKI.out.below hb9)
          have HB9 := Lib.hid (HB8.out.trans (hb9.mono HB8.out.size))
          have HNK := Lib.hid (show u10.ownBlock ≠ some kx ∧ u10.ownBlock ≠ some wr.heap.size ∧ kx < W9.heap.size ∧ wr.heap.size < W9.heap.size from by
            refine ⟨fun e => ?_, fun e => ?_, ?_, by omega⟩
            · rcases HKI.out.ob with h | h
              · have := HNV.out kx (h.symm.trans e); omega
              · have := h kx e; have := HZ7.out; omega
            · have := (HO.out.lt _ e).2; omega
            · have := HKI.out.sz; have := HZ7.out; omega)
          have HSK := Lib.hid (show ∀ wx, Below W9.heap.size W9 wx → Rw wx kx 98 #[.int .i64 x.s.rail, .int .i64 x.s.seg, .int .i64 x.s.a.x, .int .i64 x.s.a.y, .int .i64 x.s.b.x, .int .i64 x.s.b.y, .int .i64 x.s.bg, .int .i64 x.s.en, .slice x.A x.s.bends.length x.c, .int .i64 (min x.s.a.x x.s.b.x), .int .i64 (min x.s.a.y x.s.b.y), .int .i64 (max x.s.a.x x.s.b.x), .int .i64 (max x.s.a.y x.s.b.y)] ∧ Rw wx wr.heap.size 98 #[.int .i64 y.s.rail, .int .i64 y.s.seg, .int .i64 y.s.a.x, .int .i64 y.s.a.y, .int .i64 y.s.b.x, .int .i64 y.s.b.y, .int .i64 y.s.bg, .int .i64 y.s.en, .slice y.A y.s.bends.length y.c, .int .i64 (min y.s.a.x y.s.b.x), .int .i64 (min y.s.a.y y.s.b.y), .int .i64 (max y.s.a.x y.s.b.x), .int .i64 (max y.s.a.y y.s.b.y)] from fun wx h => ⟨hrx9.below h HNK.out.2.2.1, q9.below h HNK.out.2.2.2⟩)
          have HGP := Lib.hid (show ∀ wx : World, Calls Tryz.prog 63 #[.agg #[.int .i64 x.s.rail, .int .i64 x.s.seg, .int .i64 x.s.a.x, .int .i64 x.s.a.y, .int .i64 x.s.b.x, .int .i64 x.s.b.y, .int .i64 x.s.bg, .int .i64 x.s.en, .slice x.A x.s.bends.length x.c, .int .i64 (min x.s.a.x x.s.b.x), .int .i64 (min x.s.a.y x.s.b.y), .int .i64 (max x.s.a.x x.s.b.x), .int .i64 (max x.s.a.y x.s.b.y)], .agg #[.int .i64 y.s.rail, .int .i64 y.s.seg, .int .i64 y.s.a.x, .int .i64 y.s.a.y, .int .i64 y.s.b.x, .int .i64 y.s.b.y, .int .i64 y.s.bg, .int .i64 y.s.en, .slice y.A y.s.bends.length y.c, .int .i64 (min y.s.a.x y.s.b.x), .int .i64 (min y.s.a.y y.s.b.y), .int .i64 (max y.s.a.x y.s.b.x), .int .i64 (max y.s.a.y y.s.b.y)]] wx fun e w' => e = .returned (.int .i64 (F i k : Int)) ∧ Below wx.heap.size wx w' from fun wx => by
            have ho := HOK.out i k HIN.out HKM.out
            have := gap_any x y wx (by rw [HXE.out]; exact ho.1) (by rw [HYE.out]; exact ho.2)
            rw [HXE.out, HYE.out, HFD.out] at this
            exact this)
          have HNV5 := Lib.hid (show #[.int .i64 x.s.rail, .int .i64 x.s.seg, .int .i64 y.s.rail, .int .i64 y.s.seg, .int .i64 (F i k : Int)] = (fP r r2 ⟨i, k, F i k⟩).toArray from by rw [HXE.out, HYE.out]; rfl)
          have HLEN := Lib.hid (show (pairsL F i m2 ++ rowP F i k).length ≤ 3000 from by
            rw [List.length_append, pairsL_len, rowP_len]
            have h1 := Nat.mul_le_mul (show i ≤ 41 by have := HIN.out; have := HM.out; omega) (show m2 ≤ 41 from HM.out.2.2.2)
            have := HM.out; have := HKM.out; omega)
          obtain ⟨g, hg⟩ : ∃ z, F i k = z := ⟨_, rfl⟩
          have HNX := Lib.hid (show pairsL F i m2 ++ rowP F i (k + 1) = (pairsL F i m2 ++ rowP F i k) ++ [⟨i, k, g⟩] from by rw [rowP_succ, hg, List.append_assoc])
          rw [hg] at HGP HNV5
          clear hb9 q9 hz9 hrx9 hrx hki hym hyl hg
          go_upto_region 10 with (fail)
          clear hW9
          have hbq : Below W9.heap.size W9 W9.drew := (Below.refl _ _).drew
          have HS := Lib.hid (HSK.out _ hbq)
          refine wp_region_held_drew (S := fun wx => Rw wx kx 98 #[.int .i64 x.s.rail, .int .i64 x.s.seg, .int .i64 x.s.a.x, .int .i64 x.s.a.y, .int .i64 x.s.b.x, .int .i64 x.s.b.y, .int .i64 x.s.bg, .int .i64 x.s.en, .slice x.A x.s.bends.length x.c, .int .i64 (min x.s.a.x x.s.b.x), .int .i64 (min x.s.a.y x.s.b.y), .int .i64 (max x.s.a.x x.s.b.x), .int .i64 (max x.s.a.y x.s.b.y)] ∧ Rw wx wr.heap.size 98 #[.int .i64 y.s.rail, .int .i64 y.s.seg, .int .i64 y.s.a.x, .int .i64 y.s.a.y, .int .i64 y.s.b.x, .int .i64 y.s.b.y, .int .i64 y.s.bg, .int .i64 y.s.en, .slice y.A y.s.bends.length y.c, .int .i64 (min y.s.a.x y.s.b.x), .int .i64 (min y.s.a.y y.s.b.y), .int .i64 (max y.s.a.x y.s.b.x), .int .i64 (max y.s.a.y y.s.b.y)]) (by kernel_rfl) HS.out (fun _ => ?_)
          refine hTake (i := 0) (d := 49) (v := u10) rfl rfl (by kernel_rfl) (by kernel_rfl) (by kernel_rfl) (fun _ _ _ h => h) (Or.inl ⟨rfl, ?gr⟩) HS.out ?_
          case gr =>
            rintro W' ⟨s0, s1⟩
            have c0 := s0.cell 0; have h0 := s1.cell 0
            have c1 := s0.cell 1; have h1 := s1.cell 1
            have c2 := s0.cell 2; have h2 := s1.cell 2
            have c3 := s0.cell 3; have h3 := s1.cell 3
            have c4 := s0.cell 4; have h4 := s1.cell 4
            have c5 := s0.cell 5; have h5 := s1.cell 5
            have c6 := s0.cell 6; have h6 := s1.cell 6
            have c7 := s0.cell 7; have h7 := s1.cell 7
            have c8 := s0.cell 8; have h8 := s1.cell 8
            have c9 := s0.cell 9; have h9 := s1.cell 9
            have c10 := s0.cell 10; have h10 := s1.cell 10
            have c11 := s0.cell 11; have h11 := s1.cell 11
            have c12 := s0.cell 12; have h12 := s1.cell 12
            go_simp
          simp only [Act.put, List.setIfInBounds_toArray, List.set_cons_zero, List.set_cons_succ]
          refine hTake (i := 1) (d := 50) (v := .pointer (some ⟨kx, 0, none⟩)) rfl rfl (by kernel_rfl) (by kernel_rfl) (by kernel_rfl) (fun _ _ _ h => h) (Or.inl ⟨rfl, ?gr⟩) HS.out ?_
          case gr =>
            rintro W' ⟨s0, s1⟩
            have c0 := s0.cell 0; have h0 := s1.cell 0
            have c1 := s0.cell 1; have h1 := s1.cell 1
            have c2 := s0.cell 2; have h2 := s1.cell 2
            have c3 := s0.cell 3; have h3 := s1.cell 3
            have c4 := s0.cell 4; have h4 := s1.cell 4
            have c5 := s0.cell 5; have h5 := s1.cell 5
            have c6 := s0.cell 6; have h6 := s1.cell 6
            have c7 := s0.cell 7; have h7 := s1.cell 7
            have c8 := s0.cell 8; have h8 := s1.cell 8
            have c9 := s0.cell 9; have h9 := s1.cell 9
            have c10 := s0.cell 10; have h10 := s1.cell 10
            have c11 := s0.cell 11; have h11 := s1.cell 11
            have c12 := s0.cell 12; have h12 := s1.cell 12
            go_simp
          simp only [Act.put, List.setIfInBounds_toArray, List.set_cons_zero, List.set_cons_succ]
          refine hTake (i := 2) (d := 51) (v := .agg #[.int .i64 x.s.rail, .int .i64 x.s.seg]) rfl rfl (by kernel_rfl) (by kernel_rfl) (by kernel_rfl) (fun _ _ _ h => h) (Or.inl ⟨rfl, ?gr⟩) HS.out ?_
          case gr =>
            rintro W' ⟨s0, s1⟩
            have c0 := s0.cell 0; have h0 := s1.cell 0
            have c1 := s0.cell 1; have h1 := s1.cell 1
            have c2 := s0.cell 2; have h2 := s1.cell 2
            have c3 := s0.cell 3; have h3 := s1.cell 3
            have c4 := s0.cell 4; have h4 := s1.cell 4
            have c5 := s0.cell 5; have h5 := s1.cell 5
            have c6 := s0.cell 6; have h6 := s1.cell 6
            have c7 := s0.cell 7; have h7 := s1.cell 7
            have c8 := s0.cell 8; have h8 := s1.cell 8
            have c9 := s0.cell 9; have h9 := s1.cell 9
            have c10 := s0.cell 10; have h10 := s1.cell 10
            have c11 := s0.cell 11; have h11 := s1.cell 11
            have c12 := s0.cell 12; have h12 := s1.cell 12
            go_simp
          simp only [Act.put, List.setIfInBounds_toArray, List.set_cons_zero, List.set_cons_succ]
          refine hTake (i := 3) (d := 52) (v := .pointer (some ⟨wr.heap.size, 0, none⟩)) rfl rfl (by kernel_rfl) (by kernel_rfl) (by kernel_rfl) (fun _ _ _ h => h) (Or.inl ⟨rfl, ?gr⟩) HS.out ?_
          case gr =>
            rintro W' ⟨s0, s1⟩
            have c0 := s0.cell 0; have h0 := s1.cell 0
            have c1 := s0.cell 1; have h1 := s1.cell 1
            have c2 := s0.cell 2; have h2 := s1.cell 2
            have c3 := s0.cell 3; have h3 := s1.cell 3
            have c4 := s0.cell 4; have h4 := s1.cell 4
            have c5 := s0.cell 5; have h5 := s1.cell 5
            have c6 := s0.cell 6; have h6 := s1.cell 6
            have c7 := s0.cell 7; have h7 := s1.cell 7
            have c8 := s0.cell 8; have h8 := s1.cell 8
            have c9 := s0.cell 9; have h9 := s1.cell 9
            have c10 := s0.cell 10; have h10 := s1.cell 10
            have c11 := s0.cell 11; have h11 := s1.cell 11
            have c12 := s0.cell 12; have h12 := s1.cell 12
            go_simp
          simp only [Act.put, List.setIfInBounds_toArray, List.set_cons_zero, List.set_cons_succ]
          refine hTake (i := 4) (d := 53) (v := .agg #[.int .i64 y.s.rail, .int .i64 y.s.seg]) rfl rfl (by kernel_rfl) (by kernel_rfl) (by kernel_rfl) (fun _ _ _ h => h) (Or.inl ⟨rfl, ?gr⟩) HS.out ?_
          case gr =>
            rintro W' ⟨s0, s1⟩
            have c0 := s0.cell 0; have h0 := s1.cell 0
            have c1 := s0.cell 1; have h1 := s1.cell 1
            have c2 := s0.cell 2; have h2 := s1.cell 2
            have c3 := s0.cell 3; have h3 := s1.cell 3
            have c4 := s0.cell 4; have h4 := s1.cell 4
            have c5 := s0.cell 5; have h5 := s1.cell 5
            have c6 := s0.cell 6; have h6 := s1.cell 6
            have c7 := s0.cell 7; have h7 := s1.cell 7
            have c8 := s0.cell 8; have h8 := s1.cell 8
            have c9 := s0.cell 9; have h9 := s1.cell 9
            have c10 := s0.cell 10; have h10 := s1.cell 10
            have c11 := s0.cell 11; have h11 := s1.cell 11
            have c12 := s0.cell 12; have h12 := s1.cell 12
            go_simp
          simp only [Act.put, List.setIfInBounds_toArray, List.set_cons_zero, List.set_cons_succ]
          refine hTake (i := 5) (d := 54) (v := .agg #[.int .i64 x.s.rail, .int .i64 x.s.seg, .int .i64 x.s.a.x, .int .i64 x.s.a.y, .int .i64 x.s.b.x, .int .i64 x.s.b.y, .int .i64 x.s.bg, .int .i64 x.s.en, .slice x.A x.s.bends.length x.c, .int .i64 (min x.s.a.x x.s.b.x), .int .i64 (min x.s.a.y x.s.b.y), .int .i64 (max x.s.a.x x.s.b.x), .int .i64 (max x.s.a.y x.s.b.y)]) rfl rfl (by kernel_rfl) (by kernel_rfl) (by kernel_rfl) (fun _ _ _ h => h) (Or.inl ⟨rfl, ?gr⟩) HS.out ?_
          case gr =>
            rintro W' ⟨s0, s1⟩
            have c0 := s0.cell 0; have h0 := s1.cell 0
            have c1 := s0.cell 1; have h1 := s1.cell 1
            have c2 := s0.cell 2; have h2 := s1.cell 2
            have c3 := s0.cell 3; have h3 := s1.cell 3
            have c4 := s0.cell 4; have h4 := s1.cell 4
            have c5 := s0.cell 5; have h5 := s1.cell 5
            have c6 := s0.cell 6; have h6 := s1.cell 6
            have c7 := s0.cell 7; have h7 := s1.cell 7
            have c8 := s0.cell 8; have h8 := s1.cell 8
            have c9 := s0.cell 9; have h9 := s1.cell 9
            have c10 := s0.cell 10; have h10 := s1.cell 10
            have c11 := s0.cell 11; have h11 := s1.cell 11
            have c12 := s0.cell 12; have h12 := s1.cell 12
            go_simp
          simp only [Act.put, List.setIfInBounds_toArray, List.set_cons_zero, List.set_cons_succ]
          refine hTake (i := 6) (d := 55) (v := .agg #[.int .i64 y.s.rail, .int .i64 y.s.seg, .int .i64 y.s.a.x, .int .i64 y.s.a.y, .int .i64 y.s.b.x, .int .i64 y.s.b.y, .int .i64 y.s.bg, .int .i64 y.s.en, .slice y.A y.s.bends.length y.c, .int .i64 (min y.s.a.x y.s.b.x), .int .i64 (min y.s.a.y y.s.b.y), .int .i64 (max y.s.a.x y.s.b.x), .int .i64 (max y.s.a.y y.s.b.y)]) rfl rfl (by kernel_rfl) (by kernel_rfl) (by kernel_rfl) (fun _ _ _ h => h) (Or.inl ⟨rfl, ?gr⟩) HS.out ?_
          case gr =>
            rintro W' ⟨s0, s1⟩
            have c0 := s0.cell 0; have h0 := s1.cell 0
            have c1 := s0.cell 1; have h1 := s1.cell 1
            have c2 := s0.cell 2; have h2 := s1.cell 2
            have c3 := s0.cell 3; have h3 := s1.cell 3
            have c4 := s0.cell 4; have h4 := s1.cell 4
            have c5 := s0.cell 5; have h5 := s1.cell 5
            have c6 := s0.cell 6; have h6 := s1.cell 6
            have c7 := s0.cell 7; have h7 := s1.cell 7
            have c8 := s0.cell 8; have h8 := s1.cell 8
            have c9 := s0.cell 9; have h9 := s1.cell 9
            have c10 := s0.cell 10; have h10 := s1.cell 10
            have c11 := s0.cell 11; have h11 := s1.cell 11
            have c12 := s0.cell 12; have h12 := s1.cell 12
            go_simp
          simp only [Act.put, List.setIfInBounds_toArray, List.set_cons_zero, List.set_cons_succ]
          refine wpAnyH_ready (rs := [7]) (by kernel_rfl) (by simp) ?_
          refine AllReadyH.cons rfl (fun K hK => ?_) AllReadyH.nil
          rw [if_pos (by rfl)]
          go_simp
          go_at_call 63
          (with_reducible refine (HGP.out _).mono ?_)
          rintro e wc ⟨rfl, hbc⟩
          replace hbq := hbq.trans (hbc.mono hbq.size)
          have HS := Lib.hid (HSK.out _ hbq)
          clear hbc
          refine hK.out _ _ HS.out (fun _ => ?_)
          clear hK K
          try simp only [Act.put, List.setIfInBounds_toArray, List.set_cons_zero, List.set_cons_succ]
          refine hTake (i := 8) (d := 57) (v := .agg #[.int .i64 x.s.rail, .int .i64 x.s.seg, .int .i64 y.s.rail, .int .i64 y.s.seg, .int .i64 (g : Int)]) rfl rfl (by kernel_rfl) (by kernel_rfl) (by kernel_rfl) (fun _ _ _ h => h) (Or.inl ⟨rfl, ?gr⟩) HS.out ?_
          case gr =>
            rintro W' ⟨s0, s1⟩
            have c0 := s0.cell 0; have h0 := s1.cell 0
            have c1 := s0.cell 1; have h1 := s1.cell 1
            have c2 := s0.cell 2; have h2 := s1.cell 2
            have c3 := s0.cell 3; have h3 := s1.cell 3
            have c4 := s0.cell 4; have h4 := s1.cell 4
            have c5 := s0.cell 5; have h5 := s1.cell 5
            have c6 := s0.cell 6; have h6 := s1.cell 6
            have c7 := s0.cell 7; have h7 := s1.cell 7
            have c8 := s0.cell 8; have h8 := s1.cell 8
            have c9 := s0.cell 9; have h9 := s1.cell 9
            have c10 := s0.cell 10; have h10 := s1.cell 10
            have c11 := s0.cell 11; have h11 := s1.cell 11
            have c12 := s0.cell 12; have h12 := s1.cell 12
            go_simp
          simp only [Act.put, List.setIfInBounds_toArray, List.set_cons_zero, List.set_cons_succ]
          refine wpAnyH_ready (rs := [9]) (by kernel_rfl) (by simp) ?_
          refine AllReadyH.cons rfl (fun K hK => ?_) AllReadyH.nil
          rw [if_pos (by rfl)]
          go_simp
          have hbn := hbq.alloc hbq.size (.cells #[.int .i64 x.s.rail, .int .i64 x.s.seg, .int .i64 y.s.rail, .int .i64 y.s.seg, .int .i64 (g : Int)] 130)
          have HS := Lib.hid (HSK.out _ hbn)
          refine hK.out _ _ HS.out (fun _ => ?_)
          clear hK K
          try simp only [Act.put, List.setIfInBounds_toArray, List.set_cons_zero, List.set_cons_succ]
          refine wpAnyH_ready (rs := [10]) (by kernel_rfl) (by simp) ?_
          refine AllReadyH.cons rfl (fun K hK => ?_) AllReadyH.nil
          rw [if_pos (by rfl)]
          refine wp_app _ (.tmp 49) (.tmp 58) _ rfl w5.heap.size 130 iD _ 5 40 Tryz.underlying128 hiD hD0 hD1 hD2 rfl (by omega) (fP_len r r2) (fP_one r r2) u10 _ rfl ((HO9.out.below hbq (Nat.le_refl _)).alloc _) _ _ [(⟨i, k, g⟩ : W3)] 1 rfl (Sl.new _ _ _ _ HNV5.out) (by unfold maxLen; simp only [List.length_cons, List.length_nil]; have := HLEN.out; omega) (by simp only [List.length_cons, List.length_nil]; have := HLEN.out; omega) (by have := HB9.out.size; have := hbn.size; omega) (fun _ => .inr ⟨_, rfl⟩) ?_
          intro v2 w9 o9 gr9 at9 ne9
          have hb9 := (HB9.out.trans (hbn.mono HB9.out.size)).grown gr9 (by have := HB9.out.size; have := hbn.size; omega) (fun b hb => (HO9.out.lt b hb).1)
          have hk9 := (HKI9.out.below hbn).app gr9 at9
          have HS := Lib.hid (show Rw w9 kx 98 #[.int .i64 x.s.rail, .int .i64 x.s.seg, .int .i64 x.s.a.x, .int .i64 x.s.a.y, .int .i64 x.s.b.x, .int .i64 x.s.b.y, .int .i64 x.s.bg, .int .i64 x.s.en, .slice x.A x.s.bends.length x.c, .int .i64 (min x.s.a.x x.s.b.x), .int .i64 (min x.s.a.y x.s.b.y), .int .i64 (max x.s.a.x x.s.b.x), .int .i64 (max x.s.a.y x.s.b.y)] ∧ Rw w9 wr.heap.size 98 #[.int .i64 y.s.rail, .int .i64 y.s.seg, .int .i64 y.s.a.x, .int .i64 y.s.a.y, .int .i64 y.s.b.x, .int .i64 y.s.b.y, .int .i64 y.s.bg, .int .i64 y.s.en, .slice y.A y.s.bends.length y.c, .int .i64 (min y.s.a.x y.s.b.x), .int .i64 (min y.s.a.y y.s.b.y), .int .i64 (max y.s.a.x y.s.b.x), .int .i64 (max y.s.a.y y.s.b.y)] from ⟨(gr9.block kx (by have := HNK.out.2.2.1; have := hbn.size; omega) (fun e => HNK.out.1 e.symm)).trans HS.out.1, (gr9.block wr.heap.size (by have := HNK.out.2.2.2; have := hbn.size; omega) (fun e => HNK.out.2.1 e.symm)).trans HS.out.2⟩)
          refine hK.out _ _ HS.out (fun _ => ?_)
          clear hK K
          try simp only [Act.put, List.setIfInBounds_toArray, List.set_cons_zero, List.set_cons_succ]
          refine hTake (i := 11) (d := 10) (v := v2) rfl rfl (by kernel_rfl) (by kernel_rfl) (by kernel_rfl) (fun _ _ _ h => h) (Or.inl ⟨rfl, ?gr⟩) HS.out ?_
          case gr =>
            rintro W' ⟨s0, s1⟩
            have c0 := s0.cell 0; have h0 := s1.cell 0
            have c1 := s0.cell 1; have h1 := s1.cell 1
            have c2 := s0.cell 2; have h2 := s1.cell 2
            have c3 := s0.cell 3; have h3 := s1.cell 3
            have c4 := s0.cell 4; have h4 := s1.cell 4
            have c5 := s0.cell 5; have h5 := s1.cell 5
            have c6 := s0.cell 6; have h6 := s1.cell 6
            have c7 := s0.cell 7; have h7 := s1.cell 7
            have c8 := s0.cell 8; have h8 := s1.cell 8
            have c9 := s0.cell 9; have h9 := s1.cell 9
            have c10 := s0.cell 10; have h10 := s1.cell 10
            have c11 := s0.cell 11; have h11 := s1.cell 11
            have c12 := s0.cell 12; have h12 := s1.cell 12
            go_simp
          simp only [Act.put, List.setIfInBounds_toArray, List.set_cons_zero, List.set_cons_succ]
          refine wpAnyH_done (by kernel_rfl) ?_ _

          have HW10 := Lib.hid (And.intro o9 (And.intro hk9 hb9))
          clear o9 hk9 hb9 hbq HS HSK
          go_wp2
          go_roundw
          case rel => exact ⟨k + 1, by have := HKM.out; omega, vi (by omega), by rw [HNX.out]; exact HW10.out.1, HW10.out.2.1, HW10.out.2.2⟩
          case measure => have := HKM.out; simp [intOf] <;> omega
        · obtain rfl : k = m2 := by omega
          have hkk : ¬ (k : Int) < (k : Int) := by omega
          clear hki
          go_wp2
          go_roundw
          case rel => exact ⟨i + 1, by have := HIN.out; omega, vi (by omega), by rw [pairsL_succ]; exact HO.out, HB8.out⟩
          case measure => have := HIN.out; simp [intOf] <;> omega
    · obtain rfl : i = m := by omega
      have hii : ¬ (i : Int) < (i : Int) := by omega
      obtain ⟨Ap, cp, rfl, hp1, hp2, _⟩ := HO.out.form
      have hpl := pairsL_len F m2 i
      have hpos := Nat.mul_pos HM.out.1 HM.out.2.2.1
      have hpb := Nat.mul_le_mul hm41 HM.out.2.2.2
      obtain ⟨n, hn⟩ : ∃ n, (pairsL F i m2).length = n + 1 := ⟨(pairsL F i m2).length - 1, by omega⟩
      obtain ⟨x0, hx0⟩ : ∃ z, (pairsL F i m2)[0]? = some z := ⟨_, List.getElem?_eq_getElem (by omega)⟩
      obtain ⟨bp, op, cs0, eP, hbp, hcs0, hcs1⟩ := (HO.out.sl (fP_len r r2) rfl).at_ (i := 0) (by omega)
      subst eP
      clear hcs1 hcs0 cs0
      have HLS := Lib.hid (show ∀ wx, Below wr.heap.size wr wx → Calls Tryz.prog 72 #[.slice (some ⟨bp, op, none⟩) (n + 1) cp, .func (.func 73) #[] #[]] wx _ from fun wx hx => least_any bp op cp n r r2 (pairsL F i m2) x0 wx hn (by omega) hx0 (Nat.lt_of_lt_of_le hbp hx.size) (fun j q hq t u hu => by
        obtain ⟨hj, e⟩ := List.getElem?_eq_some_iff.1 hq
        obtain ⟨b', o', cs, eA, hbb, hcc, hc⟩ := (HO.out.sl (fP_len r r2) rfl).at_ hj
        obtain ⟨rfl, rfl⟩ : bp = b' ∧ op = o' := by simpa using eA
        rw [e] at hcc
        subst hcc
        exact (hx.cell (p := ⟨bp, op + j * 5 + t, none⟩) hbb).trans (hc t u hu)) b HBB.out (by omega))
      have HT0 := Lib.hid (show ∀ wx, Below wr.heap.size wr wx → Rw wx (w.heap.size + 1) 34 #[.int .i64 0, .int .i64 0] ∧ Rw wx (w.heap.size + 1 + 1) 34 #[.int .i64 0, .int .i64 0] from fun wx hx => by
        obtain ⟨r1, r2', r3⟩ := HR.out _ (HB5.out.trans ((HB.out.trans (hx.mono HB.out.size)).mono HB5.out.size))
        exact ⟨r2', r3⟩)
      have HLT := Lib.hid (show w.heap.size + 3 ≤ wr.heap.size from by have := HZ1.out; have := HB5.out.size; have := HB.out.size; omega)
      rw [hn]
      clear hp1 hp2 hpl hpos hpb hn hx0 hbp hb
      go_wp2_with fail
      refine (HLS.out _ (Below.refl _ _)).mono ?_
      rintro e w8 ⟨rfl, hb8⟩
      have hb9 := hb8.alloc hb8.size (.cells #[.int .i64 (r : Int), .int .i64 (b.i : Int), .int .i64 (r2 : Int), .int .i64 (b.k : Int), .int .i64 (b.g : Int)] 130)
      have q9 := Rw.new w8 #[.int .i64 (r : Int), .int .i64 (b.i : Int), .int .i64 (r2 : Int), .int .i64 (b.k : Int), .int .i64 (b.g : Int)] 130
      have hz9 : (w8.alloc (.cells #[.int .i64 (r : Int), .int .i64 (b.i : Int), .int .i64 (r2 : Int), .int .i64 (b.k : Int), .int .i64 (b.g : Int)] 130)).heap.size = w8.heap.size + 1 := by simp
      obtain ⟨W9, hW9⟩ : ∃ z, w8.alloc (.cells #[.int .i64 (r : Int), .int .i64 (b.i : Int), .int .i64 (r2 : Int), .int .i64 (b.k : Int), .int .i64 (b.g : Int)] 130) = z := ⟨_, rfl⟩
      rw [hW9] at hb9 q9 hz9
      have HB9 := Lib.hid hb9
      have HQ9 := Lib.hid q9
      have HN7 := Lib.hid (show w8.heap.size ≠ w.heap.size + 1 ∧ w8.heap.size ≠ w.heap.size + 1 + 1 from by have := HLT.out; have := hb8.size; omega)
      clear hb8 q9 hb9 hz9
      go_upto_region 14 with (fail)
      have HT := Lib.hid (show Rw W9.drew (w.heap.size + 1) 34 #[.int .i64 0, .int .i64 0] ∧ Rw W9.drew (w.heap.size + 1 + 1) 34 #[.int .i64 0, .int .i64 0] from HT0.out _ HB9.out.drew)
      have HS := Lib.hid (show Rw W9.drew w8.heap.size 130 #[.int .i64 (r : Int), .int .i64 (b.i : Int), .int .i64 (r2 : Int), .int .i64 (b.k : Int), .int .i64 (b.g : Int)] from HQ9.out)
      have hbq := (HB1.out.trans ((HB5.out.trans ((HB.out.trans (HB9.out.mono HB.out.size)).mono HB5.out.size)).mono HB1.out.size)).drew
      refine wp_region_held_drew (S := fun wx => Rw wx w8.heap.size 130 #[.int .i64 (r : Int), .int .i64 (b.i : Int), .int .i64 (r2 : Int), .int .i64 (b.k : Int), .int .i64 (b.g : Int)]) (by kernel_rfl) HS.out (fun _ => ?_)
      refine hTake (i := 0) (d := 64) (v := .pointer (some ⟨w8.heap.size, 0, none⟩)) rfl rfl (by kernel_rfl) (by kernel_rfl) (by kernel_rfl) (fun _ _ _ h => h) (Or.inl ⟨rfl, ?gr⟩) HS.out ?_
      case gr =>
        rintro W' s0
        have c0 := s0.cell 0
        have c1 := s0.cell 1
        have c2 := s0.cell 2
        have c3 := s0.cell 3
        have c4 := s0.cell 4
        go_simp
      simp only [Act.put, List.setIfInBounds_toArray, List.set_cons_zero, List.set_cons_succ]
      refine hTake (i := 1) (d := 65) (v := .agg #[.int .i64 (r : Int), .int .i64 (b.i : Int)]) rfl rfl (by kernel_rfl) (by kernel_rfl) (by kernel_rfl) (fun _ _ _ h => h) (Or.inl ⟨rfl, ?gr⟩) HS.out ?_
      case gr =>
        rintro W' s0
        have c0 := s0.cell 0
        have c1 := s0.cell 1
        have c2 := s0.cell 2
        have c3 := s0.cell 3
        have c4 := s0.cell 4
        go_simp
      simp only [Act.put, List.setIfInBounds_toArray, List.set_cons_zero, List.set_cons_succ]
      refine hTake (i := 2) (d := 66) (v := .pointer (some ⟨w8.heap.size, 2, none⟩)) rfl rfl (by kernel_rfl) (by kernel_rfl) (by kernel_rfl) (fun _ _ _ h => h) (Or.inl ⟨rfl, ?gr⟩) HS.out ?_
      case gr =>
        rintro W' s0
        have c0 := s0.cell 0
        have c1 := s0.cell 1
        have c2 := s0.cell 2
        have c3 := s0.cell 3
        have c4 := s0.cell 4
        go_simp
      simp only [Act.put, List.setIfInBounds_toArray, List.set_cons_zero, List.set_cons_succ]
      refine hTake (i := 3) (d := 67) (v := .agg #[.int .i64 (r2 : Int), .int .i64 (b.k : Int)]) rfl rfl (by kernel_rfl) (by kernel_rfl) (by kernel_rfl) (fun _ _ _ h => h) (Or.inl ⟨rfl, ?gr⟩) HS.out ?_
      case gr =>
        rintro W' s0
        have c0 := s0.cell 0
        have c1 := s0.cell 1
        have c2 := s0.cell 2
        have c3 := s0.cell 3
        have c4 := s0.cell 4
        go_simp
      simp only [Act.put, List.setIfInBounds_toArray, List.set_cons_zero, List.set_cons_succ]
      refine hTake (i := 4) (d := 68) (v := .pointer (some ⟨w8.heap.size, 4, none⟩)) rfl rfl (by kernel_rfl) (by kernel_rfl) (by kernel_rfl) (fun _ _ _ h => h) (Or.inl ⟨rfl, ?gr⟩) HS.out ?_
      case gr =>
        rintro W' s0
        have c0 := s0.cell 0
        have c1 := s0.cell 1
        have c2 := s0.cell 2
        have c3 := s0.cell 3
        have c4 := s0.cell 4
        go_simp
      simp only [Act.put, List.setIfInBounds_toArray, List.set_cons_zero, List.set_cons_succ]
      refine hTake (i := 5) (d := 69) (v := .int .i64 (b.g : Int)) rfl rfl (by kernel_rfl) (by kernel_rfl) (by kernel_rfl) (fun _ _ _ h => h) (Or.inl ⟨rfl, ?gr⟩) HS.out ?_
      case gr =>
        rintro W' s0
        have c0 := s0.cell 0
        have c1 := s0.cell 1
        have c2 := s0.cell 2
        have c3 := s0.cell 3
        have c4 := s0.cell 4
        go_simp
      simp only [Act.put, List.setIfInBounds_toArray, List.set_cons_zero, List.set_cons_succ]
      refine wpAnyH_ready (rs := [6]) (by kernel_rfl) (by simp) ?_
      refine AllReadyH.cons rfl (fun K hK => ?_) AllReadyH.nil
      rw [if_pos (by rfl)]
      refine wp_store_row 34 _ _ rfl (w.heap.size + 1) rfl #[.int .i64 (r : Int), .int .i64 (b.i : Int)] rfl 34 _ HT.out.1 (by kernel_rfl) rfl (by simp [Value.oneCell']) ?_
      have HT := Lib.hid (And.intro (HT.out.1.setRow #[.int .i64 (r : Int), .int .i64 (b.i : Int)]) (HT.out.2.setRow_far #[.int .i64 (r : Int), .int .i64 (b.i : Int)] (show w.heap.size + 1 + 1 ≠ w.heap.size + 1 by omega)))
      have HS := Lib.hid (HS.out.setRow_far #[.int .i64 (r : Int), .int .i64 (b.i : Int)] HN7.out.1)
      replace hbq := below_setRow hbq (show w.heap.size ≤ w.heap.size + 1 by omega) #[.int .i64 (r : Int), .int .i64 (b.i : Int)]
      refine hK.out _ _ HS.out (fun _ => ?_)
      clear hK K
      try simp only [Act.put, List.setIfInBounds_toArray, List.set_cons_zero, List.set_cons_succ]
      refine wpAnyH_ready (rs := [7]) (by kernel_rfl) (by simp) ?_
      refine AllReadyH.cons rfl (fun K hK => ?_) AllReadyH.nil
      rw [if_pos (by rfl)]
      refine wp_store_row 34 _ _ rfl (w.heap.size + 1 + 1) rfl #[.int .i64 (r2 : Int), .int .i64 (b.k : Int)] rfl 34 _ HT.out.2 (by kernel_rfl) rfl (by simp [Value.oneCell']) ?_
      have HT := Lib.hid (And.intro (HT.out.1.setRow_far #[.int .i64 (r2 : Int), .int .i64 (b.k : Int)] (show w.heap.size + 1 ≠ w.heap.size + 1 + 1 by omega)) (HT.out.2.setRow #[.int .i64 (r2 : Int), .int .i64 (b.k : Int)]))
      have HS := Lib.hid (HS.out.setRow_far #[.int .i64 (r2 : Int), .int .i64 (b.k : Int)] HN7.out.2)
      replace hbq := below_setRow hbq (show w.heap.size ≤ w.heap.size + 1 + 1 by omega) #[.int .i64 (r2 : Int), .int .i64 (b.k : Int)]
      refine hK.out _ _ HS.out (fun _ => ?_)
      clear hK K
      try simp only [Act.put, List.setIfInBounds_toArray, List.set_cons_zero, List.set_cons_succ]
      refine hTake (i := 8) (d := 8) (v := .int .i64 (b.g : Int)) rfl rfl (by kernel_rfl) (by kernel_rfl) (by kernel_rfl) (fun _ _ _ h => h) (Or.inl ⟨rfl, ?gr⟩) HS.out ?_
      case gr =>
        rintro W' s0
        have c0 := s0.cell 0
        have c1 := s0.cell 1
        have c2 := s0.cell 2
        have c3 := s0.cell 3
        have c4 := s0.cell 4
        go_simp
      simp only [Act.put, List.setIfInBounds_toArray, List.set_cons_zero, List.set_cons_succ]
      refine hTake (i := 9) (d := 9) (v := .int .i64 0) rfl rfl (by kernel_rfl) (by kernel_rfl) (by kernel_rfl) (fun _ _ _ h => h) (Or.inl ⟨rfl, ?gr⟩) HS.out ?_
      case gr =>
        rintro W' s0
        have c0 := s0.cell 0
        have c1 := s0.cell 1
        have c2 := s0.cell 2
        have c3 := s0.cell 3
        have c4 := s0.cell 4
        go_simp
      simp only [Act.put, List.setIfInBounds_toArray, List.set_cons_zero, List.set_cons_succ]
      refine wpAnyH_done (by kernel_rfl) ?_ _

      go_wp2
      (try simp only [Exit.inBlock, Exit.then])
      exact bodyPost_ret (res_cctt rfl _ _ _ _ _ _ _ _ _ _ _ _ rfl rfl rfl rfl HT.out.1 HT.out.2 Tryz.underlying34 rfl (by kernel_rfl) Tryz.underlying34 rfl (by kernel_rfl)) rfl ⟨rfl, hbq⟩
end Go.Proofs.YtekambdnmaompaaGreat.SW
