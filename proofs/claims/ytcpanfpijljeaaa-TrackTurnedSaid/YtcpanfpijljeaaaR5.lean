/- A round over those that come before: a move that is closed. -/
import Derived.Test.YtcpanfpijljeaaaR1
import Derived.BigQuiet
import Derived.Deep.QuietTactic
import Derived.Test.YtcpanfpijljeaaaR2
import Derived.Test.YtcpanfpijljeaaaR3
namespace Go.Proofs.Ytcpanfpijljeaaa
set_option linter.unusedVariables false
set_option linter.unusedSimpArgs false
open Go.RowKit

set_option maxRecDepth 100000 in
set_option maxHeartbeats 2000000 in
theorem in_shut {w wr : World} {g kb M S cc to : Nat} {b3 o3 c : Nat} {cl : List Bool} {z1 z2 : Int} {L : List Int} {cs0 : List C2} {r0 : List V3} {s : List C2 × List V3} {g3 c3 j b : Nat} {x1 x2 : Int}
    (u : Nat → Value) (K : Act → World → Prop) (Q : Exit → Act → World → Prop)
    (hK : ∀ a' w', InR w g kb M S cc (to : Int) (some ⟨b3, o3, none⟩) c cl z1 z2 L cs0 r0 (j + 1) a' w' → K a' w')
    (hj : j < L.length) (hLl : L.length ≤ 1600) (hbM : b < M) (hM : M ≤ 800) (q3 : wr.cell? ⟨b3, o3 + j, none⟩ = some (.int .i64 (b : Int)))
    (kc : wr.cell? ⟨kb, b, none⟩ = some (.bool true)) (hkb : kb < wr.heap.size) (hp : Pile wr (S + 1) (S + 1 + 1) vless s.2 g3 c3) (hg3 : g3 ≠ cc) (hr : CRow wr S s.1) (hbl : b < s.1.length)
    (hk : wr.heap[cc]? = some (.cells #[.int .i64 z1, .int .i64 z2] 108)) (hbe : Below S w wr) (hSw : S = w.heap.size) (hcc : S + 1 + 1 < cc) (hs2 : s.2.length ≤ 1001600)
    (f0 : wr.cell? ⟨S, b * 2, none⟩ = some (.int .i64 x1)) (f1 : wr.cell? ⟨S, b * 2 + 1, none⟩ = some (.int .i64 x2)) (ht : (L.take (j + 1)).foldl (relax cl (z1, z2)) (cs0, r0) = s) :
    Code.wp Try.prog (((Try.f56.body.map loopsIn).getD []).getD 2 .skip) (Exit.then K Q) (FRI g kb M S (S + 1 + 1) cc (to : Int) (some ⟨b3, o3, none⟩) L.length c (j : Int) u) wr := by
  have f2 := hr.fro (b * 2); have f3 := hr.fro (b * 2 + 1)
  have k0 : wr.cell? ⟨cc, 0, none⟩ = some (.int .i64 z1) := cell_of_row _ _ 0 _ _ _ hk
  have k1 : wr.cell? ⟨cc, 1, none⟩ = some (.int .i64 z2) := cell_of_row _ _ 1 _ _ _ hk
  have hcl3 : cc < wr.heap.size := (Array.getElem?_eq_some_iff.1 hk).1
  have hgb3 := hp.gl
  have hgl3 := hp.glt
  have hpl3 := hp.plt
  have hS1 : S < wr.heap.size := by omega
  have hSz : S ≤ w.heap.size := by omega
  have HP := Lib.hid hp; have HR := Lib.hid hr; have HK := Lib.hid hk; have HBE := Lib.hid hbe; have HT := Lib.hid ht
  have b0 : (0 : Int) ≤ (b : Int) := by omega
  have b1 : (b : Int) < (M : Int) := by omega
  have j0 : (0 : Int) ≤ (j : Int) := by omega
  have j1 : (j : Int) < (L.length : Int) := by omega
  have j2 : (j : Int) + 1 ≤ 1601 := by omega
  have HJ := Lib.hid (show ((j + 1 : Nat) : Int) = (j : Int) + 1 by omega)
  have HSW := Lib.hid hSw
  clear hp hr hk hbe ht hSw
  conv => arg 2; whnf
  simp only [FRI]
  go_wp2
  go_quiet (fail)
  obtain ⟨nC, rfl⟩ : ∃ n, n = nq := ⟨_, rfl⟩
  go_wp2
  exact ⟨by rw [HJ.out]; rfl, ⟨⟨g3, c3, by rw [HT.out]; exact HP.out.drewN _, hg3, by rw [HT.out]; exact HR.out⟩, HK.out, bDrewN HBE.out _⟩⟩
end Go.Proofs.Ytcpanfpijljeaaa
/- The loop over those that come before, whole. -/
namespace Go.Proofs.Ytcpanfpijljeaaa
open Go.RowKit

set_option maxRecDepth 100000 in
set_option maxHeartbeats 2000000 in
theorem in_exit {w wr : World} {g kb M S cc to : Nat} {A : Option Addr} {c : Nat} {cl : List Bool} {z1 z2 : Int} {L : List Int} {cs0 : List C2} {r0 : List V3}
    (u : Nat → Value) (K : Act → World → Prop) (Q : Exit → Act → World → Prop)
    (hQ : ∀ a' w', InR w g kb M S cc (to : Int) A c cl z1 z2 L cs0 r0 L.length a' w' → Q (.exit 4) a' w') (hst : ISt w S cl z1 z2 L cs0 r0 cc L.length wr) :
    Code.wp Try.prog (((Try.f56.body.map loopsIn).getD []).getD 2 .skip) (Exit.then K Q) (FRI g kb M S (S + 1 + 1) cc (to : Int) A L.length c (L.length : Int) u) wr := by
  have HS := Lib.hid hst
  clear hst
  conv => arg 2; whnf
  simp only [FRI]
  go_wp2
  exact ⟨rfl, HS.out⟩

set_option maxRecDepth 100000 in
set_option maxHeartbeats 2000000 in
theorem inner_loop {w W : World} {B g kb M S cc to : Nat} {A : Option Addr} {c : Nat} {cl : List Bool} {z1 z2 : Int} {L : List Int} {cs0 : List C2} {r0 : List V3}
    (u : Nat → Value) (Q : Exit → Act → World → Prop)
    (hQ : ∀ a' w', InR w g kb M S cc (to : Int) A c cl z1 z2 L cs0 r0 L.length a' w' → Q (.exit 4) a' w') (hst : ISt w S cl z1 z2 L cs0 r0 cc 0 W)
    (hA : Sl w B 1 CI A L) (hBS : B ≤ S) (hLb : ∀ z ∈ L, ∃ t : Nat, z = t ∧ t < M) (hLl : L.length ≤ 1600) (hM : M ≤ 800) (hkb : BRow w kb cl) (hcl : cl.length = M) (hcs : cs0.length = M)
    (hri : ∀ y ∈ r0, OkV M y) (hrl : r0.length ≤ 1000000) (hSw : S = w.heap.size) (hcc : S + 1 + 1 < cc) (h0 : 0 ≤ z1) (h1 : 0 ≤ z2) :
    (Code.loop (((Try.f56.body.map loopsIn).getD []).getD 2 .skip)).wp Try.prog Q (FRI g kb M S (S + 1 + 1) cc (to : Int) A L.length c 0 u) W := by
  refine wp_loop_ghost (fun n a w' => ∃ j, n + j = L.length ∧ InR w g kb M S cc (to : Int) A c cl z1 z2 L cs0 r0 j a w') L.length ⟨0, rfl, rfl, hst⟩ ?_
  rintro n a wr ⟨j, hn, ha, hI⟩
  obtain ⟨u, rfl⟩ : ∃ u, a = FRI g kb M S (S + 1 + 1) cc (to : Int) A L.length c (j : Int) u := ⟨_, ha⟩
  by_cases hlt : j < L.length
  · obtain ⟨b3, o3, rfl, g3', q3⟩ := int_at hA hlt
    obtain ⟨b, hb, hbM⟩ := hLb L[j] (List.getElem_mem hlt)
    rw [hb] at q3
    obtain ⟨⟨g3, c3, hp, hg3, hr⟩, hk, hbe⟩ := hI
    have q4 := (hbe.cell (p := ⟨b3, o3 + j, none⟩) (by simp; omega)).trans q3
    obtain ⟨n1, n2, n3⟩ := relaxes_ok (M := M) (cl := cl) (c := (z1, z2)) h0 h1 (L.take j) (cs0, r0) hcs hri fun z hz => hLb z (List.mem_of_mem_take hz)
    have hT := foldl_take (relax cl (z1, z2)) (cs0, r0) L hlt
    rw [hb] at hT
    have hl := List.length_take_le j L
    generalize (L.take j).foldl (relax cl (z1, z2)) (cs0, r0) = s at *
    have hs2 : s.2.length ≤ 1001600 := by simp only at n3; omega
    have hbl : b < s.1.length := by omega
    obtain ⟨f0, f1⟩ := hr.cell hbl
    have hbc : b < cl.length := by omega
    have kc := (hbe.cell (p := ⟨kb, b, none⟩) (by have := hkb.lt; simp; omega)).trans (hkb.cell hbc)
    have hkb' : kb < wr.heap.size := by have := hkb.lt; have := hbe.size; omega
    have HA := costAt_at hbl
    have HSH : shutAt cl (b : Int) = cl[b] := by simp [shutAt, List.getD, hbc]
    have hK : ∀ a' w', InR w g kb M S cc (to : Int) (some ⟨b3, o3, none⟩) c cl z1 z2 L cs0 r0 (j + 1) a' w' → ∃ n', n' < n ∧ ∃ j, n' + j = L.length ∧ InR w g kb M S cc (to : Int) (some ⟨b3, o3, none⟩) c cl z1 z2 L cs0 r0 j a' w' :=
      fun a' w' h => ⟨n - 1, by omega, j + 1, by omega, h⟩
    cases hcb : cl[b]
    · rw [hcb] at kc
      by_cases hd : s.1[b].1 < 0
      · have hx : relax cl (z1, z2) s (b : Int) = (s.1.set b (z1, z2), putL s.2 ⟨z1, z2, (b : Int)⟩) := by
          unfold relax; rw [HSH, hcb, HA, if_pos ⟨rfl, .inl hd⟩]; simp
        exact in_low u _ Q hK hlt hLl hbM hM q4 kc hkb' hp hg3 hr hbl hk hbe hSw hcc hs2 f0 f1 (hT.trans hx) (by simpa using hd)
      · by_cases hz : cmp4 z1 z2 s.1[b].1 s.1[b].2 < 0
        · have hx : relax cl (z1, z2) s (b : Int) = (s.1.set b (z1, z2), putL s.2 ⟨z1, z2, (b : Int)⟩) := by
            unfold relax; rw [HSH, hcb, HA, if_pos ⟨rfl, .inr (by rw [cmpC_eq]; exact hz)⟩]; simp
          exact in_less u _ Q hK hlt hLl hbM hM q4 kc hkb' hp hg3 hr hbl hk hbe hSw hcc hs2 f0 f1 (hT.trans hx) (by simpa using hd) rfl (by simpa using hz)
        · have hx : relax cl (z1, z2) s (b : Int) = s := by
            unfold relax; rw [HSH, hcb, HA, if_neg]
            rintro ⟨_, h | h⟩
            · exact hd h
            · exact hz (by rw [cmpC_eq] at h; exact h)
          exact in_not u _ Q hK hlt hLl hbM hM q4 kc hkb' hp hg3 hr hbl hk hbe hSw hcc hs2 f0 f1 (hT.trans hx) (by simpa using hd) rfl (by simpa using hz)
    · rw [hcb] at kc
      have hx : relax cl (z1, z2) s (b : Int) = s := by
        unfold relax; rw [HSH, hcb, if_neg]; rintro ⟨h, _⟩; cases h
      exact in_shut u _ Q hK hlt hLl hbM hM q4 kc hkb' hp hg3 hr hbl hk hbe hSw hcc hs2 f0 f1 (hT.trans hx)
  · have hjl := hI
    obtain rfl : j = L.length := by omega
    exact in_exit u _ Q hQ hI
theorem inner_loop' {w W : World} {B g kb M S cc to : Nat} {A : Option Addr} {c : Nat} {cl : List Bool} {z1 z2 : Int} {L : List Int} {cs0 : List C2} {r0 : List V3}
    (a : Act) (Q : Exit → Act → World → Prop) (ha : a = FRI g kb M S (S + 1 + 1) cc (to : Int) A L.length c 0 (fun i => a.tmps.getD i undef))
    (hQ : ∀ a' w', InR w g kb M S cc (to : Int) A c cl z1 z2 L cs0 r0 L.length a' w' → Q (.exit 4) a' w') (hst : ISt w S cl z1 z2 L cs0 r0 cc 0 W)
    (hA : Sl w B 1 CI A L) (hBS : B ≤ S) (hLb : ∀ z ∈ L, ∃ t : Nat, z = t ∧ t < M) (hLl : L.length ≤ 1600) (hM : M ≤ 800) (hkb : BRow w kb cl) (hcl : cl.length = M) (hcs : cs0.length = M)
    (hri : ∀ y ∈ r0, OkV M y) (hrl : r0.length ≤ 1000000) (hSw : S = w.heap.size) (hcc : S + 1 + 1 < cc) (h0 : 0 ≤ z1) (h1 : 0 ≤ z2) :
    (Code.loop (((Try.f56.body.map loopsIn).getD []).getD 2 .skip)).wp Try.prog Q a W := by
  rw [ha]
  exact inner_loop _ Q hQ hst hA hBS hLb hLl hM hkb hcl hcs hri hrl hSw hcc h0 h1
end Go.Proofs.Ytcpanfpijljeaaa
