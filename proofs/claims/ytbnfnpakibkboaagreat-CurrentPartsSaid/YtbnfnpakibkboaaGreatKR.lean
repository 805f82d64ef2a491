/- Texts C54 C55 C56 D10 C57. -/
import Derived.Test.YtbnfnpakibkboaaGreatKQ
namespace Go.Proofs.YtbnfnpakibkboaaGreat
set_option linter.unusedVariables false
set_option linter.unusedSimpArgs false
open Go.RowKit

def subF (l : List Int) (S k : Nat) : List Int := ((List.range k).filter (fun i => S.testBit (l.length - 1 - i))).map (fun i => (l[i]?).getD 0)
theorem subF_succ {l : List Int} {S k : Nat} (hk : k < l.length) : subF l S (k + 1) = subF l S k ++ (if S.testBit (l.length - 1 - k) then [l[k]] else []) := by
  unfold subF
  rw [List.range_succ, List.filter_append, List.map_append]
  congr 1
  rw [List.filter_cons]
  split <;> simp [List.getElem?_eq_getElem hk]
theorem subF_len (l : List Int) (S k : Nat) : (subF l S k).length ≤ k := by
  unfold subF; rw [List.length_map]
  refine Nat.le_trans (List.length_filter_le _ _) ?_
  rw [List.length_range]; exact Nat.le_refl _
def subB (l : List Int) (size j : Nat) : List (List Int) := (((List.range j).map (fun u => 2 ^ l.length - 1 - u)).filter (fun s => popc 11 s == size)).map (fun s => subF l s l.length)
theorem subB_succ (l : List Int) (size j : Nat) : subB l size (j + 1) = subB l size j ++ (if popc 11 (2 ^ l.length - 1 - j) == size then [subF l (2 ^ l.length - 1 - j) l.length] else []) := by
  unfold subB
  rw [List.range_succ, List.map_append, List.filter_append, List.map_append]
  congr 1
  rw [List.map_cons, List.map_nil, List.filter_cons]
  split <;> simp
theorem subB_len (l : List Int) (size j : Nat) : (subB l size j).length ≤ j := by
  unfold subB; rw [List.length_map]
  refine Nat.le_trans (List.length_filter_le _ _) ?_
  rw [List.length_map, List.length_range]; exact Nat.le_refl _
def subA (l : List Int) : Nat → List (List Int)
  | 0 => []
  | k + 1 => subA l k ++ subB l k (2 ^ l.length)
theorem subA_len (l : List Int) (k : Nat) : (subA l k).length ≤ k * 2 ^ l.length := by
  induction k with
  | zero => simp [subA]
  | succ k ih => unfold subA; rw [List.length_append, Nat.succ_mul]; have := subB_len l k (2 ^ l.length); omega
def fSc (s : Sc) : List Value := [s.v]
theorem fSc_len (x : Sc) : (fSc x).length = 1 := rfl
theorem fSc_one (x : Sc) : ∀ u ∈ fSc x, u.oneCell' = true := by simp [fSc, Sc.v, Value.oneCell']
/-- a row of rows of integers in memory -/
def RR (w : World) (base : Nat) (v : Value) (ll : List (List Int)) : Prop :=
  ∃ ss : List Sc, Own w base 40 1 fSc v ss ∧ ss.length = ll.length ∧ ∀ (i : Nat) (sc : Sc) (sl : List Int), ss[i]? = some sc → ll[i]? = some sl → Own w base 3 1 fI sc.v sl
theorem RR.below {w w' : World} {base : Nat} {v : Value} {ll : List (List Int)} (h : RR w base v ll) (hb : Below w.heap.size w w') : RR w' base v ll := by
  obtain ⟨ss, h1, h2, h3⟩ := h
  exact ⟨ss, h1.below hb (Nat.le_refl _), h2, fun i sc sl a b => (h3 i sc sl a b).below hb (Nat.le_refl _)⟩
theorem RR.nil (w : World) (base : Nat) : RR w base (.slice none 0 0) [] := ⟨[], Own.nil _ _ _ _ _, rfl, fun i sc sl h => by simp at h⟩
theorem own_grown {α β : Type} {f : α → List Value} {f' : β → List Value} {w w' : World} {base size base' size' : Nat} {e e' : TypeId} {v v' : Value} {l : List α} {l' : List β} (h : Own w base e size f v l) (h' : Own w base' e' size' f' v' l') (hne : e ≠ e') (hg : w.grownBy w' v'.ownBlock) : Own w' base e size f v l := by
  refine h.kept hg ?_
  cases hb : v.ownBlock with
  | none => exact .inl rfl
  | some k => exact .inr (fun e2 => (own_apart h h' hne hb e2.symm) rfl)
theorem RR.push {wa w7 : World} {base : Nat} {v v2 : Value} {ss : List Sc} {ll : List (List Int)} {sc : Sc} {sl : List Int} (h : Own wa base 40 1 fSc v ss) (hl : ss.length = ll.length) (hr : ∀ (i : Nat) (sc : Sc) (sl : List Int), ss[i]? = some sc → ll[i]? = some sl → Own wa base 3 1 fI sc.v sl) (hs : Own wa base 3 1 fI sc.v sl) (ow : Own w7 base 40 1 fSc v2 (ss ++ [sc])) (gr : wa.grownBy w7 v.ownBlock) : RR w7 base v2 (ll ++ [sl]) := by
  refine ⟨ss ++ [sc], ow, by simp [hl], fun i sc' sl' h1 h2 => ?_⟩
  by_cases hi : i < ss.length
  · rw [List.getElem?_append_left hi] at h1
    rw [List.getElem?_append_left (by omega)] at h2
    exact own_grown (hr i sc' sl' h1 h2) h (by decide) gr
  · have hi2 := (List.getElem?_eq_some_iff.1 h1).1
    have : i = ss.length := by rw [List.length_append] at hi2; simp at hi2; omega
    subst this
    rw [List.getElem?_append_right (Nat.le_refl _)] at h1
    rw [List.getElem?_append_right (by omega)] at h2
    rw [Nat.sub_self] at h1
    rw [hl, Nat.sub_self] at h2
    simp at h1 h2
    rw [← h1, ← h2]
    exact own_grown hs h (by decide) gr
set_option maxRecDepth 100000 in
set_option maxHeartbeats 8000000 in
theorem subsets_any (A : Option Addr) (n c : Nat) (l : List Int) (w : World) (hn : l.length = n) (hn6 : n ≤ 6) (hS : Sl w w.heap.size 1 CI A l) :
    Calls Tryz.prog 66 #[.slice A n c] w fun e w' => ∃ v, e = .returned v ∧ RR w' w.heap.size v (subA l (n + 1)) ∧ Below w.heap.size w w' := by
  obtain ⟨i3, hi3, hz3, hs3, hy3⟩ := info_parts info3
  obtain ⟨i4, hi4, hz4, hs4, hy4⟩ := info_parts info40
  obtain ⟨P, hP⟩ : ∃ P, 2 ^ n = P := ⟨_, rfl⟩
  have hP64 : P ≤ 64 := by rw [← hP]; exact Nat.pow_le_pow_right (show 0 < 2 by decide) hn6
  have hP1 : 1 ≤ P := by rw [← hP]; exact Nat.pow_pos (by decide)
  have hpi : ((2 : Int) ^ n) = (P : Int) := by rw [← hP, Int.natCast_pow]; rfl
  have hpw := (pow_wrap (n := n) (by omega)).1
  have hpw' := (pow_wrap (n := n) (by omega)).2
  rw [hpi] at hpw hpw'
  have hw1 : wrap64 ((P : Int) - 1) = (P : Int) - 1 := by unfold wrap64; omega
  have hw1' : IntKind.i64.wrap ((P : Int) - 1) = (P : Int) - 1 := by rw [IntKind.wrap_i64]; omega
  have HS := Lib.hid hS; have HN := Lib.hid hn; have HP := Lib.hid (show 2 ^ l.length = P from by rw [hn]; exact hP)
  have hnb : (n : Int) + 1 ≤ 1000 := by omega
  clear hS hn hP
  go_enter Tryz.func66, Tryz.ntmps66
  go_wp2
  go_loopw [3, 12] (fun s3 s12 wr => ∃ k : Nat, k ≤ n + 1 ∧ s12 = .int .i64 (k : Int) ∧ RR wr w.heap.size s3 (subA l k) ∧ Below w.heap.size w wr) (fun _ s12 _ => n + 1 - (intOf s12).toNat)
  case atStart => exact ⟨0, Nat.zero_le _, rfl, RR.nil _ _, Below.refl _ _⟩
  case round =>
    obtain ⟨k, hk, rfl, hrr, hbr⟩ := hrel
    by_cases hkn : k < n + 1
    · have hii : (k : Int) < (n : Int) + 1 := by omega
      have hi0 : (0 : Int) ≤ (k : Int) := by omega
      have hab : (k : Int) + 1 ≤ 1000 := by omega
      have HK := Lib.hid hkn
      have HRR := Lib.hid hrr; have HBO := Lib.hid hbr
      clear hrr hbr hkn hk
      go_wp2
      obtain ⟨Wo, hWo⟩ : ∃ y, y = wr := ⟨_, rfl⟩
      rw [← hWo] at HRR HBO ⊢
      clear hWo
      go_loopw [3, 5] (fun s3 s5 wr => ∃ j : Nat, j ≤ P ∧ s5 = .int .i64 ((P : Int) - 1 - (j : Int)) ∧ RR wr w.heap.size s3 (subA l k ++ subB l k j) ∧ Below w.heap.size w wr) (fun _ s5 _ => (intOf s5 + 1).toNat)
      case atStart => exact ⟨0, Nat.zero_le _, by simp, by simpa [subB] using HRR.out, HBO.out⟩
      case round =>
        obtain ⟨j, hj, hs5, hrr, hbr⟩ := hrel
        by_cases hjn : j < P
        · obtain ⟨S, hS⟩ : ∃ S : Nat, P - 1 - j = S := ⟨_, rfl⟩
          have hSi : (P : Int) - 1 - (j : Int) = (S : Int) := by omega
          rw [hSi] at hs5
          subst hs5
          have hS11 : S < 2048 := by omega
          have hgs : (0 : Int) ≤ (S : Int) := by omega
          have hwu : IntKind.u64.wrap (S : Int) = (S : Int) := by rw [IntKind.wrap_u64]; omega
          have hsm : (S : Int) - 1 = (P : Int) - 1 - ((j : Int) + 1) := by omega
          have HSM := Lib.hid hsm; have HSP := Lib.hid hSi; have HJ := Lib.hid hjn
          have hww : wrap64 ((S : Int) - 1) = (S : Int) - 1 := by unfold wrap64; omega
          have hww' : IntKind.i64.wrap ((S : Int) - 1) = (S : Int) - 1 := by rw [IntKind.wrap_i64]; omega
          have HSU := Lib.hid (show subB l k (j + 1) = subB l k j ++ (if popc 11 S == k then [subF l S l.length] else []) from by rw [subB_succ, HP.out, hS])
          have HON := Lib.hid (ones_any S hS11 wr)
          obtain ⟨ss, hss, hsl, hrows⟩ := hrr
          obtain ⟨A6, c6, rfl, hl6, hm6, -⟩ := hss.form
          have hll : ss.length ≤ 1000 := by
            rw [hsl, List.length_append]
            have h1 := subA_len l k; have h2 := subB_len l k j
            rw [HP.out] at h1
            have h3 : k * P ≤ 6 * 64 := Nat.mul_le_mul (by have := HK.out; omega) hP64
            omega
          have HRR2 := Lib.hid (show RR wr w.heap.size (.slice A6 ss.length c6) (subA l k ++ subB l k j) from ⟨ss, hss, hsl, hrows⟩)
          have HSS := Lib.hid hss; have HSL := Lib.hid hsl; have HROWS := Lib.hid hrows; have HBR := Lib.hid hbr; have HS11 := Lib.hid hS11; have HLL := Lib.hid hll
          generalize hn6' : ss.length = n6 at *
          have HN6 := Lib.hid hn6'
          obtain ⟨pc, hpc⟩ : ∃ p, popc 11 S = p := ⟨_, rfl⟩
          rw [hpc] at HON HSU
          clear hss hsl hrows hl6 hm6 hll hn6' hbr hj hjn hS hSi hsm hpc hS11
          go_wp2_with fail
          (with_reducible refine (HON.out).mono ?_)
          rintro e w3 ⟨rfl, rfl⟩
          by_cases hpk : pc = k
          · have HSU2 := Lib.hid (show subB l k (j + 1) = subB l k j ++ [subF l S l.length] from by rw [HSU.out, if_pos (by simp [hpk])])
            have HZB := Lib.hid HBR.out.size
            subst hpk
            go_wp2
            obtain ⟨Wb, hWb⟩ : ∃ y, y = wr := ⟨_, rfl⟩
            rw [← hWb] at HRR2 HBR HSS HROWS HZB ⊢
            clear hWb
            go_loopw [6, 30] (fun s6 s30 wr => ∃ i : Nat, i ≤ n ∧ s30 = .int .i64 (i : Int) ∧ Own wr Wb.heap.size 3 1 fI s6 (subF l S i) ∧ Below Wb.heap.size Wb wr) (fun _ s30 _ => n - (intOf s30).toNat)
            case atStart => exact ⟨0, Nat.zero_le _, rfl, Own.nil _ _ _ _ _, Below.refl _ _⟩
            case round =>
              obtain ⟨i, hi, rfl, ho, hbi⟩ := hrel
              obtain ⟨A5, c5, rfl, hl5, hm5, -⟩ := ho.form
              have hfl := subF_len l S i
              by_cases hin : i < n
              · generalize hn5 : (subF l S i).length = n5 at *
                have hi1 : (i : Int) < (n : Int) := by omega
                have hi2 : (0 : Int) ≤ (i : Int) := by omega
                have hi3' : (i : Int) + 1 ≤ 1000 := by omega
                have hil : i < l.length := by have := HN.out; omega
                obtain ⟨b, o, rfl, gb, d0⟩ := int_at (HS.out.below (HBR.out.trans (hbi.mono HBR.out.size))) hil
                obtain ⟨y, hy⟩ : ∃ y, l[i] = y := ⟨_, rfl⟩
                rw [hy] at d0
                have hsh0 := shr_bits (n - 1 - i) (by omega) S HS11.out
                have hqi : (n : Int) - 1 - (i : Int) = ((n - 1 - i : Nat) : Int) := by omega
                have HTB := Lib.hid (show subF l S (i + 1) = subF l S i ++ (if S.testBit (n - 1 - i) then [y] else []) from by rw [subF_succ hil, HN.out, hy])
                obtain ⟨q, hq⟩ : ∃ q : Nat, n - 1 - i = q := ⟨_, rfl⟩
                rw [hq] at hsh0 hqi HTB
                have hsh : bits BinOp.and .i64 ((S : Int) / 2 ^ q) 1 = (if S.testBit q = true then 1 else 0) := by rw [Int.natCast_pow] at hsh0; exact hsh0
                have hmq : min q 64 = q := by omega
                have hw2 : wrap64 ((n : Int) - 1) = (n : Int) - 1 := by unfold wrap64; omega
                have hw2' : IntKind.i64.wrap ((n : Int) - 1) = (n : Int) - 1 := by rw [IntKind.wrap_i64]; omega
                have hw3 : wrap64 ((n : Int) - 1 - (i : Int)) = (q : Int) := by rw [hqi]; unfold wrap64; omega
                have hw3' : IntKind.i64.wrap ((n : Int) - 1 - (i : Int)) = (q : Int) := by rw [hqi, IntKind.wrap_i64]; omega
                have HI := Lib.hid hin; have HBI := Lib.hid hbi; have HO := Lib.hid ho; have HFL := Lib.hid hfl; have HN5 := Lib.hid hn5
                have HZI := Lib.hid hbi.size
                clear hi hin hil hbi ho hl5 hm5 hfl hn5 hy hqi hsh0 hq gb
                obtain ⟨tb, htb⟩ : ∃ b, S.testBit q = b := ⟨_, rfl⟩
                rw [htb] at hsh HTB
                clear htb
                cases tb with
                | false =>
                  have HT2 := Lib.hid (show subF l S (i + 1) = subF l S i from by rw [HTB.out]; simp)
                  rw [if_neg (by simp)] at hsh
                  go_wp2
                  go_roundw
                  case rel => exact ⟨i + 1, by have := HI.out; omega, by simp, by rw [HT2.out]; exact HO.out, HBI.out⟩
                  case measure => exact round_less HI.out
                | true =>
                  have HT2 := Lib.hid (show subF l S (i + 1) = subF l S i ++ [y] from by rw [HTB.out]; simp)
                  rw [if_pos rfl] at hsh
                  go_wp2_with (at_builtin; go_must (refine wpList_app _ rfl (.tmp 44) (.tmp 46) _ rfl Wb.heap.size 3 i3 _ 1 8 Tryz.underlying40 hi3 hz3 hs3 hy3 rfl (by omega) fI_len fI_one (.slice A5 n5 c5) (subF l S i) rfl (HO.out.alloc _) _ _ [y] 1 rfl (Sl.new _ _ y _ rfl) (by have := HFL.out; have := HN5.out; unfold maxLen; simp only [List.length_cons, List.length_nil]; omega) (by have := HFL.out; have := HN5.out; simp only [List.length_cons, List.length_nil]; omega) (by have := HZI.out; simp; omega) (fun _ => .inr ⟨_, rfl⟩) ?_)
                               intro v2 w7 ow2 gr2 at2 ne2
                               go_must (have HO7 := Lib.hid ow2)
                               go_must (have HB7 := Lib.hid (bGrown (HBI.out.trans (((Below.refl wr.heap.size wr).alloc (Nat.le_refl _) (.cells #[.int .i64 y] 3)).mono HBI.out.size)) gr2 (fun j e => (HO.out.lt j e).1) (by have := HZI.out; simp; omega)))
                               clear ow2 gr2 at2 ne2)
                  go_roundw
                  case rel => exact ⟨i + 1, by have := HI.out; omega, by simp, by rw [HT2.out]; exact HO7.out, HB7.out⟩
                  case measure => exact round_less HI.out
              · have hi1 : ¬ (i : Int) < (n : Int) := by omega
                have hie : i = l.length := by have := HN.out; omega
                subst hie
                obtain ⟨m, hm⟩ : ∃ m, (subF l S l.length).length = m := ⟨_, rfl⟩
                rw [hm] at ho ⊢
                obtain ⟨sl, hsl⟩ : ∃ s, subF l S l.length = s := ⟨_, rfl⟩
                rw [hsl] at hm ho hfl
                have HFS := Lib.hid hsl
                have hba := (Below.refl wr.heap.size wr).alloc (Nat.le_refl _) (.cells #[.slice A5 m c5] 40)
                have HOS := Lib.hid ((ho.lower (base' := w.heap.size) HZB.out).below hba (Nat.le_refl _))
                have hbb := hbi.trans (hba.mono hbi.size)
                have HBB := Lib.hid (HBR.out.trans (hbb.mono HBR.out.size))
                have HSSa := Lib.hid (HSS.out.below hbb (Nat.le_refl _)); have HROa := Lib.hid (show ∀ (i : Nat) (sc : Sc) (sl : List Int), ss[i]? = some sc → (subA l pc ++ subB l pc j)[i]? = some sl → Own (wr.alloc (.cells #[.slice A5 m c5] 40)) w.heap.size 3 1 fI sc.v sl from fun i sc sl h1 h2 => (HROWS.out i sc sl h1 h2).below hbb (Nat.le_refl _))
                have HZA := Lib.hid (HBB.out.size)
                clear hi hin ho hbi hl5 hm5 hfl hsl hm hba hbb hi1
                have hi1 : ¬ (l.length : Int) < (n : Int) := by have := HN.out; omega
                go_wp2_with (at_builtin; go_must (refine wpList_app _ rfl (.tmp 49) (.tmp 51) _ rfl w.heap.size 40 i4 _ 1 24 Tryz.underlying31 hi4 hz4 hs4 hy4 rfl (by omega) fSc_len fSc_one (.slice A6 n6 c6) ss rfl HSSa.out _ _ [(⟨A5, m, c5⟩ : Sc)] 1 rfl (Sl.new _ _ (⟨A5, m, c5⟩ : Sc) _ rfl) (by have := HLL.out; have := HN6.out; unfold maxLen; simp only [List.length_cons, List.length_nil]; omega) (by have := HLL.out; have := HN6.out; simp only [List.length_cons, List.length_nil]; omega) HZA.out (fun _ => .inr ⟨_, rfl⟩) ?_)
                             intro v2 w7 ow2 gr2 at2 ne2
                             go_must (have HR7 := Lib.hid (RR.push HSSa.out (by rw [HN6.out]; exact HSL.out) HROa.out (sc := ⟨A5, m, c5⟩) HOS.out ow2 gr2))
                             go_must (have HB7 := Lib.hid (bGrown HBB.out gr2 (fun j e => (HSSa.out.lt j e).1) HZA.out))
                             clear ow2 gr2 at2 ne2)
                refine ⟨⟨j + 1, by have := HJ.out; omega, by simp only [HSM.out]; simp, by rw [HSU2.out, HFS.out, ← List.append_assoc]; exact HR7.out, HB7.out⟩, ?_⟩
                show ((S : Int) - 1 + 1).toNat < ((S : Int) + 1).toNat
                omega
          · have HSU2 := Lib.hid (show subB l k (j + 1) = subB l k j from by rw [HSU.out, if_neg (by simp [hpk])]; simp)
            have hpi : ((pc : Int) == (k : Int)) = false := by simp; omega
            go_wp2
            refine ⟨⟨j + 1, by have := HJ.out; omega, by simp only [HSM.out]; simp, by rw [HSU2.out]; exact HRR2.out, HBR.out⟩, ?_⟩
            show ((S : Int) - 1 + 1).toNat < ((S : Int) + 1).toNat
            omega
        · have hje : j = P := by omega
          subst hje
          have hneg : ¬ (0 : Int) ≤ (j : Int) - 1 - (j : Int) := by omega
          have hng : (j : Int) - 1 - (j : Int) = -1 := by omega
          rw [hng] at hs5
          subst hs5
          have HRE := Lib.hid (show RR wr w.heap.size _ (subA l (k + 1)) from by unfold subA; rw [HP.out]; exact hrr)
          have HBE := Lib.hid hbr
          clear hrr hbr hjn hj hneg hng
          go_wp2
          refine ⟨⟨k + 1, by have := HK.out; omega, by simp, HRE.out, HBE.out⟩, ?_⟩
          exact round_less HK.out
    · have hii : ¬ (k : Int) < (n : Int) + 1 := by omega
      have hke : k = n + 1 := by omega
      subst hke
      have HRE := Lib.hid hrr; have HBE := Lib.hid hbr
      clear hrr hbr hkn hk
      go_wp2
      go_ret
      exact ⟨_, rfl, HRE.out, HBE.out⟩
end Go.Proofs.YtbnfnpakibkboaaGreat

namespace Go.Proofs.YtbnfnpakibkboaaGreat
set_option linter.unusedVariables false
set_option linter.unusedSimpArgs false
open Go.RowKit

def setL (sw : List Bool) (plan : List Int) : List Bool := plan.foldl (fun s i => s.set i.toNat true) sw
theorem setL_len (sw : List Bool) (plan : List Int) : (setL sw plan).length = sw.length := by
  unfold setL
  induction plan generalizing sw with
  | nil => rfl
  | cons a l ih => rw [List.foldl_cons, ih, List.length_set]
theorem setL_succ {sw : List Bool} {plan : List Int} {k : Nat} (hk : k < plan.length) : setL sw (plan.take (k + 1)) = (setL sw (plan.take k)).set plan[k].toNat true := by
  unfold setL; rw [List.take_succ_eq_append_getElem hk, List.foldl_append]; rfl
def zOf2 (g : Gv) (s : Sv) (ls : List Lv) (plan : List Int) : Zs := ⟨g.nodes.toNat, g, setL s.wires plan, ls⟩
/-- whether nothing is cut off with the wires of a plan on -/
def relB (g : Gv) (s : Sv) (ls : List Lv) (plan : List Int) : Bool := smallP (zOf2 g s ls plan).ps && ((zOf2 g s ls plan).next s.feeds (List.replicate ls.length true)).isNone
theorem okB_pre2 {g : Gv} {s : Sv} {ls : List Lv} (h : okB g s ls = true) (plan : List Int) : (zOf2 g s ls plan).Pre := by
  obtain ⟨a1, a2, a3, a4, a5, a6, a7, a8, a9⟩ := okB_pre h
  exact ⟨a1, a2, a3, a4, a5, a6, a7, by show (setL s.wires plan).length = _; rw [setL_len]; exact a8, a9⟩
set_option maxRecDepth 100000 in
set_option maxHeartbeats 8000000 in
theorem relieves_any (Aw Af As At Al Ap : Option Addr) (nw nf ns nt nl np cw cf cs ct cl cp : Nat) (g : Gv) (s : Sv) (ls : List Lv) (plan : List Int) (w : World) (hG : GAt w w.heap.size Aw nw Af nf g) (hS : SAt w w.heap.size As ns At nt s) (hll : ls.length = nl) (hlm : nl ≤ 100000) (hL : Sl w w.heap.size 3 CL Al ls)
    (hok : okB g s ls = true) (hpl : plan.length = np) (hpn : np ≤ 1000) (hP : Sl w w.heap.size 1 CI Ap plan) (hpi : ∀ i ∈ plan, 0 ≤ i ∧ i < nt) :
    Calls Tryz.prog 67 #[.agg #[.int .i64 g.nodes, .slice Aw nw cw, .slice Af nf cf, .int .i64 g.least], .agg #[.slice As ns cs, .slice At nt ct], .slice Al nl cl, .slice Ap np cp] w fun e w' => e = .returned (.bool (relB g s ls plan)) ∧ Below w.heap.size w w' := by
  have hb1 := ((Below.refl w.heap.size w).alloc (Nat.le_refl _) (.cells #[.int .i64 g.nodes, .slice Aw nw cw, .slice Af nf cf, .int .i64 g.least] 25)).alloc (by simp) (.cells #[.slice As ns cs, .slice At nt ct] 28)
  obtain ⟨q1, q2⟩ := rows2 w #[.int .i64 g.nodes, .slice Aw nw cw, .slice Af nf cf, .int .i64 g.least] #[.slice As ns cs, .slice At nt ct] 25 28
  have hz1 : ((w.alloc (.cells #[.int .i64 g.nodes, .slice Aw nw cw, .slice Af nf cf, .int .i64 g.least] 25)).alloc (.cells #[.slice As ns cs, .slice At nt ct] 28)).heap.size = w.heap.size + 2 := by simp
  have e1 := q2.cell
  obtain ⟨W1, hW1⟩ : ∃ y, (w.alloc (.cells #[.int .i64 g.nodes, .slice Aw nw cw, .slice Af nf cf, .int .i64 g.least] 25)).alloc (.cells #[.slice As ns cs, .slice At nt ct] 28) = y := ⟨_, rfl⟩
  rw [hW1] at hb1 q1 q2 hz1 e1
  have HB1 := Lib.hid hb1; have HQ1 := Lib.hid q1; have HQ2 := Lib.hid q2; have HZ1 := Lib.hid hz1
  have HCL := Lib.hid (clone_any At nt ct s.wires W1 hS.wl (by have := hS.wm; omega) ((hS.ws.below hb1).more (fun _ _ h => h) hb1.size))
  have HG := Lib.hid hG; have HS := Lib.hid hS; have HLL := Lib.hid hll; have HLM := Lib.hid hlm; have HL := Lib.hid hL; have HOK := Lib.hid hok; have HPL := Lib.hid hpl; have HP := Lib.hid hP; have HPI := Lib.hid hpi; have HWL := Lib.hid hS.wl
  clear hG hS hll hlm hL hok hpl hP hpi hb1 q1 q2 hz1
  obtain ⟨i6, hi6, hz6, hs6, hy6⟩ := info_parts info92
  go_enter Tryz.func67, Tryz.ntmps67
  go_wp2_with fail
  (with_reducible refine (HCL.out).mono ?_)
  rintro e w2 ⟨A2, c2, rfl, ho2, hb2⟩
  have HO2 := Lib.hid (show Own w2 W1.heap.size 4 1 fB (.slice A2 nt c2) s.wires from ho2)
  have HB2 := Lib.hid (show Below W1.heap.size W1 w2 from hb2)
  clear ho2 hb2 e1
  go_wp2
  go_loopw [21] (fun s21 wr => ∃ k : Nat, k ≤ np ∧ s21 = .int .i64 (k : Int) ∧ Own wr W1.heap.size 4 1 fB (.slice A2 nt c2) (setL s.wires (plan.take k)) ∧ Below W1.heap.size W1 wr) (fun s21 _ => np - (intOf s21).toNat)
  case atStart => exact ⟨0, Nat.zero_le _, rfl, HO2.out, HB2.out⟩
  case round =>
    obtain ⟨k, hk, rfl, ho, hbr⟩ := hrel
    have HO := Lib.hid ho; have HBR := Lib.hid hbr
    by_cases hkn : k < np
    · have hii : (k : Int) < (np : Int) := by omega
      have hi0 : (0 : Int) ≤ (k : Int) := by omega
      have hab : (k : Int) + 1 ≤ 1000 := by omega
      have hkl : k < plan.length := by have := HPL.out; omega
      obtain ⟨b, o, rfl, gb, d0⟩ := int_at (HP.out.below (HB1.out.trans (hbr.mono HB1.out.size))) hkl
      have hpi := HPI.out _ (List.getElem_mem hkl)
      obtain ⟨x, hx⟩ : ∃ x : Nat, plan[k] = (x : Int) := ⟨plan[k].toNat, by omega⟩
      have HTK := Lib.hid (show setL s.wires (plan.take (k + 1)) = (setL s.wires (plan.take k)).set x true from by rw [setL_succ hkl, hx]; rfl)
      rw [hx] at d0 hpi
      have hxn : x < nt := by omega
      have hlen : (setL s.wires (plan.take k)).length = nt := by rw [setL_len]; exact HWL.out
      obtain ⟨gg, cap, hv, hcap, _⟩ := own_some ho (by
        intro e; injection e with _ e2 _; omega)
      injection hv with hv1 hv2 hv3
      subst hv1
      have hx0 : (0 : Int) ≤ (x : Int) := by omega
      have hx1 : (x : Int) < (nt : Int) := by omega
      have hob : (Value.slice (some ⟨gg, 0, none⟩) nt c2).ownBlock = some gg := rfl
      obtain ⟨cs5, hcs⟩ := own_type ho hob
      obtain ⟨b', o', e1, _, cc⟩ := bool_at (Own.sl (f := fB) (size := 1) (fun _ => rfl) ho (show Value.slice (some ⟨gg, 0, none⟩) nt c2 = .slice (some ⟨gg, 0, none⟩) (setL s.wires (plan.take k)).length c2 from by rw [hlen])) (show x < (setL s.wires (plan.take k)).length by omega)
      injection e1 with e1; injection e1 with e1 e2; subst e1; subst e2
      rw [Nat.zero_add] at cc
      have fz := (show Rw wr gg 4 cs5 from hcs).frozen x
      have HON := Lib.hid (show Own (wr.setCell ⟨gg, x, none⟩ (.bool true)) W1.heap.size 4 1 fB (.slice (some ⟨gg, 0, none⟩) nt c2) (setL s.wires (plan.take (k + 1))) from by rw [HTK.out]; exact own_setB hlen ho x true)
      have HBN := Lib.hid (hbr.setCell (p := ⟨gg, x, none⟩) (ho.lt gg rfl).1 (.bool true))
      have HKN := Lib.hid hkn
      generalize (setL s.wires (List.take k plan))[x] = ub at cc
      clear hkn hk hkl hpi hx hxn hlen hv2 hv3 hcap hob hcs ho hbr gb
      go_wp2
      refine ⟨⟨k + 1, by have := HKN.out; omega, by simp, HON.out, HBN.out⟩, ?_⟩
      exact round_less HKN.out
    · have hii : ¬ (k : Int) < (np : Int) := by omega
      have hke : k = np := by omega
      have htk : plan.take k = plan := List.take_of_length_le (by have := HPL.out; omega)
      rw [htk] at ho
      have hbw := HB1.out.trans (hbr.mono HB1.out.size)
      have hlen : (setL s.wires plan).length = nt := by rw [setL_len]; exact HWL.out
      have hst := stateB_at (okB_at HOK.out).2.1
      have hgl := HG.out.fl; have hgw := HG.out.wl
      have hns : ns = nf := by have := HS.out.fl; omega
      have hnt : nt = nw := by have := HS.out.wl; omega
      have hgn := (gridB_at (okB_at HOK.out).1).2.2.1
      have hbg := begin_any w.heap.size Aw Af As A2 Al nw nf nl cw cf cs c2 cl (zOf2 g s ls plan) s.feeds wr hbw.size (okB_pre2 HOK.out plan) (HG.out.below hbw) (by omega) ((HS.out.fs.below hbw).more (fun _ _ h => h) hbw.size) (by rw [← hnt]; exact hlen) (Own.sl (f := fB) (size := 1) (fun _ => rfl) ho (show Value.slice A2 nt c2 = .slice A2 (setL s.wires plan).length c2 from by rw [hlen])) HLL.out (HL.out.below hbw)
      rw [show (((zOf2 g s ls plan).N : Nat) : Int) = g.nodes from hgn.symm] at hbg
      have HBG := Lib.hid (show Calls Tryz.prog 75 #[.agg #[.int .i64 g.nodes, .slice Aw nw cw, .slice Af nf cf, .int .i64 g.least], .agg #[.slice As ns cs, .slice A2 nt c2], .slice Al nl cl] wr fun e w' => BgPost w.heap.size (zOf2 g s ls plan) s.feeds wr e w' from by rw [hns, hnt]; exact hbg)
      have q1 := (HQ1.out.below hbr (by have := HZ1.out; omega)).cell
      have q2 := (HQ2.out.below hbr (by have := HZ1.out; omega)).cell
      have HBW := Lib.hid hbw
      clear hkn hk hke htk ho hbr hbw hlen hst hgl hgw hns hnt hgn hbg
      go_wp2_with fail
      (with_reducible refine (HBG.out).mono ?_)
      rintro e w5 hp
      clear q1 q2
      rcases hp with ⟨hs, rfl, hb5⟩ | ⟨hs, sb, x, C, V, Km, xs, rfl, hA, hb5⟩
      · have HR := Lib.hid (show relB g s ls plan = false from by unfold relB; rw [hs]; rfl)
        have HBE := Lib.hid (HBW.out.trans (hb5.mono HBW.out.size))
        clear hs hb5
        go_wp2
        go_ret
        exact ⟨by rw [HR.out]; rfl, HBE.out⟩
      · have hok := (okB_pre2 HOK.out plan).ok hs
        have HN := Lib.hid (hA.nextC hok)
        obtain ⟨o, hoo⟩ : ∃ o, (zOf2 g s ls plan).next s.feeds (List.replicate ls.length true) = o := ⟨_, rfl⟩
        have hoo' : (zOf2 g s ls plan).next s.feeds (List.replicate (zOf2 g s ls plan).ls.length true) = o := hoo
        rw [hoo'] at HN
        have HR := Lib.hid (show relB g s ls plan = o.isNone from by unfold relB; rw [hs, hoo]; rfl)
        have HBE := Lib.hid (HBW.out.trans (hb5.mono HBW.out.size))
        obtain ⟨v0, v1, v2, v3, hca⟩ := cutA_ints o
        have HCA := Lib.hid hca
        clear hs hb5 hA hok hoo hoo' hca
        go_wp2_with fail
        (with_reducible refine (HN.out).mono ?_)
        rintro e w6 ⟨rfl, hb6⟩
        rw [HCA.out]
        have q0 := Rw.new w6 #[.int .i64 0, .int .i64 0, .int .i64 0, .int .i64 0] 92
        have m0 := q0.cell; have f0 := q0.frozen
        have HBE2 := Lib.hid ((HBE.out.trans (hb6.mono HBE.out.size)).alloc (Nat.le_trans HBE.out.size hb6.size) (.cells #[.int .i64 v0, .int .i64 v1, .int .i64 v2, .int .i64 v3] 92))
        have HIS := Lib.hid (show (!o.isSome) = relB g s ls plan from by rw [HR.out]; cases o <;> rfl)
        obtain ⟨os, hos⟩ : ∃ b, o.isSome = b := ⟨_, rfl⟩
        rw [hos] at HIS ⊢
        clear hb6 q0 hos
        cases os with
        | false =>
          go_wp2
          go_ret
          exact ⟨by rw [← HIS.out]; rfl, HBE2.out⟩
        | true =>
          go_wp2
          go_ret
          exact ⟨by rw [← HIS.out]; rfl, HBE2.out⟩
end Go.Proofs.YtbnfnpakibkboaaGreat

namespace Go.Proofs.YtbnfnpakibkboaaGreat
set_option linter.unusedVariables false
set_option linter.unusedSimpArgs false
open Go.RowKit

/-- the wires that are off -/
def offL (sw : List Bool) (k : Nat) : List Int := ((List.range k).filter (fun i => !((sw[i]?).getD true))).map (fun i : Nat => (i : Int))
theorem offL_succ {sw : List Bool} {k : Nat} (hk : k < sw.length) : offL sw (k + 1) = offL sw k ++ (if sw[k] then [] else [(k : Int)]) := by
  unfold offL
  rw [List.range_succ, List.filter_append, List.map_append]
  congr 1
  rw [List.filter_cons, List.getElem?_eq_getElem hk]
  cases h : sw[k] <;> simp [h]
theorem offL_len (sw : List Bool) (k : Nat) : (offL sw k).length ≤ k := by
  unfold offL; rw [List.length_map]
  refine Nat.le_trans (List.length_filter_le _ _) ?_
  rw [List.length_range]; exact Nat.le_refl _
theorem offL_mem {sw : List Bool} {k : Nat} {x : Int} (hx : x ∈ offL sw k) : 0 ≤ x ∧ x < k := by
  unfold offL at hx
  obtain ⟨i, hi, rfl⟩ := List.mem_map.1 hx
  have := List.mem_range.1 (List.mem_filter.1 hi).1
  omega
theorem subF_mem {l : List Int} {S : Nat} {x : Int} (hx : x ∈ subF l S l.length) : x ∈ l := by
  unfold subF at hx
  obtain ⟨i, hi, rfl⟩ := List.mem_map.1 hx
  have := List.mem_range.1 (List.mem_filter.1 hi).1
  rw [List.getElem?_eq_getElem this]
  exact List.getElem_mem this
theorem subA_mem {l : List Int} {k : Nat} {p : List Int} (hp : p ∈ subA l k) : (∀ x ∈ p, x ∈ l) ∧ p.length ≤ l.length := by
  induction k with
  | zero => simp [subA] at hp
  | succ k ih =>
    unfold subA at hp
    rcases List.mem_append.1 hp with h | h
    · exact ih h
    · unfold subB at h
      obtain ⟨S, _, rfl⟩ := List.mem_map.1 h
      exact ⟨fun x hx => subF_mem hx, subF_len _ _ _⟩
/-- the best plan of relief, as the program finds it -/
def rlfB (g : Gv) (s : Sv) (ls : List Lv) : Option (List Int) := (subA (offL s.wires s.wires.length) ((offL s.wires s.wires.length).length + 1)).find? (relB g s ls)
def RlfPost (g : Gv) (s : Sv) (ls : List Lv) (w : World) (e : Ending) (w' : World) : Prop :=
  Below w.heap.size w w' ∧ ((okB g s ls = false ∧ e = .returned (.tuple #[.slice none 0 0, .int .i64 2])) ∨ (okB g s ls = true ∧ 6 < (offL s.wires s.wires.length).length ∧ e = .returned (.tuple #[.slice none 0 0, .int .i64 2])) ∨
    (okB g s ls = true ∧ (offL s.wires s.wires.length).length ≤ 6 ∧ rlfB g s ls = none ∧ e = .returned (.tuple #[.slice none 0 0, .int .i64 4])) ∨
    (okB g s ls = true ∧ (offL s.wires s.wires.length).length ≤ 6 ∧ ∃ (p : List Int) (A : Option Addr) (c : Nat), rlfB g s ls = some p ∧ e = .returned (.tuple #[.slice A p.length c, .int .i64 0]) ∧ Own w' w.heap.size 3 1 fI (.slice A p.length c) p))
set_option maxRecDepth 100000 in
set_option maxHeartbeats 8000000 in
theorem Relief_any (Aw Af As At Al : Option Addr) (nw nf ns nt nl cw cf cs ct cl : Nat) (g : Gv) (s : Sv) (ls : List Lv) (w : World) (hG : GAt w w.heap.size Aw nw Af nf g) (hS : SAt w w.heap.size As ns At nt s) (hll : ls.length = nl) (hlm : nl ≤ 100000) (hL : Sl w w.heap.size 3 CL Al ls) :
    Calls Tryz.prog 43 #[.agg #[.int .i64 g.nodes, .slice Aw nw cw, .slice Af nf cf, .int .i64 g.least], .agg #[.slice As ns cs, .slice At nt ct], .slice Al nl cl] w fun e w' => RlfPost g s ls w e w' := by
  have hb1 := ((Below.refl w.heap.size w).alloc (Nat.le_refl _) (.cells #[.int .i64 g.nodes, .slice Aw nw cw, .slice Af nf cf, .int .i64 g.least] 25)).alloc (by simp) (.cells #[.slice As ns cs, .slice At nt ct] 28)
  obtain ⟨q1, q2⟩ := rows2 w #[.int .i64 g.nodes, .slice Aw nw cw, .slice Af nf cf, .int .i64 g.least] #[.slice As ns cs, .slice At nt ct] 25 28
  have hz1 : ((w.alloc (.cells #[.int .i64 g.nodes, .slice Aw nw cw, .slice Af nf cf, .int .i64 g.least] 25)).alloc (.cells #[.slice As ns cs, .slice At nt ct] 28)).heap.size = w.heap.size + 2 := by simp
  have e0 := q1.cell; have e1 := q2.cell
  obtain ⟨W1, hW1⟩ : ∃ y, (w.alloc (.cells #[.int .i64 g.nodes, .slice Aw nw cw, .slice Af nf cf, .int .i64 g.least] 25)).alloc (.cells #[.slice As ns cs, .slice At nt ct] 28) = y := ⟨_, rfl⟩
  rw [hW1] at hb1 q1 q2 hz1 e0 e1
  have HA := Lib.hid (show ∀ wx, Below W1.heap.size W1 wx → Rw wx w.heap.size 25 #[.int .i64 g.nodes, .slice Aw nw cw, .slice Af nf cf, .int .i64 g.least] ∧ Rw wx (w.heap.size + 1) 28 #[.slice As ns cs, .slice At nt ct] ∧ GAt wx wx.heap.size Aw nw Af nf g ∧ SAt wx wx.heap.size As ns At nt s ∧ Sl wx wx.heap.size 3 CL Al ls ∧ Below w.heap.size w wx from fun wx hb => by
    have hx := hb1.trans (hb.mono hb1.size)
    exact ⟨q1.below hb (by omega), q2.below hb (by omega), (hG.below hx).more hx.size, (hS.below hx).more hx.size, (hL.below hx).more (fun _ _ h => h) hx.size, hx⟩)
  have h1 := HA.out W1 (Below.refl _ _)
  have HG1 := Lib.hid (gridRight_any Aw Af nw nf cw cf g W1 h1.2.2.1)
  have HLL := Lib.hid hll; have HLM := Lib.hid hlm; have HWE := Lib.hid hS.wl; have HWM := Lib.hid hS.wm
  have HSW := Lib.hid hS.ws
  obtain ⟨i3, hi3, hz3, hs3, hy3⟩ := info_parts info3
  clear hb1 q1 q2 hz1 hG hS hL hll hlm h1
  obtain ⟨bg, hbg⟩ : ∃ b, gridB g = b := ⟨_, rfl⟩
  rw [hbg] at HG1
  have HBG := Lib.hid hbg
  clear hbg
  go_enter Tryz.func43, Tryz.ntmps43
  go_wp2_with fail
  (with_reducible refine (HG1.out).mono ?_)
  rintro e w2 ⟨rfl, hb2⟩
  clear e0 e1
  obtain ⟨q1, q2, hG2, hS2, hL2, hbw2⟩ := HA.out w2 hb2
  have e0 := q1.cell; have e1 := q2.cell
  have HB2 := Lib.hid hb2; have HBW2 := Lib.hid hbw2
  cases bg with
  | false =>
    clear hb2 q1 q2 hG2 hS2 hL2 hbw2
    go_wp2
    go_ret2
    exact ⟨HBW2.out, .inl ⟨by unfold okB; rw [HBG.out]; rfl, rfl⟩⟩
  | true =>
    obtain ⟨bs, hbs⟩ : ∃ b, stateB g s = b := ⟨_, rfl⟩
    have HS2 := Lib.hid (stateRight_any Aw Af As At nw nf ns nt cw cf cs ct g s w2 hG2 hS2)
    rw [hbs] at HS2
    have HBS := Lib.hid hbs
    clear q1 q2 hG2 hS2 hL2 hbw2 hb2 hbs
    go_wp2_with fail
    (with_reducible refine (HS2.out).mono ?_)
    rintro e w3 ⟨rfl, hb3⟩
    clear e0 e1
    have hb3' := HB2.out.trans (hb3.mono HB2.out.size)
    obtain ⟨q1, q2, hG3, hS3, hL3, hbw3⟩ := HA.out w3 hb3'
    have e0 := q1.cell; have e1 := q2.cell
    have HB3 := Lib.hid hb3'; have HBW3 := Lib.hid hbw3
    cases bs with
    | false =>
      clear q1 q2 hG3 hS3 hL3 hbw3 hb3 hb3'
      go_wp2
      go_ret2
      exact ⟨HBW3.out, .inl ⟨by unfold okB; rw [HBG.out, HBS.out]; rfl, rfl⟩⟩
    | true =>
      obtain ⟨bl, hbl⟩ : ∃ b, loadsB g.nodes.toNat ls = b := ⟨_, rfl⟩
      have hgb := gridB_at HBG.out
      have HL3 := Lib.hid (loadsRight_any Aw Af Al nw nf nl cw cf cl g.nodes.toNat g ls w3 hgb.2.2.1 (by omega) (by omega) HLL.out HLM.out hL3)
      rw [hbl] at HL3
      have HBL := Lib.hid hbl
      clear q1 q2 hG3 hS3 hL3 hbw3 hb3 hb3' hbl hgb
      go_wp2_with fail
      (with_reducible refine (HL3.out).mono ?_)
      rintro e w4 ⟨rfl, hb4⟩
      clear e0 e1
      have hb4' := HB3.out.trans (hb4.mono HB3.out.size)
      obtain ⟨q1, q2, hG4, hS4, hL4, hbw4⟩ := HA.out w4 hb4'
      have e0 := q1.cell; have e1 := q2.cell
      have HB4 := Lib.hid hb4'; have HBW4 := Lib.hid hbw4
      cases bl with
      | false =>
        clear q1 q2 hG4 hS4 hL4 hbw4 hb4 hb4'
        go_wp2
        go_ret2
        exact ⟨HBW4.out, .inl ⟨by unfold okB; rw [HBG.out, HBS.out, HBL.out]; rfl, rfl⟩⟩
      | true =>
        have HOK := Lib.hid (show okB g s ls = true from by unfold okB; rw [HBG.out, HBS.out, HBL.out]; rfl)
        have hnt80 : nt ≤ 80 := by
          have h1 := wiresB_len (okB_pre HOK.out).wb
          have h2 := (stateB_at HBS.out).2
          have h3 := HWE.out
          have : s.wires.length ≤ 80 := by rw [h2]; exact h1
          omega
        clear q1 q2 hG4 hS4 hL4 hbw4 hb4 hb4'
        go_wp2
        clear e0 e1
        go_loopw [8, 31] (fun s8 s31 wr => ∃ k : Nat, k ≤ nt ∧ s31 = .int .i64 (k : Int) ∧ Own wr W1.heap.size 3 1 fI s8 (offL s.wires k) ∧ Below W1.heap.size W1 wr) (fun _ s31 _ => nt - (intOf s31).toNat)
        case atStart => exact ⟨0, Nat.zero_le _, rfl, Own.nil _ _ _ _ _, HB4.out⟩
        case round =>
          obtain ⟨k, hk, rfl, ho, hbr⟩ := hrel
          obtain ⟨A5, c5, rfl, hl5, hm5, -⟩ := ho.form
          have hfl := offL_len s.wires k
          by_cases hkn : k < nt
          · generalize hn5 : (offL s.wires k).length = n5 at *
            have hii : (k : Int) < (nt : Int) := by omega
            have hi0 : (0 : Int) ≤ (k : Int) := by omega
            have hab : (k : Int) + 1 ≤ 1000 := by omega
            have hkl : k < s.wires.length := by have := HWE.out; omega
            obtain ⟨q1, q2, hG4, hS4, hL4, hbw4⟩ := HA.out wr hbr
            obtain ⟨b, o, rfl, gb, d0⟩ := bool_at hS4.ws hkl
            obtain ⟨y, hy⟩ : ∃ y, s.wires[k] = y := ⟨_, rfl⟩
            rw [hy] at d0
            have HTK := Lib.hid (show offL s.wires (k + 1) = offL s.wires k ++ (if y then [] else [(k : Int)]) from by rw [offL_succ hkl, hy])
            have HK := Lib.hid hkn; have HBR := Lib.hid hbr; have HO := Lib.hid ho; have HFL := Lib.hid hfl; have HN5 := Lib.hid hn5; have HZI := Lib.hid hbr.size
            clear q1 q2 hG4 hS4 hL4 hbw4 hk hkn hkl ho hbr hl5 hm5 hfl hn5 hy gb
            cases y with
            | true =>
              have HT2 := Lib.hid (show offL s.wires (k + 1) = offL s.wires k from by rw [HTK.out]; simp)
              go_wp2
              go_roundw
              case rel => exact ⟨k + 1, by have := HK.out; omega, by simp, by rw [HT2.out]; exact HO.out, HBR.out⟩
              case measure => exact round_less HK.out
            | false =>
              have HT2 := Lib.hid (show offL s.wires (k + 1) = offL s.wires k ++ [(k : Int)] from by rw [HTK.out]; simp)
              go_wp2_with (at_builtin; go_must (refine wpList_app _ rfl (.tmp 38) (.tmp 40) _ rfl W1.heap.size 3 i3 _ 1 8 Tryz.underlying40 hi3 hz3 hs3 hy3 rfl (by omega) fI_len fI_one (.slice A5 n5 c5) (offL s.wires k) rfl (HO.out.alloc _) _ _ [(k : Int)] 1 rfl (Sl.new _ _ (k : Int) _ rfl) (by have := HFL.out; have := HN5.out; unfold maxLen; simp only [List.length_cons, List.length_nil]; omega) (by have := HFL.out; have := HN5.out; simp only [List.length_cons, List.length_nil]; omega) (by have := HZI.out; simp; omega) (fun _ => .inr ⟨_, rfl⟩) ?_)
                           intro v2 w7 ow2 gr2 at2 ne2
                           go_must (have HO7 := Lib.hid ow2)
                           go_must (have HB7 := Lib.hid (bGrown (HBR.out.trans (((Below.refl wr.heap.size wr).alloc (Nat.le_refl _) (.cells #[.int .i64 (k : Int)] 3)).mono HBR.out.size)) gr2 (fun j e => (HO.out.lt j e).1) (by have := HZI.out; simp; omega)))
                           clear ow2 gr2 at2 ne2)
              go_roundw
              case rel => exact ⟨k + 1, by have := HK.out; omega, by simp, by rw [HT2.out]; exact HO7.out, HB7.out⟩
              case measure => exact round_less HK.out
          · have hii : ¬ (k : Int) < (nt : Int) := by omega
            have hke : k = s.wires.length := by have := HWE.out; omega
            subst hke
            obtain ⟨of, hof⟩ : ∃ l, offL s.wires s.wires.length = l := ⟨_, rfl⟩
            rw [hof] at ho hl5 hfl ⊢
            have HOF := Lib.hid hof
            obtain ⟨m, hm⟩ : ∃ m, of.length = m := ⟨_, rfl⟩
            have hosl := ho.sl fI_len rfl
            rw [hm] at ho ⊢
            have HM := Lib.hid hm
            have HO := Lib.hid ho; have HBR := Lib.hid hbr; have HSLO := Lib.hid (show Sl wr wr.heap.size 1 CI A5 of from hosl)
            have hii2 : ¬ (s.wires.length : Int) < (nt : Int) := by omega
            clear ho hbr hl5 hm5 hfl hk hkn hof hm hosl hii
            by_cases hm6 : 6 < m
            · have hm6' : (6 : Int) < (m : Int) := by omega
              have hbw := (HA.out wr HBR.out).2.2.2.2.2
              have HBW := Lib.hid hbw
              clear hbw
              go_wp2
              go_ret2
              exact ⟨HBW.out, .inr (.inl ⟨HOK.out, by rw [HOF.out, HM.out]; exact hm6, rfl⟩)⟩
            · have hm6' : ¬ (6 : Int) < (m : Int) := by omega
              have HBW0 := Lib.hid (show w.heap.size ≤ wr.heap.size from Nat.le_trans (HA.out W1 (Below.refl _ _)).2.2.2.2.2.size HBR.out.size)
              have HSB := Lib.hid (subsets_any A5 m c5 of wr HM.out (by omega) HSLO.out)
              go_wp2_with fail
              (with_reducible refine (HSB.out).mono ?_)
              rintro e w5 ⟨v5, rfl, hrr, hb5⟩
              obtain ⟨ss, hs1, hs2, hs3'⟩ := hrr
              obtain ⟨A6, c6, rfl, hl6, hm6'', -⟩ := hs1.form
              obtain ⟨LL, hLL⟩ : ∃ l, subA of (m + 1) = l := ⟨_, rfl⟩
              have HRF := Lib.hid (show rlfB g s ls = LL.find? (relB g s ls) from by unfold rlfB; rw [HOF.out, HM.out, hLL])
              have HMEM := Lib.hid (show ∀ p ∈ LL, (∀ x ∈ p, 0 ≤ x ∧ x < nt) ∧ p.length ≤ 6 from fun p hp => by
                rw [← hLL] at hp
                obtain ⟨h1, h2⟩ := subA_mem hp
                refine ⟨fun x hx => ?_, by have := HM.out; omega⟩
                have h3 := h1 x hx
                rw [← HOF.out] at h3
                have h4 := offL_mem h3
                have h5 := HWE.out
                omega)
              rw [hLL] at hs2 hs3'
              have hn6 : ss.length ≤ 1000 := by
                rw [hs2, ← hLL]
                have h1 := subA_len of (m + 1)
                have h2 : (m + 1) * 2 ^ of.length ≤ 7 * 64 := Nat.mul_le_mul (by omega) (show 2 ^ of.length ≤ 2 ^ 6 from Nat.pow_le_pow_right (by decide) (by have := HM.out; omega))
                omega
              obtain ⟨n6, hn6'⟩ : ∃ n, ss.length = n := ⟨_, rfl⟩
              rw [hn6'] at hs1 hs2 hn6 ⊢
              have HSS := Lib.hid hs1; have HROWS := Lib.hid hs3'; have HN6 := Lib.hid hn6'; have HNL := Lib.hid hs2
              have HB5 := Lib.hid (HBR.out.trans (hb5.mono HBR.out.size))
              have HOK6 := Lib.hid (show of.length ≤ 6 from by have := HM.out; omega)
              clear hb5 hs1 hs2 hs3' hn6' hl6 hm6'' hLL hm6
              go_wp2
              go_loopw [49] (fun s49 wr => ∃ k : Nat, k ≤ n6 ∧ s49 = .int .i64 (k : Int) ∧ Below w5.heap.size w5 wr ∧ (∀ (i : Nat) (p : List Int), i < k → LL[i]? = some p → relB g s ls p = false)) (fun s49 _ => n6 - (intOf s49).toNat)
              case atStart => exact ⟨0, Nat.zero_le _, rfl, Below.refl _ _, fun i p h => absurd h (Nat.not_lt_zero _)⟩
              case round =>
                obtain ⟨k, hk, rfl, hbr, hno⟩ := hrel
                have hb1 := HB5.out.trans (hbr.mono HB5.out.size)
                obtain ⟨q1, q2, hG4, hS4, hL4, hbw4⟩ := HA.out wr hb1
                have HBW := Lib.hid hbw4
                by_cases hkn : k < n6
                · have hii : (k : Int) < (n6 : Int) := by omega
                  have hi0 : (0 : Int) ≤ (k : Int) := by omega
                  have hab : (k : Int) + 1 ≤ 1000 := by omega
                  have hks : k < ss.length := by have := HN6.out; omega
                  have hkl : k < LL.length := by have := HNL.out; omega
                  have hso := HSS.out.below hbr (Nat.le_refl _)
                  obtain ⟨bb, off, cs9, e, hbb, rfl, hc⟩ := (Own.sl (f := fSc) (size := 1) fSc_len hso (show Value.slice A6 n6 c6 = .slice A6 ss.length c6 from by rw [HN6.out])).at_ hks
                  subst e
                  have c0 := hc 0 _ rfl
                  obtain ⟨p, hp⟩ : ∃ p, LL[k] = p := ⟨_, rfl⟩
                  have hpm : p ∈ LL := by rw [← hp]; exact List.getElem_mem hkl
                  obtain ⟨⟨pA, pn, pc⟩, hsc⟩ : ∃ s, ss[k] = s := ⟨_, rfl⟩
                  rw [hsc] at c0
                  unfold Sc.v at c0
                  simp only [Nat.add_zero, Nat.mul_one] at c0
                  have hrow := (HROWS.out k _ _ (show ss[k]? = some ⟨pA, pn, pc⟩ from by rw [List.getElem?_eq_getElem hks, hsc]) (show LL[k]? = some p from by rw [List.getElem?_eq_getElem hkl, hp])).below hbr (Nat.le_refl _)
                  have hps := own_sl (s := ⟨pA, pn, pc⟩) fI_len hrow
                  simp only at hps
                  have hmem := HMEM.out p hpm
                  have HRL := Lib.hid (relieves_any Aw Af As At Al pA nw nf ns nt nl pn cw cf cs ct cl pc g s ls p wr hG4 hS4 HLL.out HLM.out hL4 HOK.out hps.2.symm (by rw [hps.2]; omega) hps.1 hmem.1)
                  have HPR := Lib.hid hrow; have HPN := Lib.hid hps.2; have HLK := Lib.hid (show LL[k]? = some p from by rw [List.getElem?_eq_getElem hkl, hp]); have HNO := Lib.hid hno; have HK := Lib.hid hkn; have HBR5 := Lib.hid hbr
                  obtain ⟨rb, hrb⟩ : ∃ b, relB g s ls p = b := ⟨_, rfl⟩
                  rw [hrb] at HRL
                  have HRB := Lib.hid hrb
                  have e0 := q1.cell; have e1 := q2.cell
                  clear q1 q2 hG4 hS4 hL4 hbw4 hb1 hbr hno hk hkn hks hkl hso hc hpm hsc hp hrow hps hmem hrb hbb
                  go_wp2_with fail
                  (with_reducible refine (HRL.out).mono ?_)
                  rintro e w7 ⟨rfl, hb7⟩
                  have HB7 := Lib.hid (HBW.out.trans (hb7.mono HBW.out.size))
                  have HB57 := Lib.hid (HBR5.out.trans (hb7.mono HBR5.out.size))
                  have HP7 := Lib.hid (HPR.out.below hb7 (Nat.le_refl _))
                  clear hb7 c0 e0 e1
                  cases rb with
                  | true =>
                    have HFI := Lib.hid (show rlfB g s ls = some p from by
                      rw [HRF.out]
                      have hp := HLK.out
                      rw [List.find?_eq_some_iff_getElem]
                      obtain ⟨h1, h2⟩ := List.getElem?_eq_some_iff.1 hp
                      refine ⟨HRB.out, k, h1, h2, fun j hj => ?_⟩
                      rw [HNO.out j _ hj (List.getElem?_eq_getElem (by omega))]; rfl)
                    go_wp2
                    go_ret2
                    exact ⟨HB7.out, .inr (.inr (.inr ⟨HOK.out, by rw [HOF.out]; exact HOK6.out, p, pA, pc, HFI.out, by rw [← HPN.out]; rfl, by
                      have h := HP7.out
                      unfold Sc.v at h
                      rw [HPN.out] at h
                      exact h.lower HBW0.out⟩))⟩
                  | false =>
                    have HNN := Lib.hid (show ∀ (i : Nat) (p : List Int), i < k + 1 → LL[i]? = some p → relB g s ls p = false from fun i p' hi hp' => by
                      rcases Nat.lt_or_ge i k with q | q
                      · exact HNO.out i p' q hp'
                      · have : i = k := by omega
                        subst this
                        have h := HLK.out
                        rw [hp'] at h; injection h with h; subst h
                        exact HRB.out)
                    go_wp2
                    refine ⟨⟨k + 1, by have := HK.out; omega, by simp, HB57.out, HNN.out⟩, ?_⟩
                    exact round_less HK.out
                · have hii : ¬ (k : Int) < (n6 : Int) := by omega
                  have HFI := Lib.hid (show rlfB g s ls = none from by
                    rw [HRF.out, List.find?_eq_none]
                    intro p hp
                    obtain ⟨i, hi, e⟩ := List.getElem_of_mem hp
                    have := hno i p (by have := HNL.out; omega) (by rw [List.getElem?_eq_getElem hi, e])
                    rw [this]; simp)
                  clear q1 q2 hG4 hS4 hL4 hbw4 hb1 hbr hno hkn hk
                  go_wp2
                  go_ret2
                  exact ⟨HBW.out, .inr (.inr (.inl ⟨HOK.out, by rw [HOF.out]; exact HOK6.out, HFI.out, rfl⟩))⟩
end Go.Proofs.YtbnfnpakibkboaaGreat

namespace Go.Proofs.YtbnfnpakibkboaaGreat
set_option linter.unusedVariables false
set_option linter.unusedSimpArgs false
open Go.RowKit

/-- the chapter's example -/
def exG (lim : Int) : Gv := ⟨3, [⟨0, 1, 2, false⟩, ⟨1, 2, 1, true⟩], [⟨0, 600, 2, lim⟩, ⟨2, 600, 1, 30⟩], 500⟩
def exS (b : Bool) : Sv := ⟨[true, true], [true, b]⟩
def exL : List Lv := [⟨1, 40, 0⟩]
theorem ex_ok1 : okB (exG 100) (exS false) exL = true := by decide +kernel
theorem ex_ok2 : okB (exG 100) (exS true) exL = true := by decide +kernel
theorem ex_ok3 : okB (exG 39) (exS false) exL = true := by decide +kernel
theorem ex_sm1 : smallP (zOf (exG 100) (exS false) exL).ps = true := by decide +kernel
theorem ex_sm2 : smallP (zOf (exG 100) (exS true) exL).ps = true := by decide +kernel
theorem ex_sm3 : smallP (zOf (exG 39) (exS false) exL).ps = true := by decide +kernel
theorem ex_so1 : (zOf (exG 100) (exS false) exL).solved [true, true] [true] = true := by decide +kernel
theorem ex_so2 : (zOf (exG 100) (exS true) exL).solved [true, true] [true] = true := by decide +kernel
theorem ex_v1 : (List.range 3).map (fun c => redQ ((zOf (exG 100) (exS false) exL).volt [true, true] [true] c)) = [(580, 1), (560, 1), (600, 1)] := by decide +kernel
theorem ex_f1 : (List.range 2).map (fun c => redQ ((zOf (exG 100) (exS false) exL).amp [true, true] [true] c)) = [(40, 1), (0, 1)] := by decide +kernel
theorem ex_v2 : (List.range 3).map (fun c => redQ ((zOf (exG 100) (exS true) exL).volt [true, true] [true] c)) = [(1760, 3), (1720, 3), (1760, 3)] := by decide +kernel
theorem ex_n1 : (zOf (exG 39) (exS false) exL).next [true, true] [true] = some (4, 0, (40, 1)) := by decide +kernel
theorem ex_n2 : (zOf (exG 39) (exS false) exL).next [false, true] [true] = some (1, 0, (0, 1)) := by decide +kernel
theorem ex_n3 : (zOf (exG 39) (exS false) exL).next [false, true] [false] = none := by decide +kernel
theorem ex_rl : rlfB (exG 39) (exS false) exL = some [1] := by decide +kernel
theorem ex_of : (offL (exS false).wires (exS false).wires.length).length ≤ 6 := by decide +kernel
theorem ex_steps : (zOf (exG 39) (exS false) exL).Steps [true, true] [true] [(4, 0, (40, 1)), (1, 0, (0, 1))] [false, true] [false] :=
  (Zs.Steps.snoc (Zs.Steps.snoc .nil ex_n1) ex_n2)
end Go.Proofs.YtbnfnpakibkboaaGreat

namespace Go.Proofs.YtbnfnpakibkboaaGreat
set_option linter.unusedVariables false
set_option linter.unusedSimpArgs false
open Go.RowKit

set_option maxRecDepth 100000 in
set_option maxHeartbeats 4000000 in
theorem rsame_any (A B : Option Addr) (n m c d : Nat) (l k : List (Int × Int)) (w : World) (hn : l.length = n) (hm : k.length = m) (hn2 : n ≤ 1000000) (hm2 : m ≤ 1000000) (hS : Sl w w.heap.size 2 CQ A l) (hT : Sl w w.heap.size 2 CQ B k) :
    Calls Tryz.prog 27 #[.slice A n c, .slice B m d] w fun e w' => e = .returned (.bool (decide (l = k))) ∧ Below w.heap.size w w' := by
  have HS := Lib.hid hS; have HT := Lib.hid hT; have HN := Lib.hid hn; have HM := Lib.hid hm
  clear hS hT hn hm
  by_cases hnm : n = m
  · subst hnm
    go_enter Tryz.func27, Tryz.ntmps27
    go_wp2
    go_loopw [5] (fun sl wr => ∃ i : Nat, i ≤ n ∧ sl = .int .i64 (i : Int) ∧ l.take i = k.take i ∧ Below w.heap.size w wr) (fun sl _ => n - (intOf sl).toNat)
    case atStart => exact ⟨0, Nat.zero_le _, rfl, rfl, Below.refl _ _⟩
    case round =>
      obtain ⟨i, hi, rfl, hb, hbr⟩ := hrel
      have HB := Lib.hid hb; have HBR := Lib.hid hbr
      clear hb
      by_cases hin : i < n
      · have hii : (i : Int) < (n : Int) := by omega
        have hi0 : (0 : Int) ≤ (i : Int) := by omega
        have hil : i < l.length := by have := HN.out; omega
        have hik : i < k.length := by have := HM.out; omega
        obtain ⟨b, o, rfl, gb, c0, c1⟩ := frac_at (HS.out.below hbr) hil
        obtain ⟨b', o', rfl, gb', c0', c1'⟩ := frac_at (HT.out.below hbr) hik
        obtain ⟨⟨g1, g2⟩, hg⟩ : ∃ g, l[i] = g := ⟨_, rfl⟩
        obtain ⟨⟨h1, h2⟩, hh⟩ : ∃ g, k[i] = g := ⟨_, rfl⟩
        rw [hg] at c0 c1
        rw [hh] at c0' c1'
        have HI := Lib.hid hin
        by_cases hx : g1 = h1 ∧ g2 = h2
        · have HTK := Lib.hid (show l.take (i + 1) = k.take (i + 1) from by rw [List.take_succ_eq_append_getElem hil, List.take_succ_eq_append_getElem hik, HB.out, hg, hh, hx.1, hx.2])
          obtain ⟨rfl, rfl⟩ := hx
          clear hil hik hg hh hbr
          go_upto_region 6 with (fail)
          refine wp_region_noPanic ?_
          go_region
          refine NoPanic.normal ?_
          have HBD := Lib.hid (show Below w.heap.size w wr.drew from HBR.out.drew)
          (try simp only [Exit.inBlock, Exit.then])
          go_wp2
          refine ⟨⟨i + 1, by have := HI.out; omega, by simp, HTK.out, HBD.out⟩, ?_⟩
          have := HI.out; simp [intOf] <;> omega
        · have HE := Lib.hid (show ¬ l = k from fun e => by subst e; rw [hg] at hh; injection hh with e1 e2; exact hx ⟨e1, e2⟩)
          rcases Classical.em (g1 = h1) with e1 | e1
          · have e2 : ¬ g2 = h2 := fun e => hx ⟨e1, e⟩
            have hq2 : (g2 == h2) = false := by simp [e2]
            subst e1
            clear hil hik hg hh hbr hx e2
            go_upto_region 6 with (fail)
            refine wp_region_noPanic ?_
            go_region
            refine NoPanic.normal ?_
            have HBD := Lib.hid (show Below w.heap.size w wr.drew from HBR.out.drew)
            (try simp only [Exit.inBlock, Exit.then])
            go_wp2
            go_ret
            exact ⟨by rw [decide_eq_false HE.out]; rfl, HBD.out⟩
          · have hq1 : (g1 == h1) = false := by simp [e1]
            clear hil hik hg hh hbr hx e1
            go_upto_region 6 with (fail)
            refine wp_region_noPanic ?_
            go_region
            refine NoPanic.normal ?_
            have HBD := Lib.hid (show Below w.heap.size w wr.drew from HBR.out.drew)
            (try simp only [Exit.inBlock, Exit.then])
            go_wp2
            go_ret
            exact ⟨by rw [decide_eq_false HE.out]; rfl, HBD.out⟩
      · have hii : ¬ (i : Int) < (n : Int) := by omega
        have HE := Lib.hid (show l = k from by
          have h := HB.out
          rw [List.take_of_length_le (by have := HN.out; omega), List.take_of_length_le (by have := HM.out; omega)] at h; exact h)
        clear hbr
        go_wp2
        go_ret
        exact ⟨by rw [decide_eq_true HE.out]; rfl, HBR.out⟩
  · have HE := Lib.hid (show ¬ l = k from fun e => by have := HN.out; have := HM.out; subst e; omega)
    have hnm' : ¬ (n : Int) = (m : Int) := by omega
    have hbe : ((n : Int) != (m : Int)) = true := bne_iff_ne.2 hnm'
    go_enter Tryz.func27, Tryz.ntmps27
    go_wp2
    go_ret
    exact ⟨by rw [decide_eq_false HE.out]; rfl, Below.refl _ _⟩
end Go.Proofs.YtbnfnpakibkboaaGreat
