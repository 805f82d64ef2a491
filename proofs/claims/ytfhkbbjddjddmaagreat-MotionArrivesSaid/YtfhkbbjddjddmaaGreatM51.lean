/- Plain: the zones of a way are right at each place. -/
import Derived.Test.YtfhkbbjddjddmaaGreatMi
set_option linter.unusedVariables false
set_option linter.unusedSimpArgs false
namespace Go.Proofs.YtfhkbbjddjddmaaGreat
open Go.RowKit Go.Shelf Go.Lib Go.BigFrame
def limAll (c:Nat→Bool) (lm:Nat→Int) (sp:Int):Nat→Int
  | 0=>sp
  | k+1=>if c k then min (limAll c lm sp k) (lm k) else limAll c lm sp k
theorem limAll_congr {c d:Nat→Bool} {lm:Nat→Int} {sp:Int}:∀{k:Nat},(∀i,i<k→c i=d i)→limAll c lm sp k=limAll d lm sp k:=by
  intro k
  induction k with
  | zero=>intro _;rfl
  | succ k ih=>intro h;rw [limAll,limAll,h k (by omega),ih fun i hi=>h i (by omega)]
theorem limAll_none {c:Nat→Bool} {lm:Nat→Int} {sp:Int}:∀{k:Nat},(∀i,i<k→c i=false)→limAll c lm sp k=sp:=by
  intro k
  induction k with
  | zero=>intro _;rfl
  | succ k ih=>intro h;rw [limAll,h k (by omega),ih fun i hi=>h i (by omega)];rfl
theorem limAll_rest {c:Nat→Bool} {lm:Nat→Int} {sp:Int} {i:Nat}:∀{k:Nat},i≤k→(∀j,i≤j→j<k→c j=false)→limAll c lm sp k=limAll c lm sp i:=by
  intro k
  induction k with
  | zero=>
    intro h _;obtain rfl:i=0:=by omega
    rfl
  | succ k ih=>
    intro h hc
    by_cases hi:i=k+1
    · rw [hi]
    · rw [limAll,hc k (by omega) (by omega),ih (by omega) fun j h1 h2=>hc j h1 (by omega)];rfl
def covB (bs:List Int) (len x:Int) (i:Nat):Bool:=decide (x - len<bs.getD (i+1) 0) && decide (bs.getD i 0<x)
structure BsOk (bs:List Int) (n:Nat):Prop where
  n1:1≤n
  z:bs.getD 0 0=0
  mono:∀i j,i≤j→j≤n→bs.getD i 0≤bs.getD j 0
theorem limGo_all {p:Pl} {l:List E} {bs:List Int} {len x sp:Int} (hB:BsOk bs l.length):∀(f i:Nat),i≤l.length→l.length - i≤f→(∀j,i≤j→j<l.length→x - len<bs.getD (j+1) 0)→
    limGo p l bs x f i (limAll (covB bs len x) (limAt p l) sp i)=limAll (covB bs len x) (limAt p l) sp l.length:=by
  intro f
  induction f with
  | zero=>
    intro i h1 h2 _;obtain rfl:i=l.length:=by omega
    rfl
  | succ f ih=>
    intro i h1 h2 h3
    rw [limGo]
    split
    · rename_i h
      have hc:covB bs len x i=true:=by
        unfold covB
        rw [decide_eq_true (h3 i (Nat.le_refl _) h.1),decide_eq_true h.2];rfl
      have:=ih (i+1) h.1 (by omega) fun j a b=>h3 j (by omega) b
      rw [limAll,if_pos hc] at this
      exact this
    · rename_i h
      refine (limAll_rest h1 fun j h4 h5=> ?_).symm
      unfold covB
      have hx:¬bs.getD i 0<x:=fun hh=>h ⟨by omega,hh⟩
      have:=hB.mono i j h4 (by omega)
      rw [decide_eq_false (show ¬bs.getD j 0<x by omega),Bool.and_false]
theorem advR_spec {bs:List Int} {y:Int} {m:Nat}:∀(f r:Nat),r<m→m≤r+f→y<bs.getD m 0→(∀j,0<j→j≤r→bs.getD j 0≤y)→
    advR bs y f r<m∧(∀j,0<j→j≤advR bs y f r→bs.getD j 0≤y)∧y<bs.getD (advR bs y f r+1) 0:=by
  intro f
  induction f with
  | zero=>intro r h1 h2;omega
  | succ f ih=>
    intro r h1 h2 h3 h4
    rw [advR]
    split
    · rename_i h
      have hne:r+1≠m:=by intro e;rw [e] at h;omega
      exact ih (r+1) (by omega) (by omega) h3 fun j a b=>by
        by_cases e:j=r+1
        · rw [e];exact h
        · exact h4 j a (by omega)
    · exact⟨h1,h4,by omega⟩
theorem advF_spec {bs:List Int} {x:Int} {n:Nat}:∀(f r:Nat),r<n→n≤r+f+1→(∀j,0<j→j≤r→bs.getD j 0≤x)→
    advF bs n x f r<n∧(∀j,0<j→j≤advF bs n x f r→bs.getD j 0≤x)∧(advF bs n x f r+1<n→x<bs.getD (advF bs n x f r+1) 0):=by
  intro f
  induction f with
  | zero=>intro r h1 h2 h4;exact⟨h1,h4,fun h=>by unfold advF at h;omega⟩
  | succ f ih=>
    intro r h1 h2 h4
    rw [advF]
    split
    · rename_i h
      exact ih (r+1) h.1 (by omega) fun j a b=>by
        by_cases e:j=r+1
        · rw [e];exact h.2
        · exact h4 j a (by omega)
    · rename_i h
      exact⟨h1,h4,fun h5=>by
        have:¬bs.getD (r+1) 0≤x:=fun h6=>h ⟨h5,h6⟩
        omega⟩
structure Fr (bs:List Int) (n:Nat) (f:Nat) (x:Int):Prop where
  lt:f<n
  le:∀j,0<j→j≤f→bs.getD j 0≤x
  gt:f+1<n→x<bs.getD (f+1) 0
theorem Fr.uniq {bs:List Int} {n f g:Nat} {x:Int} (h:Fr bs n f x) (k:Fr bs n g x):f=g:=by
  rcases Nat.lt_trichotomy f g with h1|h1|h1
  · have:=h.gt (by have:=k.lt;omega)
    have:=k.le (f+1) (by omega) (by omega)
    omega
  · exact h1
  · have:=k.gt (by have:=h.lt;omega)
    have:=h.le (g+1) (by omega) (by omega)
    omega
structure ZnFor (p:Pl) (l:List E) (bs:List Int) (len sp x:Int) (g:Zn):Prop where
  sl:∃f,Fr bs l.length f x∧g.sl=slpE p ((l[f]?).getD E0)
  lim:g.lim=limAll (covB bs len x) (limAt p l) sp l.length
theorem znAt_for {p:Pl} {l:List E} {bs:List Int} {len last sp x:Int} (hB:BsOk bs l.length) (hlen:1≤len) (hla:last≤bs.getD l.length 0) (hx:x≤last) {r f:Nat} (hr:r<l.length) (hr2:∀j,0<j→j≤r→bs.getD j 0≤x - len)
    (hf:f<l.length) (hf2:∀j,0<j→j≤f→bs.getD j 0≤x) :
    ZnFor p l bs len sp x (znAt p l bs sp x (advR bs (x - len) l.length r) (advF bs l.length x l.length f)):=by
  obtain⟨a1,a2,a3⟩:=advR_spec (y:=x - len) l.length r hr (by omega) (by omega) hr2
  obtain⟨b1,b2,b3⟩:=advF_spec (x:=x) l.length f hf (by omega) hf2
  refine⟨⟨_,⟨b1,b2,b3⟩,rfl⟩, ?_⟩
  have h:=limGo_all (p:=p) (l:=l) (len:=len) (x:=x) (sp:=sp) hB l.length (advR bs (x - len) l.length r) (by omega) (by omega) (fun j h1 h2=>by
    have:=hB.mono (advR bs (x - len) l.length r+1) (j+1) (by omega) (by omega)
    omega)
  rw [limAll_none fun j hj=>by
    unfold covB
    have h1:=a2 (advR bs (x - len) l.length r) (by omega) (Nat.le_refl _)
    have h2:=hB.mono (j+1) (advR bs (x - len) l.length r) (by omega) (by omega)
    rw [decide_eq_false (show ¬x - len<bs.getD (j+1) 0 by omega),Bool.false_and]] at h
  exact h
theorem znsGo_spec {p:Pl} {l:List E} {bs:List Int} {len last sp:Int} (hB:BsOk bs l.length) (hlen:1≤len) (hla:last≤bs.getD l.length 0):∀(xs:List Int) (r f:Nat) (acc:List Zn),xs.Pairwise (·≤·)→
    r<l.length→(∀x∈xs,∀j,0<j→j≤r→bs.getD j 0≤x - len)→f<l.length→(∀x∈xs,∀j,0<j→j≤f→bs.getD j 0≤x)→
    ∃zs,znsGo p l bs len last sp xs r f acc=acc ++ zs∧zs.map (·.fr)=xs.takeWhile (fun x=>decide (x≤last))∧∀g∈zs,ZnFor p l bs len sp g.fr g:=by
  intro xs
  induction xs with
  | nil=>intro r f acc _ _ _ _ _;exact⟨[],by simp [znsGo],by simp,by simp⟩
  | cons x xs ih=>
    intro r f acc hs hr hr2 hf hf2
    rw [znsGo]
    split
    · rename_i h
      refine⟨[],by simp, ?_,by simp⟩
      rw [List.takeWhile_cons,decide_eq_false (by omega)];rfl
    · rename_i h
      have hz:=znAt_for (p:=p) (sp:=sp) hB hlen hla (show x≤last by omega) hr (hr2 x (by simp)) hf (hf2 x (by simp))
      obtain⟨a1,a2,a3⟩:=advR_spec (y:=x - len) l.length r hr (by omega) (by omega) (hr2 x (by simp))
      obtain⟨b1,b2,b3⟩:=advF_spec (x:=x) l.length f hf (by omega) (hf2 x (by simp))
      have hle:∀y∈xs,x≤y:=fun y hy=>List.rel_of_pairwise_cons hs hy
      obtain⟨zs,h1,h2,h3⟩:=ih (advR bs (x - len) l.length r) (advF bs l.length x l.length f) (acc ++ [znAt p l bs sp x (advR bs (x - len) l.length r) (advF bs l.length x l.length f)]) hs.of_cons a1 (fun y hy j c d=>by have:=a2 j c d;have:=hle y hy;omega) b1 (fun y hy j c d=>by have:=b2 j c d;have:=hle y hy;omega)
      refine⟨znAt p l bs sp x (advR bs (x - len) l.length r) (advF bs l.length x l.length f) :: zs,by rw [h1];simp, ?_, ?_⟩
      · rw [List.map_cons,h2,List.takeWhile_cons,decide_eq_true (by omega)];rfl
      · intro g hg
        rcases List.mem_cons.1 hg with rfl|hg
        · exact hz
        · exact h3 g hg
theorem compactUpTo_mem (d:Array Int):∀m j,j<m→d[j]!∈Lib.compactUpTo d m:=by
  intro m
  induction m with
  | zero=>intro j h;omega
  | succ m ih=>
    intro j h
    rw [Lib.compactUpTo_succ]
    by_cases hj:j<m
    · exact List.mem_append.2 (.inl (ih j hj))
    · obtain rfl:j=m:=by omega
      by_cases hk:Lib.keeps d j=true
      · rw [if_pos hk];simp
      · have h0:0<j:=by
          rcases Nat.eq_zero_or_pos j with h0|h0
          · subst h0;exact absurd (Lib.keeps_lt_one d 0 (by omega)) hk
          · exact h0
        have he:d[j]! = d[j - 1]!:=by
          rcases Decidable.em (d[j]! = d[j - 1]!) with h1|h1
          · exact h1
          · exact absurd (Lib.keeps_pos h1) hk
        rw [he]
        exact List.mem_append.2 (.inl (ih (j - 1) (by omega)))
theorem compact_all_mem {l:List Int} {x:Int} (h:x∈l):x∈Lib.compact l:=by
  obtain⟨j,hj,rfl⟩:=List.getElem_of_mem h
  have:=compactUpTo_mem l.toArray l.length j hj
  unfold Lib.compact
  simpa [hj] using this
theorem compactUpTo_sorted (d:Array Int):∀m,(∀i j,i≤j→j<m→d[i]!≤d[j]!)→(Lib.compactUpTo d m).Pairwise (·≤·)∧∀x∈Lib.compactUpTo d m,x≤d[m - 1]!:=by
  intro m
  induction m with
  | zero=>intro _;simp [Lib.compactUpTo]
  | succ m ih=>
    intro h
    obtain⟨h1,h2⟩:=ih fun i j a b=>h i j a (by omega)
    have h3:∀x∈Lib.compactUpTo d m,x≤d[m]!:=fun x hx=>Int.le_trans (h2 x hx) (h (m - 1) m (by omega) (by omega))
    rw [Lib.compactUpTo_succ]
    rw [show m+1 - 1=m from rfl]
    split
    · refine⟨List.pairwise_append.2 ⟨h1,by simp,fun a ha b hb=> ?_⟩,fun x hx=> ?_⟩
      · obtain rfl:=List.mem_singleton.1 hb;exact h3 a ha
      · rcases List.mem_append.1 hx with hx|hx
        · exact h3 x hx
        · obtain rfl:=List.mem_singleton.1 hx;exact Int.le_refl _
    · rw [List.append_nil];exact⟨h1,h3⟩
theorem compact_sorted {l:List Int} (h:l.Pairwise (·≤·)):(Lib.compact l).Pairwise (·≤·):=by
  unfold Lib.compact
  refine (compactUpTo_sorted l.toArray l.length fun i j hij hj=> ?_).1
  have hi:i<l.length:=by omega
  have e1:l.toArray[i]! = l[i]:=by simp [hi]
  have e2:l.toArray[j]! = l[j]:=by simp [hj]
  rw [e1,e2]
  by_cases e:i=j
  · subst e;exact Int.le_refl _
  · exact List.pairwise_iff_getElem.1 h i j hi hj (by omega)
theorem bordS_sorted (len:Int) (bs:List Int):(bordS len bs).Pairwise (·≤·):=by
  unfold bordS
  refine compact_sorted ?_
  have:=List.pairwise_mergeSort (le:=fun (x y:Int)=>decide (x≤y)) (fun a b c h1 h2=>by simp at *;omega) (fun a b=>by simp;omega) (bord len bs)
  exact this.imp fun h=>of_decide_eq_true h
theorem bordS_has {len:Int} {bs:List Int} {b:Int} (hb:b∈bs):b∈bordS len bs∧b+1∈bordS len bs∧b+len∈bordS len bs:=by
  have h:∀x∈ [b,b+1,b+len],x∈bordS len bs:=fun x hx=>compact_all_mem ((List.mem_mergeSort).2 (List.mem_flatMap.2 ⟨b,hb,hx⟩))
  exact⟨h b (by simp),h (b+1) (by simp),h (b+len) (by simp)⟩
structure Trk (zs:List Zn) (z:Nat) (x:Int):Prop where
  g:∃g,zs[z]? = some g∧g.fr≤x
  nx:∀g,zs[z+1]? = some g→x<g.fr
theorem zadv_trk {zs:List Zn} {u y:Int} (hu:0<u):∀(f z:Nat),zs.length≤z+f+1→(∃g,zs[z]? = some g∧g.fr≤y / u)→Trk zs (zadv zs u y f z) (y / u):=by
  intro f
  induction f with
  | zero=>
    intro z h hg
    refine⟨hg,fun g h2=> ?_⟩
    have:=(List.getElem?_eq_some_iff.1 h2).1
    unfold zadv at this
    omega
  | succ f ih=>
    intro z h hg
    unfold zadv
    cases hn:zs[z+1]? with
    | none=>exact⟨hg,fun g h2=>by rw [hn] at h2;cases h2⟩
    | some g=>
      simp only
      split
      · rename_i hle
        exact ih (z+1) (by omega) ⟨g,hn,(Int.le_ediv_iff_mul_le hu).2 hle⟩
      · rename_i hle
        refine⟨hg,fun g' h2=> ?_⟩
        rw [hn] at h2
        cases h2
        exact Int.not_le.1 fun h3=>hle ((Int.le_ediv_iff_mul_le hu).1 h3)
structure ZsFor (p:Pl) (l:List E) (bs:List Int) (len last sp:Int) (zs:List Zn):Prop where
  sorted:(zs.map (·.fr)).Pairwise (·≤·)
  right:∀g∈zs,ZnFor p l bs len sp g.fr g
  has:∀x∈bordS len bs,x≤last→x∈zs.map (·.fr)
  all:∀g∈zs,g.fr∈bordS len bs
theorem takeWhile_mem {last x:Int}:∀{xs:List Int},xs.Pairwise (·≤·)→x∈xs→x≤last→x∈xs.takeWhile (fun y=>decide (y≤last)):=by
  intro xs
  induction xs with
  | nil=>intro _ h;cases h
  | cons y xs ih=>
    intro hs hx hl
    rw [List.takeWhile_cons]
    have hy:y≤last:=by
      rcases List.mem_cons.1 hx with rfl|hx
      · exact hl
      · have:=List.rel_of_pairwise_cons hs hx;omega
    rw [decide_eq_true hy]
    simp only [if_true]
    rcases List.mem_cons.1 hx with rfl|hx
    · simp
    · exact List.mem_cons_of_mem _ (ih hs.of_cons hx hl)
theorem zones_for {p:Pl} {l:List E} {bs:List Int} {len last sp:Int} (hB:BsOk bs l.length) (hlen:1≤len) (hla:last≤bs.getD l.length 0) :
    ZsFor p l bs len last sp (znsGo p l bs len last sp (bordS len bs) 0 0 []):=by
  have hn:=hB.n1
  obtain⟨zs,h1,h2,h3⟩:=znsGo_spec (p:=p) (sp:=sp) hB hlen hla (bordS len bs) 0 0 [] (bordS_sorted len bs) (by omega) (fun x _ j a b=>by omega) (by omega) (fun x _ j a b=>by omega)
  rw [h1,List.nil_append]
  refine⟨?_,h3,fun x hx hl=> ?_,fun g hg=> ?_⟩
  · rw [h2];exact (bordS_sorted len bs).sublist (List.takeWhile_sublist _)
  · rw [h2];exact takeWhile_mem (bordS_sorted len bs) hx hl
  · have:g.fr∈zs.map (·.fr):=List.mem_map.2 ⟨g,hg,rfl⟩
    rw [h2] at this
    exact (List.takeWhile_sublist _).mem this
theorem Trk.border {zs:List Zn} {z:Nat} {x b:Int} {g:Zn} (h:Trk zs z x) (hs:(zs.map (·.fr)).Pairwise (·≤·)) (hg:zs[z]? = some g) (hb:b∈zs.map (·.fr)):b≤x ↔ b≤g.fr:=by
  obtain⟨g',e1,h1⟩:=h.g
  rw [hg] at e1
  cases e1
  constructor
  · intro hx
    obtain⟨k,hk,rfl⟩:=List.getElem_of_mem hb
    have hz:=(List.getElem?_eq_some_iff.1 hg)
    obtain⟨hz1,hz2⟩:=hz
    have hzl:z<(zs.map (·.fr)).length:=by simpa using hz1
    have e:(zs.map (·.fr))[z]=g.fr:=by simp [hz2]
    rcases Nat.lt_trichotomy k z with h2|h2|h2
    · have:=List.pairwise_iff_getElem.1 hs k z hk hzl h2
      rw [e] at this;exact this
    · subst h2;rw [e];exact Int.le_refl _
    · have hz3:z+1<zs.length:=by
        have:k<zs.length:=by simpa using hk
        omega
      have h3:=h.nx _ (List.getElem?_eq_getElem hz3)
      have h4:zs[z+1].fr≤(zs.map (·.fr))[k]:=by
        by_cases e5:k=z+1
        · subst e5;simp
        · have:=List.pairwise_iff_getElem.1 hs (z+1) k (by simpa using hz3) hk (by omega)
          simpa using this
      omega
  · intro h2;omega
theorem ZsFor.at_ {p:Pl} {l:List E} {bs:List Int} {len last sp:Int} {zs:List Zn} (h:ZsFor p l bs len last sp zs) (hB:BsOk bs l.length) (hbl:bs.length=l.length+1) (hlen:1≤len) {z:Nat} {x:Int} (ht:Trk zs z x) (hx:x≤last) :
    ∃g,zs[z]? = some g∧ZnFor p l bs len sp x g:=by
  obtain⟨g,hg,hgx⟩:=ht.g
  have hr:=h.right g (List.mem_of_getElem? hg)
  have key:∀b,b∈bordS len bs→(b≤x ↔ b≤g.fr):=fun b hb=>by
    by_cases hl:b≤last
    · exact ht.border h.sorted hg (h.has b hb hl)
    · constructor
      · intro;omega
      · intro;omega
  have hmem:∀j,j≤l.length→bs.getD j 0∈bs:=fun j hj=>by
    rw [List.getD_eq_getElem?_getD,List.getElem?_eq_getElem (by omega)]
    exact List.getElem_mem _
  refine⟨g,hg, ?_, ?_⟩
  · obtain⟨f,hf,e⟩:=hr.sl
    have hfl:=hf.lt
    refine⟨f,⟨hf.lt,fun j a b=> ?_,fun a=> ?_⟩,e⟩
    · have:=hf.le j a b;omega
    · have h1:=hf.gt a
      have h2:=(key _ (bordS_has (hmem (f+1) (by omega))).1)
      exact Int.not_le.1 fun h3=>by have:=h2.1 h3;omega
  · rw [hr.lim]
    refine limAll_congr fun i hi=> ?_
    unfold covB
    have h1:=key _ (bordS_has (len:=len) (hmem (i+1) (by omega))).2.2
    have h2:=key _ (bordS_has (len:=len) (hmem i (by omega))).2.1
    congr 1
    · rw [decide_eq_decide];omega
    · rw [decide_eq_decide];omega
end Go.Proofs.YtfhkbbjddjddmaaGreat
