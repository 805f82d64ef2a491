/- Texts C1 Ends C2 C3 C4 Blk C5 C6. -/
import Derived.Test.YtfhkbbjddjddmaaGreatOwn
import Derived.Test.YtfhkbbjddjddmaaGreatJA
import Derived.Deep.RegionHeld3
import Derived.Test.YtfhkbbjddjddmaaGreatJB
set_option linter.unusedVariables false
set_option linter.unusedSimpArgs false
open Go.Value renaming int→O
open Go.IntKind renaming i64→U
open Go.Lib renaming hid→Z
namespace Go.Proofs.YtfhkbbjddjddmaaGreat
open Go.RowKit
def endNo (e:E):Int:=if e.last then 2 * e.rail+1 else 2 * e.rail
set_option maxHeartbeats 1000000 in
theorem endNumber_any (e:E) (w:World) (h0:0≤e.rail) (h1:e.rail≤1000000) :
  Calls Tryz.prog 141 #[.agg #[O U e.rail,.bool e.last]] w fun r w'=>r= .returned (O U (endNo e))∧Below w.heap.size w w':=by
 obtain⟨rl,l⟩:=e
 have g0:0≤rl:=h0
 have g1:rl≤1000000:=h1
 clear h0 h1
 cases l
 ·go_enter Tryz.func141,Tryz.ntmps141
  go_wp2
  go_ret
  exact⟨rfl,(Below.refl _ _).alloc (Nat.le_refl _) _⟩
 ·go_enter Tryz.func141,Tryz.ntmps141
  go_wp2
  go_ret
  exact⟨rfl,(Below.refl _ _).alloc (Nat.le_refl _) _⟩
set_option maxHeartbeats 1000000 in
theorem number_any (e:E) (w:World) (h0:0≤e.rail) (h1:e.rail≤1000000) :
  Calls Tryz.prog 123 #[.agg #[O U e.rail,.bool e.last]] w fun r w'=>r= .returned (O U (endNo e))∧Below w.heap.size w w':=by
 obtain⟨rl,l⟩:=e
 have g0:0≤rl:=h0
 have g1:rl≤1000000:=h1
 clear h0 h1
 cases l
 ·go_enter Tryz.func123,Tryz.ntmps123
  go_wp2
  go_ret
  exact⟨rfl,(Below.refl _ _).alloc (Nat.le_refl _) _⟩
 ·go_enter Tryz.func123,Tryz.ntmps123
  go_wp2
  go_ret
  exact⟨rfl,(Below.refl _ _).alloc (Nat.le_refl _) _⟩
theorem endsOf_any (k:Int) (w:World) (h1:1≤k) (h2:k≤6) :
  Calls Tryz.prog 151 #[O U k] w fun e w'=>e= .returned (O U (endsZ k))∧Below w.heap.size w w':=by
 rcases (show k=1∨k=2∨k=3∨k=4∨k=5∨k=6 by omega) with h|h|h|h|h|h
 all_goals
  subst h
  go_enter Tryz.func151,Tryz.ntmps151
  go_wp2
  go_ret
  exact⟨rfl,(Below.refl _ _).alloc (Nat.le_refl _) _⟩
def atZ (p:Pl) (e:E):Int:=if e.last then ((p.rails[e.rail.toNat]?).map (·.to)).getD 0 else ((p.rails[e.rail.toNat]?).map (·.frm)).getD 0
theorem atZ_eq {p:Pl} {e:E} {k:Nat} (h:e.rail=k) (hk:k<p.rails.length):atZ p e=if e.last then p.rails[k].to else p.rails[k].frm:=by
 unfold atZ;rw [h];simp [hk]
set_option maxHeartbeats 1000000 in
theorem at_any (A A2:Option Addr) (c c2:Nat) (p:Pl) (e:E) (w:World) (hP:PlAt w w.heap.size A c A2 c2 p) (h0:0≤e.rail) (h1:e.rail<p.rails.length) :
  Calls Tryz.prog 94 #[.agg #[.slice A p.nodes.length c,.slice A2 p.rails.length c2],.agg #[O U e.rail,.bool e.last]] w fun r w'=>r= .returned (O U (atZ p e))∧Below w.heap.size w w':=by
 have hrc:=hP.rc;have hrm:=hP.rm
 obtain⟨rl,l⟩:=e
 obtain⟨k,rfl⟩:=Int.eq_ofNat_of_zero_le h0
 have hk:k<p.rails.length:=by simpa using h1
 obtain⟨b,off,A',c',rfl,hb,hE,hc1,hc2,k0,k1,k2,k3,k4⟩:=hP.rail hk
 have hb1:b<w.heap.size+1:=by omega
 have HE:=Z (atZ_eq (p:=p) (e:=⟨(k:Int),l⟩) rfl hk)
 clear hP h0 h1
 cases l
 ·go_enter Tryz.func94,Tryz.ntmps94
  go_wp2
  go_ret
  exact⟨by rw [HE.out];rfl,((Below.refl _ _).alloc (Nat.le_refl _) _).alloc (by simp) _⟩
 ·go_enter Tryz.func94,Tryz.ntmps94
  go_wp2
  go_ret
  exact⟨by rw [HE.out];rfl,((Below.refl _ _).alloc (Nat.le_refl _) _).alloc (by simp) _⟩
def okE (p:Pl) (i:Nat) (e:E):Prop:=0≤e.rail∧e.rail<p.rails.length∧atZ p e=i
def flatE (p:Pl):List E:=p.nodes.flatMap (·.ends)
def okEnds (p:Pl):Prop:=(∀i (hi:i<p.nodes.length),∀e∈p.nodes[i].ends,okE p i e)∧(flatE p).Nodup∧(flatE p).length=2 * p.rails.length
def fillS (m2:Nat) (q:List (E × Nat)):List Int:=q.foldl (fun s x=>s.set (endNo x.1).toNat (x.2:Int)) (List.replicate m2 (-1))
def allQ (p:Pl):List (E × Nat):=p.nodes.flatMap fun nd=>nd.ends.zipIdx
def slotsOf (p:Pl):List Int:=fillS (2 * p.rails.length) (allQ p)
theorem fillS_snoc (m2:Nat) (q:List (E × Nat)) (x:E × Nat):fillS m2 (q ++ [x])=(fillS m2 q).set (endNo x.1).toNat (x.2:Int):=by simp [fillS]
theorem fillS_len (m2:Nat) (q:List (E × Nat)):(fillS m2 q).length=m2:=by
 rcases List.eq_nil_or_concat q with rfl|⟨r,x,rfl⟩
 ·simp [fillS]
 ·rw [List.concat_eq_append,fillS_snoc,List.length_set];exact fillS_len m2 r
 termination_by q.length
theorem fillS_sign (m2:Nat) (q:List (E × Nat)) (i:Nat) (hi:i<(fillS m2 q).length):0≤(fillS m2 q)[i] ↔ ∃x∈q,(endNo x.1).toNat=i:=by
 rcases List.eq_nil_or_concat q with rfl|⟨r,x,rfl⟩
 ·simp [fillS]
 ·simp only [List.concat_eq_append,fillS_snoc,List.getElem_set]
  have hl:i<(fillS m2 r).length:=by rw [fillS_len] at hi ⊢;exact hi
  by_cases h:(endNo x.1).toNat=i
  ·rw [if_pos h]
   exact⟨fun _=>⟨x,by simp,h⟩,fun _=>by omega⟩
  ·rw [if_neg h,fillS_sign m2 r i hl]
   constructor
   ·rintro⟨y,hy,he⟩;exact⟨y,by simp [hy],he⟩
   ·rintro⟨y,hy,he⟩
    rcases List.mem_append.1 hy with hy|hy
    ·exact⟨y,hy,he⟩
    ·simp at hy;subst hy;exact absurd he h
 termination_by q.length
theorem endNo_inj {e e':E} (h0:0≤e.rail) (h0':0≤e'.rail) (h:(endNo e).toNat=(endNo e').toNat):e=e':=by
 obtain⟨r,l⟩:=e
 obtain⟨r',l'⟩:=e'
 simp only [endNo] at *
 cases l <;> cases l' <;> simp at * <;> omega
theorem endNo_bd {p:Pl} {i:Nat} {e:E} (h:okE p i e):0≤endNo e∧endNo e<2 * (p.rails.length:Int):=by
 obtain⟨h1,h2,_⟩:=h
 unfold endNo
 split <;> omega
def nodeAtZ (p:Pl) (x:Int):Int:=if x % 2=1 then ((p.rails[(x / 2).toNat]?).map (·.to)).getD 0 else ((p.rails[(x / 2).toNat]?).map (·.frm)).getD 0
theorem nodeAtZ_end (p:Pl) (e:E) (h:0≤e.rail):nodeAtZ p (endNo e)=atZ p e:=by
 obtain⟨r,l⟩:=e
 have h':0≤r:=h
 unfold nodeAtZ endNo atZ
 cases l
 ·simp only [Bool.false_eq_true,if_false]
  rw [if_neg (by omega),show 2 * r / 2=r by omega]
 ·simp only [if_true]
  rw [if_pos (by omega),show (2 * r+1) / 2=r by omega]
def befE (p:Pl) (i k:Nat):List E:=(p.nodes.take i).flatMap (·.ends) ++ (((p.nodes[i]?).map (·.ends)).getD []).take k
def befQ (p:Pl) (i k:Nat):List (E × Nat):=(p.nodes.take i).flatMap (fun nd=>nd.ends.zipIdx) ++ ((((p.nodes[i]?).map (·.ends)).getD []).zipIdx).take k
theorem befE_zero (p:Pl):befE p 0 0= []:=by simp [befE]
theorem befQ_zero (p:Pl):befQ p 0 0= []:=by simp [befQ]
theorem node_getD {α : Type} {p:Pl} {i:Nat} (hi:i<p.nodes.length) (f:N→List α):((p.nodes[i]?).map f).getD []=f p.nodes[i]:=by rw [List.getElem?_eq_getElem hi];rfl
theorem befE_next {p:Pl} {i:Nat} (hi:i<p.nodes.length):befE p i p.nodes[i].ends.length=befE p (i+1) 0:=by
 unfold befE
 rw [node_getD hi,List.take_length,List.take_zero,List.append_nil,List.take_succ_eq_append_getElem hi,List.flatMap_append]
 simp
theorem befQ_next {p:Pl} {i:Nat} (hi:i<p.nodes.length):befQ p i p.nodes[i].ends.length=befQ p (i+1) 0:=by
 unfold befQ
 rw [node_getD hi (·.ends),List.take_of_length_le (l:=p.nodes[i].ends.zipIdx) (by simp),List.take_zero,List.append_nil,List.take_succ_eq_append_getElem hi,List.flatMap_append]
 simp
theorem befE_succ {p:Pl} {i k:Nat} (hi:i<p.nodes.length) (hk:k<p.nodes[i].ends.length):befE p i (k+1)=befE p i k ++ [p.nodes[i].ends[k]]:=by
 unfold befE
 rw [node_getD hi,List.take_succ_eq_append_getElem hk,List.append_assoc]
theorem befQ_succ {p:Pl} {i k:Nat} (hi:i<p.nodes.length) (hk:k<p.nodes[i].ends.length):befQ p i (k+1)=befQ p i k ++ [(p.nodes[i].ends[k],k)]:=by
 unfold befQ
 rw [node_getD hi,List.take_succ_eq_append_getElem (by simpa using hk),List.append_assoc]
 simp
theorem befE_all (p:Pl):befE p p.nodes.length 0=flatE p:=by simp [befE,flatE]
theorem befQ_all (p:Pl):befQ p p.nodes.length 0=allQ p:=by simp [befQ,allQ]
theorem zip_fst (l:List E):l.zipIdx.map (·.1)=l:=by
 apply List.ext_getElem <;> simp
theorem befQ_fst (p:Pl) (i k:Nat):(befQ p i k).map (·.1)=befE p i k:=by
 simp only [befQ,befE,List.map_append,List.map_flatMap,List.map_take,zip_fst]
theorem flatE_split {p:Pl} {i k:Nat} (hi:i<p.nodes.length) (hk:k<p.nodes[i].ends.length):∃r,flatE p=befE p i k ++ p.nodes[i].ends[k] :: r:=by
 refine⟨p.nodes[i].ends.drop (k+1) ++ (p.nodes.drop (i+1)).flatMap (·.ends), ?_⟩
 have h1:p.nodes=p.nodes.take i ++ p.nodes[i] :: p.nodes.drop (i+1):=by
  rw [List.getElem_cons_drop hi,List.take_append_drop]
 have h2:p.nodes[i].ends=p.nodes[i].ends.take k ++ p.nodes[i].ends[k] :: p.nodes[i].ends.drop (k+1):=by
  rw [List.getElem_cons_drop hk,List.take_append_drop]
 unfold flatE
 conv=>lhs;rw [h1]
 rw [List.flatMap_append,List.flatMap_cons]
 unfold befE
 rw [node_getD hi,List.append_assoc,←List.cons_append,←List.append_assoc (List.take k _),←h2]
structure OkTo (p:Pl) (i k:Nat):Prop where
 old:∀j (hj:j<p.nodes.length),j<i→∀e∈p.nodes[j].ends,okE p j e
 cur:∀(hi:i<p.nodes.length) s (hs:s<p.nodes[i].ends.length),s<k→okE p i p.nodes[i].ends[s]
 nd:(befE p i k).Nodup
theorem OkTo.start (p:Pl):OkTo p 0 0:=⟨fun _ _ h=>absurd h (by omega),fun _ _ _ h=>absurd h (by omega),by rw [befE_zero];exact List.nodup_nil⟩
theorem OkTo.mem {p:Pl} {i k:Nat} (h:OkTo p i k) {e:E} (he:e∈befE p i k):∃j,okE p j e:=by
 rcases List.mem_append.1 he with he|he
 ·obtain⟨nd,hnd,he⟩:=List.mem_flatMap.1 he
  obtain⟨j,hj,rfl⟩:=List.getElem_of_mem hnd
  have hj':j<i∧j<p.nodes.length:=by simp at hj;omega
  rw [List.getElem_take] at he
  exact⟨j,h.old j hj'.2 hj'.1 e he⟩
 ·by_cases hi:i<p.nodes.length
  ·rw [node_getD hi (·.ends)] at he
   obtain⟨s,hs,rfl⟩:=List.getElem_of_mem he
   have hs':s<k∧s<p.nodes[i].ends.length:=by simp at hs;omega
   rw [List.getElem_take]
   exact⟨i,h.cur hi s hs'.2 hs'.1⟩
  ·rw [List.getElem?_eq_none (by omega)] at he
   simp at he
theorem OkTo.next {p:Pl} {i:Nat} (hi:i<p.nodes.length) (h:OkTo p i p.nodes[i].ends.length):OkTo p (i+1) 0:=by
 refine⟨fun j hj hji e he=> ?_,fun _ _ _ h=>absurd h (by omega),by rw [←befE_next hi];exact h.nd⟩
 by_cases e1:j=i
 ·subst e1
  obtain⟨s,hs,rfl⟩:=List.getElem_of_mem he
  exact h.cur hj s hs hs
 ·exact h.old j hj (by omega) e he
theorem OkTo.step {p:Pl} {i k:Nat} (hi:i<p.nodes.length) (hk:k<p.nodes[i].ends.length) (h:OkTo p i k) (h1:okE p i p.nodes[i].ends[k]) (h2:p.nodes[i].ends[k] ∉ befE p i k):OkTo p i (k+1):=by
 refine⟨h.old,fun hi' s hs hsk=> ?_, ?_⟩
 ·by_cases e1:s=k
  ·subst e1;exact h1
  ·exact h.cur hi' s hs (by omega)
 ·rw [befE_succ hi hk]
  exact List.nodup_append.2 ⟨h.nd,by simp,fun a ha b hb e=>by simp at hb;subst hb;subst e;exact h2 ha⟩
theorem slot_sign {p:Pl} {i k:Nat} (h:OkTo p i k) {e:E} (h0:0≤e.rail) (m2:Nat) (hl:(endNo e).toNat<(fillS m2 (befQ p i k)).length) :
  0≤(fillS m2 (befQ p i k))[(endNo e).toNat] ↔ e∈befE p i k:=by
 rw [fillS_sign,←befQ_fst]
 constructor
 ·rintro⟨x,hx,he⟩
  have hm:x.1∈(befQ p i k).map (·.1):=List.mem_map.2 ⟨x,hx,rfl⟩
  obtain⟨j,hj⟩:=h.mem (by rw [←befQ_fst];exact hm)
  rw [←endNo_inj hj.1 h0 he];exact hm
 ·intro hm
  obtain⟨x,hx,he⟩:=List.mem_map.1 hm
  exact⟨x,hx,by rw [he]⟩
theorem not_ok_bad {p:Pl} {i k:Nat} (hi:i<p.nodes.length) (hk:k<p.nodes[i].ends.length) (h:¬okE p i p.nodes[i].ends[k]):¬okEnds p:=
 fun ho=>h (ho.1 i hi _ (List.getElem_mem hk))
theorem not_ok_twice {p:Pl} {i k:Nat} (hi:i<p.nodes.length) (hk:k<p.nodes[i].ends.length) (h:p.nodes[i].ends[k]∈befE p i k):¬okEnds p:=by
 intro ho
 obtain⟨r,hr⟩:=flatE_split hi hk
 have:=ho.2.1
 rw [hr,List.nodup_append] at this
 exact this.2.2 _ h _ (by simp) rfl
theorem ok_all {p:Pl} (h:OkTo p p.nodes.length 0):okEnds p ↔ (befE p p.nodes.length 0).length=2 * p.rails.length:=by
 rw [befE_all]
 have hn:=h.nd
 rw [befE_all] at hn
 exact⟨fun ho=>ho.2.2,fun hl=>⟨fun i hi e he=>h.old i hi hi e he,hn,hl⟩⟩
theorem befE_le {p:Pl} (h4:∀j (hj:j<p.nodes.length),p.nodes[j].ends.length≤4) (i k:Nat):(befE p i k).length≤4 * i+k:=by
 have h1:∀i,((p.nodes.take i).flatMap (·.ends)).length≤4 * i:=by
  intro i
  induction i with
  | zero=>simp
  | succ i ih=>
   by_cases hi:i<p.nodes.length
   ·rw [List.take_succ_eq_append_getElem hi,List.flatMap_append,List.length_append]
    have:=h4 i hi
    simp only [List.flatMap_cons,List.flatMap_nil,List.append_nil]
    omega
   ·rw [List.take_of_length_le (by omega)]
    rw [List.take_of_length_le (by omega)] at ih
    omega
 unfold befE
 have:=h1 i
 simp only [List.length_append,List.length_take]
 omega
open Go.RowKit
def normB (nd:N):Bool:=if nd.kind=5∨nd.kind=6 then (decide (1≤nd.normal) && decide (nd.normal≤2)) else decide (nd.normal=0)
def kindB (nd:N):Bool:=decide (endsZ nd.kind≠0) && decide ((nd.ends.length:Int)=endsZ nd.kind) && normB nd
def nodeB (nd:N):Bool:=spotB nd.spot && kindB nd
set_option maxRecDepth 100000 in
set_option maxHeartbeats 4000000 in
theorem kindRight_any (nd:N) (A:Option Addr) (c:Nat) (w:World) (hc:nd.ends.length≤c) (hm:c≤140737488351232) :
  Calls Tryz.prog 139 #[.agg #[O U nd.spot.x,O U nd.spot.y,O U nd.kind,.slice A nd.ends.length c,O U nd.normal]] w fun e w'=>e= .returned (.bool (kindB nd))∧Below w.heap.size w w':=by
 obtain⟨⟨x,y⟩,k,ends,nm⟩:=nd
 obtain⟨n,hn⟩:∃n,ends.length=n:=⟨_,rfl⟩
 by_cases h1:k<1
 ·have HK:=Z (show kindB ⟨⟨x,y⟩,k,ends,nm⟩=false by simp only [kindB];rw [show endsZ k=0 by unfold endsZ;repeat (rw [if_neg (by omega)])];rfl)
  have hk1:decide (k<1)=true:=by simp;omega
  go_enter Tryz.func139,Tryz.ntmps139
  go_wp2
  go_quiet (fail)
  go_wp2
  go_ret
  exact⟨by rw [HK.out];rfl,bDrewN ((Below.refl _ _).alloc (Nat.le_refl _) _) _⟩
 by_cases h6:6<k
 ·have HK:=Z (show kindB ⟨⟨x,y⟩,k,ends,nm⟩=false by simp only [kindB];rw [show endsZ k=0 by unfold endsZ;repeat (rw [if_neg (by omega)])];rfl)
  have hk1:decide (k<1)=false:=by simp;omega
  have hk6:decide (6<k)=true:=by simp;omega
  go_enter Tryz.func139,Tryz.ntmps139
  go_wp2
  go_quiet (fail)
  go_wp2
  go_ret
  exact⟨by rw [HK.out];rfl,bDrewN ((Below.refl _ _).alloc (Nat.le_refl _) _) _⟩
 have hk1:decide (k<1)=false:=by simp;omega
 have hk6:decide (6<k)=false:=by simp;omega
 have hnn:∀w2:World,Below (w.heap.size+1) (w.alloc (.cells #[O U x,O U y,O U k,.slice A n c,O U nm] 131)).drew w2→
   w2.cell? ⟨w.heap.size,2,none⟩=some (O U k)∧w2.cell? ⟨w.heap.size,3,none⟩=some (.slice A n c)∧w2.cell? ⟨w.heap.size,4,none⟩=some (O U nm)∧Below w.heap.size w w2:=fun w2 hb=>
  ⟨(hb.cell (p:=⟨w.heap.size,2,none⟩) (by simp)).trans (by go_keep),(hb.cell (p:=⟨w.heap.size,3,none⟩) (by simp)).trans (by go_keep),(hb.cell (p:=⟨w.heap.size,4,none⟩) (by simp)).trans (by go_keep),
   (((Below.refl _ _).alloc (Nat.le_refl _) _).drew).trans (hb.mono (by omega))⟩
 have HN:=Z hnn;clear hnn
 by_cases hl:(n:Int)=endsZ k
 ·have hl':(!((n:Int) == endsZ k))=false:=by simp [hl]
  have hl2:((n:Int) != endsZ k)=false:=by simp [hl]
  have HK:=Z (show kindB ⟨⟨x,y⟩,k,ends,nm⟩=normB ⟨⟨x,y⟩,k,ends,nm⟩ by
   simp only [kindB,hn,hl]
   rw [show decide (endsZ k≠0)=true by
    rcases (show k=1∨k=2∨k=3∨k=4∨k=5∨k=6 by omega) with h|h|h|h|h|h <;> subst h <;> rfl]
   simp)
  simp only [hn] at *
  have HL:=Z hl;clear hl
  by_cases hk:k=5∨k=6
  ·rcases hk with hk|hk
   ·subst hk
    by_cases n1:nm=1
    ·subst n1
     have HM:=Z (show kindB ⟨⟨x,y⟩,5,ends,1⟩=true by rw [HK.out];rfl)
     go_enter Tryz.func139,Tryz.ntmps139
     go_wp2_with fail
     go_region_held3 (fun w'=>w'.cell? ⟨w.heap.size,2,none⟩=some (O U 5)∧w'.cell? ⟨w.heap.size,3,none⟩=some (.slice A n c))
      (first|go_keep|exact⟨(hbf.cell (p:=⟨w.heap.size,2,none⟩) (by simp)).trans (by first|assumption|go_keep),(hbf.cell (p:=⟨w.heap.size,3,none⟩) (by simp)).trans (by first|assumption|go_keep)⟩)
      ((go_at_call 151;refine (endsOf_any _ _ (by omega) (by omega)).mono ?_;rintro e w2 ⟨rfl,hbf⟩))
     obtain⟨e2,e3,e4,hb⟩:=HN.out _ (hbf.mono (by simp))
     go_wp2
     go_ret
     exact⟨by rw [HM.out];rfl,hb⟩
    ·have n1':(nm == 1)=false:=by simp [n1]
     by_cases n2:nm=2
     ·subst n2
      have HM:=Z (show kindB ⟨⟨x,y⟩,5,ends,2⟩=true by rw [HK.out];rfl)
      go_enter Tryz.func139,Tryz.ntmps139
      go_wp2_with fail
      go_region_held3 (fun w'=>w'.cell? ⟨w.heap.size,2,none⟩=some (O U 5)∧w'.cell? ⟨w.heap.size,3,none⟩=some (.slice A n c))
       (first|go_keep|exact⟨(hbf.cell (p:=⟨w.heap.size,2,none⟩) (by simp)).trans (by first|assumption|go_keep),(hbf.cell (p:=⟨w.heap.size,3,none⟩) (by simp)).trans (by first|assumption|go_keep)⟩)
       ((go_at_call 151;refine (endsOf_any _ _ (by omega) (by omega)).mono ?_;rintro e w2 ⟨rfl,hbf⟩))
      obtain⟨e2,e3,e4,hb⟩:=HN.out _ (hbf.mono (by simp))
      go_wp2
      go_ret
      exact⟨by rw [HM.out];rfl,hb⟩
     ·have n2':(nm == 2)=false:=by simp [n2]
      have HM:=Z (show kindB ⟨⟨x,y⟩,5,ends,nm⟩=false by rw [HK.out];simp [normB];omega)
      clear n1 n2
      go_enter Tryz.func139,Tryz.ntmps139
      go_wp2_with fail
      go_region_held3 (fun w'=>w'.cell? ⟨w.heap.size,2,none⟩=some (O U 5)∧w'.cell? ⟨w.heap.size,3,none⟩=some (.slice A n c))
       (first|go_keep|exact⟨(hbf.cell (p:=⟨w.heap.size,2,none⟩) (by simp)).trans (by first|assumption|go_keep),(hbf.cell (p:=⟨w.heap.size,3,none⟩) (by simp)).trans (by first|assumption|go_keep)⟩)
       ((go_at_call 151;refine (endsOf_any _ _ (by omega) (by omega)).mono ?_;rintro e w2 ⟨rfl,hbf⟩))
      obtain⟨e2,e3,e4,hb⟩:=HN.out _ (hbf.mono (by simp))
      go_wp2
      go_ret
      exact⟨by rw [HM.out];rfl,hb⟩
   ·subst hk
    by_cases n1:nm=1
    ·subst n1
     have HM:=Z (show kindB ⟨⟨x,y⟩,6,ends,1⟩=true by rw [HK.out];rfl)
     go_enter Tryz.func139,Tryz.ntmps139
     go_wp2_with fail
     go_region_held3 (fun w'=>w'.cell? ⟨w.heap.size,2,none⟩=some (O U 6)∧w'.cell? ⟨w.heap.size,3,none⟩=some (.slice A n c))
      (first|go_keep|exact⟨(hbf.cell (p:=⟨w.heap.size,2,none⟩) (by simp)).trans (by first|assumption|go_keep),(hbf.cell (p:=⟨w.heap.size,3,none⟩) (by simp)).trans (by first|assumption|go_keep)⟩)
      ((go_at_call 151;refine (endsOf_any _ _ (by omega) (by omega)).mono ?_;rintro e w2 ⟨rfl,hbf⟩))
     obtain⟨e2,e3,e4,hb⟩:=HN.out _ (hbf.mono (by simp))
     go_wp2
     go_ret
     exact⟨by rw [HM.out];rfl,hb⟩
    ·have n1':(nm == 1)=false:=by simp [n1]
     by_cases n2:nm=2
     ·subst n2
      have HM:=Z (show kindB ⟨⟨x,y⟩,6,ends,2⟩=true by rw [HK.out];rfl)
      go_enter Tryz.func139,Tryz.ntmps139
      go_wp2_with fail
      go_region_held3 (fun w'=>w'.cell? ⟨w.heap.size,2,none⟩=some (O U 6)∧w'.cell? ⟨w.heap.size,3,none⟩=some (.slice A n c))
       (first|go_keep|exact⟨(hbf.cell (p:=⟨w.heap.size,2,none⟩) (by simp)).trans (by first|assumption|go_keep),(hbf.cell (p:=⟨w.heap.size,3,none⟩) (by simp)).trans (by first|assumption|go_keep)⟩)
       ((go_at_call 151;refine (endsOf_any _ _ (by omega) (by omega)).mono ?_;rintro e w2 ⟨rfl,hbf⟩))
      obtain⟨e2,e3,e4,hb⟩:=HN.out _ (hbf.mono (by simp))
      go_wp2
      go_ret
      exact⟨by rw [HM.out];rfl,hb⟩
     ·have n2':(nm == 2)=false:=by simp [n2]
      have HM:=Z (show kindB ⟨⟨x,y⟩,6,ends,nm⟩=false by rw [HK.out];simp [normB];omega)
      clear n1 n2
      go_enter Tryz.func139,Tryz.ntmps139
      go_wp2_with fail
      go_region_held3 (fun w'=>w'.cell? ⟨w.heap.size,2,none⟩=some (O U 6)∧w'.cell? ⟨w.heap.size,3,none⟩=some (.slice A n c))
       (first|go_keep|exact⟨(hbf.cell (p:=⟨w.heap.size,2,none⟩) (by simp)).trans (by first|assumption|go_keep),(hbf.cell (p:=⟨w.heap.size,3,none⟩) (by simp)).trans (by first|assumption|go_keep)⟩)
       ((go_at_call 151;refine (endsOf_any _ _ (by omega) (by omega)).mono ?_;rintro e w2 ⟨rfl,hbf⟩))
      obtain⟨e2,e3,e4,hb⟩:=HN.out _ (hbf.mono (by simp))
      go_wp2
      go_ret
      exact⟨by rw [HM.out];rfl,hb⟩
  ·have hk5:(k == 5)=false:=by simp;omega
   have hk6':(k == 6)=false:=by simp;omega
   by_cases n0:nm=0
   ·have HM:=Z (show kindB ⟨⟨x,y⟩,k,ends,nm⟩=true by rw [HK.out];simp only [normB];rw [if_neg hk];simp [n0])
    have n0':(nm == 0)=true:=by simp [n0]
    clear hk n0
    go_enter Tryz.func139,Tryz.ntmps139
    go_wp2_with fail
    go_region_held3 (fun w'=>w'.cell? ⟨w.heap.size,2,none⟩=some (O U k)∧w'.cell? ⟨w.heap.size,3,none⟩=some (.slice A n c))
     (first|go_keep|exact⟨(hbf.cell (p:=⟨w.heap.size,2,none⟩) (by simp)).trans (by first|assumption|go_keep),(hbf.cell (p:=⟨w.heap.size,3,none⟩) (by simp)).trans (by first|assumption|go_keep)⟩)
     ((go_at_call 151;refine (endsOf_any _ _ (by omega) (by omega)).mono ?_;rintro e w2 ⟨rfl,hbf⟩))
    obtain⟨e2,e3,e4,hb⟩:=HN.out _ (hbf.mono (by simp))
    go_wp2
    go_ret
    exact⟨by rw [HM.out];rfl,hb⟩
   ·have HM:=Z (show kindB ⟨⟨x,y⟩,k,ends,nm⟩=false by rw [HK.out];simp only [normB];rw [if_neg hk];simp [n0])
    have n0':(nm == 0)=false:=by simp [n0]
    clear hk n0
    go_enter Tryz.func139,Tryz.ntmps139
    go_wp2_with fail
    go_region_held3 (fun w'=>w'.cell? ⟨w.heap.size,2,none⟩=some (O U k)∧w'.cell? ⟨w.heap.size,3,none⟩=some (.slice A n c))
     (first|go_keep|exact⟨(hbf.cell (p:=⟨w.heap.size,2,none⟩) (by simp)).trans (by first|assumption|go_keep),(hbf.cell (p:=⟨w.heap.size,3,none⟩) (by simp)).trans (by first|assumption|go_keep)⟩)
     ((go_at_call 151;refine (endsOf_any _ _ (by omega) (by omega)).mono ?_;rintro e w2 ⟨rfl,hbf⟩))
    obtain⟨e2,e3,e4,hb⟩:=HN.out _ (hbf.mono (by simp))
    go_wp2
    go_ret
    exact⟨by rw [HM.out];rfl,hb⟩
 ·have hl':(!((n:Int) == endsZ k))=true:=by simp [hl]
  have HK:=Z (show kindB ⟨⟨x,y⟩,k,ends,nm⟩=false by simp only [kindB,hn];simp [hl])
  simp only [hn] at *
  go_enter Tryz.func139,Tryz.ntmps139
  go_wp2_with fail
  go_region_held3 (fun w'=>w'.cell? ⟨w.heap.size,2,none⟩=some (O U k)∧w'.cell? ⟨w.heap.size,3,none⟩=some (.slice A n c))
   (first|go_keep|exact⟨(hbf.cell (p:=⟨w.heap.size,2,none⟩) (by simp)).trans (by first|assumption|go_keep),(hbf.cell (p:=⟨w.heap.size,3,none⟩) (by simp)).trans (by first|assumption|go_keep)⟩)
   ((go_at_call 151;refine (endsOf_any _ _ (by omega) (by omega)).mono ?_;rintro e w2 ⟨rfl,hbf⟩))
  obtain⟨e2,e3,e4,hb⟩:=HN.out _ (hbf.mono (by simp))
  go_wp2
  go_ret
  exact⟨by rw [HK.out];rfl,hb⟩
open Go.RowKit
structure Net (w:World) (g:Nat) (A:Option Addr) (c:Nat) (A2:Option Addr) (c2:Nat) (p:Pl) (Lv Sv Nv Bv:Value):Prop where
 blk:w.heap[g]? = some (.cells #[.slice A p.nodes.length c,.slice A2 p.rails.length c2,Lv,Sv,Nv,Bv] 171 (0,0))
 pl:PlAt w g A c A2 c2 p
section
variable {w w':World} {g:Nat} {A A2:Option Addr} {c c2:Nat} {p:Pl} {Lv Sv Nv Bv:Value}
theorem Net.lt (h:Net w g A c A2 c2 p Lv Sv Nv Bv):g<w.heap.size:=(Array.getElem?_eq_some_iff.1 h.blk).1
theorem Net.cell (h:Net w g A c A2 c2 p Lv Sv Nv Bv) :
  w.cell? ⟨g,0,none⟩=some (.slice A p.nodes.length c)∧w.cell? ⟨g,1,none⟩=some (.slice A2 p.rails.length c2)∧w.cell? ⟨g,2,none⟩=some Lv∧w.cell? ⟨g,3,none⟩=some Sv∧w.cell? ⟨g,4,none⟩=some Nv∧w.cell? ⟨g,5,none⟩=some Bv:=by
 refine⟨?_, ?_, ?_, ?_, ?_, ?_⟩ <;> (rw [cell_of_row _ g _ _ 171 (0,0) h.blk];rfl)
theorem Net.frozen (h:Net w g A c A2 c2 p Lv Sv Nv Bv) (j:Nat):w.frozen? ⟨g,j,none⟩=false:=by
 simp [World.frozen?,h.blk]
theorem Net.below {B:Nat} (h:Net w g A c A2 c2 p Lv Sv Nv Bv) (hb:Below B w w') (hg:g<B):Net w' g A c A2 c2 p Lv Sv Nv Bv:=
 ⟨(hb.block g hg).trans h.blk,h.pl.below (hb.mono (by omega))⟩
end
def sizesB (p:Pl):Bool:=decide (1≤p.nodes.length∧p.nodes.length≤300∧1≤p.rails.length∧p.rails.length≤400)
theorem ret_bool' {a b:Bool} (h:a=b):Ending.returned (.bool a)= .returned (.bool b):=by rw [h]
set_option maxHeartbeats 1000000 in
theorem sizesRight_any (g:Nat) (A A2:Option Addr) (c c2:Nat) (p:Pl) (Lv Sv Nv Bv:Value) (w:World) (hN:Net w g A c A2 c2 p Lv Sv Nv Bv) :
  Calls Tryz.prog 116 #[.pointer (some ⟨g,0,none⟩)] w fun e w'=>e= .returned (.bool (sizesB p))∧Below w.heap.size w w':=by
 obtain⟨c0,c1,_,_,_,_⟩:=hN.cell
 have hnc:=hN.pl.nc;have hnm:=hN.pl.nm;have hrc:=hN.pl.rc;have hrm:=hN.pl.rm
 obtain⟨n,hn⟩:∃n,p.nodes.length=n:=⟨_,rfl⟩
 obtain⟨m,hm⟩:∃m,p.rails.length=m:=⟨_,rfl⟩
 have HS:=Z (show sizesB p=decide (1≤n∧n≤300∧1≤m∧m≤400) by simp only [sizesB,hn,hm])
 rw [hn] at c0 hnc
 rw [hm] at c1 hrc
 clear hN hn hm
 by_cases h1:1≤n
 ·by_cases h2:n≤300
  ·by_cases h3:1≤m
   ·by_cases h4:m≤400
    ·have HT:=Z (show sizesB p=true by rw [HS.out];simp;omega)
     go_enter Tryz.func116,Tryz.ntmps116
     go_wp2
     go_quiet (fail)
     go_wp2
     go_ret
     exact⟨by rw [HT.out];first|rfl|exact ret_bool' (by simp;omega),bDrewN (Below.refl _ _) _⟩
    ·have HT:=Z (show sizesB p=false by rw [HS.out];simp;omega)
     go_enter Tryz.func116,Tryz.ntmps116
     go_wp2
     go_quiet (fail)
     go_wp2
     go_ret
     exact⟨by rw [HT.out];first|rfl|exact ret_bool' (by simp;omega),bDrewN (Below.refl _ _) _⟩
   ·have HT:=Z (show sizesB p=false by rw [HS.out];simp;omega)
    go_enter Tryz.func116,Tryz.ntmps116
    go_wp2
    go_quiet (fail)
    go_wp2
    go_ret
    exact⟨by rw [HT.out];first|rfl|exact ret_bool' (by simp;omega),bDrewN (Below.refl _ _) _⟩
  ·have HT:=Z (show sizesB p=false by rw [HS.out];simp;omega)
   go_enter Tryz.func116,Tryz.ntmps116
   go_wp2
   go_quiet (fail)
   go_wp2
   go_ret
   exact⟨by rw [HT.out];first|rfl|exact ret_bool' (by simp;omega),bDrewN (Below.refl _ _) _⟩
 ·have HT:=Z (show sizesB p=false by rw [HS.out];simp;omega)
  go_enter Tryz.func116,Tryz.ntmps116
  go_wp2
  go_quiet (fail)
  go_wp2
  go_ret
  exact⟨by rw [HT.out];first|rfl|exact ret_bool' (by simp;omega),bDrewN (Below.refl _ _) _⟩
theorem all_no' {α : Type} {l:List α} {f: α→Bool} {k:Nat} (hk:k<l.length) (h:f l[k]=false):l.all f=false:=by
 rw [Bool.eq_false_iff];intro ha
 rw [List.all_eq_true] at ha
 have:=ha l[k] (List.getElem_mem hk)
 simp [h] at this
theorem all_yes' {α : Type} {l:List α} {f: α→Bool} (h:∀k (hk:k<l.length),f l[k]=true):l.all f=true:=by
 rw [List.all_eq_true];intro x hx
 obtain⟨k,hk,rfl⟩:=List.getElem_of_mem hx
 exact h k hk
set_option maxRecDepth 100000 in
set_option maxHeartbeats 2000000 in
theorem nodesRight_any (g:Nat) (A A2:Option Addr) (c c2:Nat) (p:Pl) (Lv Sv Nv Bv:Value) (w:World) (hN:Net w g A c A2 c2 p Lv Sv Nv Bv) :
  Calls Tryz.prog 117 #[.pointer (some ⟨g,0,none⟩)] w fun e w'=>e= .returned (.bool (p.nodes.all nodeB))∧Below w.heap.size w w':=by
 obtain⟨c0,c1,_,_,_,_⟩:=hN.cell
 have hnc:=hN.pl.nc;have hnm:=hN.pl.nm
 have hP:=hN.pl
 have hgl:=hN.lt
 go_enter Tryz.func117,Tryz.ntmps117
 go_wp2
 go_loopw [11] (fun i wr=>∃k:Nat,k≤p.nodes.length∧i=O U (k:Int)∧(∀j (hj:j<p.nodes.length),j<k→nodeB p.nodes[j]=true)∧Below w.heap.size w wr) (fun i _=>p.nodes.length - (intOf i).toNat)
 case atStart=>exact⟨0,by omega,rfl,fun j _ h=>absurd h (by omega),Below.refl _ _⟩
 case round=>
  obtain⟨k,hk,rfl,hall,hbw⟩:=hrel
  have HA:=Z hall;clear hall
  by_cases hlt:k<p.nodes.length
  ·obtain⟨b,off,A',c',hA,hb,hE,hc1,hc2,k0,k1,k2,k3,k4⟩:=hP.node hlt
   subst hA
   have hsz:=hbw.size
   have d0:=(hbw.cell (p:=⟨b,off+k * 5,none⟩) (by simp;omega)).trans k0
   have d1:=(hbw.cell (p:=⟨b,off+k * 5+1,none⟩) (by simp;omega)).trans k1
   have d2:=(hbw.cell (p:=⟨b,off+k * 5+2,none⟩) (by simp;omega)).trans k2
   have d3:=(hbw.cell (p:=⟨b,off+k * 5+3,none⟩) (by simp;omega)).trans k3
   have d4:=(hbw.cell (p:=⟨b,off+k * 5+4,none⟩) (by simp;omega)).trans k4
   have hbb:b<wr.heap.size:=by omega
   clear k0 k1 k2 k3 k4 hN hP c0 c1 hE
   cases hs:spotB p.nodes[k].spot
   ·have HB:=Z (show p.nodes.all nodeB=false from all_no' hlt (by simp [nodeB,hs]))
    go_wp2_with (go_at_call 138;refine (spotRight_any p.nodes[k].spot _).mono ?_;rintro e w2 ⟨rfl,hb2⟩)
    go_ret
    exact⟨by rw [HB.out];rfl,(hbw.alloc (by omega) _).trans (hb2.mono (by simp;omega))⟩
   ·cases hk:kindB p.nodes[k]
    ·have HB:=Z (show p.nodes.all nodeB=false from all_no' hlt (by simp [nodeB,hk]))
     go_wp2_with (first
      | (go_at_call 138;refine (spotRight_any p.nodes[k].spot _).mono ?_;rintro e w2 ⟨rfl,hb2⟩;obtain⟨hc2',hf2'⟩:=bcell hb2;have hz2:=hb2.size;simp at hz2)
      | (go_at_call 139;refine (kindRight_any p.nodes[k] A' c' _ hc1 hc2).mono ?_;rintro e w3 ⟨rfl,hb3⟩))
     go_ret
     exact⟨by rw [HB.out];rfl,((hbw.alloc (by omega) _).trans (hb2.mono (by simp;omega))).trans (hb3.mono (by omega))⟩
    ·have HB:=Z (show nodeB p.nodes[k]=true by simp [nodeB,hs,hk])
     go_wp2_with (first
      | (go_at_call 138;refine (spotRight_any p.nodes[k].spot _).mono ?_;rintro e w2 ⟨rfl,hb2⟩;obtain⟨hc2',hf2'⟩:=bcell hb2;have hz2:=hb2.size;simp at hz2)
      | (go_at_call 139;refine (kindRight_any p.nodes[k] A' c' _ hc1 hc2).mono ?_;rintro e w3 ⟨rfl,hb3⟩))
     go_roundw
     case rel=>exact⟨k+1,by omega,by go_num,fun j hj hjk=>if h:j=k then by subst h;exact HB.out else HA.out j hj (by omega),((hbw.alloc (by omega) _).trans (hb2.mono (by simp;omega))).trans (hb3.mono (by omega))⟩
     case measure=>simp [intOf];omega
  ·obtain rfl:k=p.nodes.length:=by omega
   have HB:=Z (show p.nodes.all nodeB=true from all_yes' fun j hj=>HA.out j hj hj)
   go_wp2
   go_ret
   exact⟨by rw [HB.out];rfl,hbw⟩
open Go.RowKit
def railN (n:Nat) (r:R):Bool:=decide (0≤r.frm∧r.frm<(n:Int)∧0≤r.to∧r.to<(n:Int)∧r.shape.length≤30∧1≤r.limit∧r.limit≤50000∧ -120≤r.slope∧r.slope≤120)
def railB (n:Nat) (r:R):Bool:=railN n r && r.shape.all spotB
set_option maxRecDepth 100000 in
set_option maxHeartbeats 4000000 in
theorem railRight_any (g:Nat) (A A2:Option Addr) (c c2:Nat) (p:Pl) (Lv Sv Nv Bv:Value) (r:R) (A':Option Addr) (c':Nat) (w:World) (hN:Net w g A c A2 c2 p Lv Sv Nv Bv)
  (hS:Sl w g 2 CS A' r.shape) (hc1:r.shape.length≤c') (hc2:c'≤140737488351232) :
  Calls Tryz.prog 140 #[.pointer (some ⟨g,0,none⟩),.agg #[O U r.frm,O U r.to,.slice A' r.shape.length c',O U r.limit,O U r.slope]] w fun e w'=>e= .returned (.bool (railB p.nodes.length r))∧Below w.heap.size w w':=by
 obtain⟨c0,c1,_,_,_,_⟩:=hN.cell
 have hnc:=hN.pl.nc;have hnm:=hN.pl.nm
 have hgl:=hN.lt
 obtain⟨n,hn⟩:∃n,p.nodes.length=n:=⟨_,rfl⟩
 rw [hn] at c0 hnc ⊢
 clear hN hn c1
 have HN:=Z (fun h:railN n r=false=>show railB n r=false by simp [railB,h])
 by_cases q1:0≤r.frm
 ·have d1:decide (r.frm<0)=false:=by simp;omega
  by_cases q2:r.frm<(n:Int)
  ·have d2:decide ((n:Int)≤r.frm)=false:=by simp;omega
   by_cases q3:0≤r.to
   ·have d3:decide (r.to<0)=false:=by simp;omega
    by_cases q4:r.to<(n:Int)
    ·have d4:decide ((n:Int)≤r.to)=false:=by simp;omega
     by_cases q5:r.shape.length≤30
     ·have d5:decide (30<(r.shape.length:Int))=false:=by simp;omega
      by_cases q6:1≤r.limit
      ·have d6:decide (r.limit<1)=false:=by simp;omega
       by_cases q7:r.limit≤50000
       ·have d7:decide (50000<r.limit)=false:=by simp;omega
        by_cases q8: -120≤r.slope
        ·have d8:decide (r.slope< -120)=false:=by simp;omega
         by_cases q9:r.slope≤120
         ·have d9:decide (120<r.slope)=false:=by simp;omega
          have HP:=Z (show railN n r=true by simp [railN];omega)
          clear d1 d2 d3 d4
          have d1:decide (r.frm<0)=false:=by simp;omega
          have d2:decide ((n:Int)≤r.frm)=false:=by simp;omega
          have d3:decide (r.to<0)=false:=by simp;omega
          have d4:decide ((n:Int)≤r.to)=false:=by simp;omega
          go_enter Tryz.func140,Tryz.ntmps140
          go_wp2
          go_quiet (fail)
          go_wp2
          go_loopw [62] (fun i wr=>∃k:Nat,k≤r.shape.length∧i=O U (k:Int)∧(∀j (hj:j<r.shape.length),j<k→spotB r.shape[j]=true)∧Below w.heap.size w wr) (fun i _=>r.shape.length - (intOf i).toNat)
          case atStart=>exact⟨0,by omega,rfl,fun j _ h=>absurd h (by omega),bDrewN ((Below.refl _ _).alloc (Nat.le_refl _) _) _⟩
          case round=>
           obtain⟨k,hk,rfl,hall,hbw⟩:=hrel
           have HA:=Z hall;clear hall
           by_cases hlt:k<r.shape.length
           ·obtain⟨b,off,hA,hb,k0,k1⟩:=spot_at hS hlt
            subst hA
            have hsz:=hbw.size
            have d0:=(hbw.cell (p:=⟨b,off+k * 2,none⟩) (by simp;omega)).trans k0
            have d1:=(hbw.cell (p:=⟨b,off+k * 2+1,none⟩) (by simp;omega)).trans k1
            have hbb:b<wr.heap.size:=by omega
            clear k0 k1 c0
            cases hs:spotB r.shape[k]
            ·have HB:=Z (show railB n r=false by simp only [railB];rw [all_no' hlt hs];simp)
             go_wp2_with (go_at_call 138;refine (spotRight_any r.shape[k] _).mono ?_;rintro e w2 ⟨rfl,hb2⟩)
             go_ret
             exact⟨by rw [HB.out];rfl,(hbw.alloc (by omega) _).trans (hb2.mono (by simp;omega))⟩
            ·have HB:=Z hs
             go_wp2_with (go_at_call 138;refine (spotRight_any r.shape[k] _).mono ?_;rintro e w2 ⟨rfl,hb2⟩)
             go_roundw
             case rel=>exact⟨k+1,by omega,by go_num,fun j hj hjk=>if h:j=k then by subst h;exact HB.out else HA.out j hj (by omega),(hbw.alloc (by omega) _).trans (hb2.mono (by simp;omega))⟩
             case measure=>simp [intOf];omega
           ·obtain rfl:k=r.shape.length:=by omega
            have HB:=Z (show railB n r=true by simp only [railB];rw [HP.out,all_yes' fun j hj=>HA.out j hj hj];rfl)
            go_wp2
            go_ret
            exact⟨by rw [HB.out];rfl,hbw⟩
         ·have e9:decide (120<r.slope)=true:=by simp;omega
          have HB:=Z (HN.out (by simp [railN];omega));clear HN
          go_enter Tryz.func140,Tryz.ntmps140
          go_wp2
          go_quiet (fail)
          go_wp2
          go_ret
          exact⟨by rw [HB.out];rfl,bDrewN ((Below.refl _ _).alloc (Nat.le_refl _) _) _⟩
        ·have e8:decide (r.slope< -120)=true:=by simp;omega
         have HB:=Z (HN.out (by simp [railN];omega));clear HN
         go_enter Tryz.func140,Tryz.ntmps140
         go_wp2
         go_quiet (fail)
         go_wp2
         go_ret
         exact⟨by rw [HB.out];rfl,bDrewN ((Below.refl _ _).alloc (Nat.le_refl _) _) _⟩
       ·have e7:decide (50000<r.limit)=true:=by simp;omega
        have HB:=Z (HN.out (by simp [railN];omega));clear HN
        go_enter Tryz.func140,Tryz.ntmps140
        go_wp2
        go_quiet (fail)
        go_wp2
        go_ret
        exact⟨by rw [HB.out];rfl,bDrewN ((Below.refl _ _).alloc (Nat.le_refl _) _) _⟩
      ·have e6:decide (r.limit<1)=true:=by simp;omega
       have HB:=Z (HN.out (by simp [railN];omega));clear HN
       go_enter Tryz.func140,Tryz.ntmps140
       go_wp2
       go_quiet (fail)
       go_wp2
       go_ret
       exact⟨by rw [HB.out];rfl,bDrewN ((Below.refl _ _).alloc (Nat.le_refl _) _) _⟩
     ·have e5:decide (30<(r.shape.length:Int))=true:=by simp;omega
      have HB:=Z (HN.out (by simp [railN];omega));clear HN
      go_enter Tryz.func140,Tryz.ntmps140
      go_wp2
      go_quiet (fail)
      go_wp2
      go_ret
      exact⟨by rw [HB.out];rfl,bDrewN ((Below.refl _ _).alloc (Nat.le_refl _) _) _⟩
    ·have e4:decide ((n:Int)≤r.to)=true:=by simp;omega
     have HB:=Z (HN.out (by simp [railN];omega));clear HN
     go_enter Tryz.func140,Tryz.ntmps140
     go_wp2
     go_quiet (fail)
     go_wp2
     go_ret
     exact⟨by rw [HB.out];rfl,bDrewN ((Below.refl _ _).alloc (Nat.le_refl _) _) _⟩
   ·have e3:decide (r.to<0)=true:=by simp;omega
    have HB:=Z (HN.out (by simp [railN];omega));clear HN
    go_enter Tryz.func140,Tryz.ntmps140
    go_wp2
    go_quiet (fail)
    go_wp2
    go_ret
    exact⟨by rw [HB.out];rfl,bDrewN ((Below.refl _ _).alloc (Nat.le_refl _) _) _⟩
  ·have e2:decide ((n:Int)≤r.frm)=true:=by simp;omega
   have HB:=Z (HN.out (by simp [railN];omega));clear HN
   go_enter Tryz.func140,Tryz.ntmps140
   go_wp2
   go_quiet (fail)
   go_wp2
   go_ret
   exact⟨by rw [HB.out];rfl,bDrewN ((Below.refl _ _).alloc (Nat.le_refl _) _) _⟩
 ·have e1:decide (r.frm<0)=true:=by simp;omega
  have HB:=Z (HN.out (by simp [railN];omega));clear HN
  go_enter Tryz.func140,Tryz.ntmps140
  go_wp2
  go_quiet (fail)
  go_wp2
  go_ret
  exact⟨by rw [HB.out];rfl,bDrewN ((Below.refl _ _).alloc (Nat.le_refl _) _) _⟩
open Go.RowKit
def IRow (w:World) (b:Nat) (l:List Int):Prop:=w.heap[b]? = some (.cells (l.map (Value.int .i64)).toArray 3 (0,0))
theorem heap_set_sameG {w:World} {b i:Nat} {cs:Array Value} {t:TypeId} {f:Nat × Nat} (u:Value) (h:w.heap[b]? = some (.cells cs t f)) :
  (w.setCell ⟨b,i,none⟩ u).heap[b]? = some (.cells (cs.setIfInBounds i u) t f):=by
 simp [World.setCell,Array.getElem?_modify,h]
section
variable {w w':World} {b:Nat} {l:List Int}
theorem IRow.lt (h:IRow w b l):b<w.heap.size:=(Array.getElem?_eq_some_iff.1 h).1
theorem IRow.cell (h:IRow w b l) {i:Nat} (hi:i<l.length):w.cell? ⟨b,i,none⟩=some (O U l[i]):=by
 rw [cell_of_row _ b i _ 3 (0,0) h]
 simp [hi]
theorem IRow.frozen (h:IRow w b l) (j:Nat):w.frozen? ⟨b,j,none⟩=false:=by
 unfold IRow at h
 simp [World.frozen?,h]
theorem IRow.of (h:IRow w b l) (e:w'.heap[b]? = w.heap[b]?):IRow w' b l:=e.trans h
theorem IRow.below {B:Nat} (h:IRow w b l) (hb:Below B w w') (hB:b<B):IRow w' b l:=h.of (hb.block b hB)
theorem IRow.other (h:IRow w b l) {p:Addr} (u:Value) (hp:b≠p.block):IRow (w.setCell p u) b l:=h.of (Below.heap_setCell w p u b hp)
theorem IRow.alloc (h:IRow w b l) (o:Obj):IRow (w.alloc o) b l:=h.of (Below.heap_alloc w o b h.lt)
theorem IRow.set (h:IRow w b l) (i:Nat) (x:Int):IRow (w.setCell ⟨b,i,none⟩ (O U x)) b (l.set i x):=by
 unfold IRow
 rw [heap_set_sameG _ h]
 simp [List.map_set]
theorem IRow.sl (h:IRow w b l):Sl w (b+1) 1 CI (some ⟨b,0,none⟩) l:=by
 intro _
 refine⟨b,0,rfl,by omega,fun i x hx=>⟨_,rfl,fun j u hu=> ?_⟩⟩
 obtain⟨hi,rfl⟩:=List.getElem?_eq_some_iff.1 hx
 cases j with
 | succ j=>simp at hu
 | zero=>
  obtain rfl:_=u:=Option.some.inj hu
  have:=h.cell hi
  simpa using this
theorem IRow.made (w:World) (m:Nat):IRow (w.alloc (.cells (madeCells #[O U 0] m) 3)) w.heap.size (List.replicate m 0):=by
 unfold IRow
 rw [heap_alloc_new]
 congr 2
 apply Array.ext
 ·simp [madeCells]
 ·intro i h1 h2
  simp [madeCells,Nat.mod_one]
end
def Gr (g:Nat) (w w':World):Prop:=w.grownBy w' (some g)
section
variable {w w' w'':World} {g B:Nat}
theorem Gr.refl (g:Nat) (w:World):Gr g w w:=⟨rfl,rfl,rfl,Nat.le_refl _,fun _ _ _=>rfl⟩
theorem Gr.trans (h:Gr g w w') (k:Gr g w' w''):Gr g w w'':=
 ⟨k.os.trans h.os,k.tape.trans h.tape,k.output.trans h.output,Nat.le_trans h.size k.size,fun i hi hr=>(k.block i (Nat.lt_of_lt_of_le hi h.size) hr).trans (h.block i hi hr)⟩
theorem Gr.below (h:Gr g w w') (k:Below B w' w'') (hB:w.heap.size≤B):Gr g w w'':=
 ⟨k.os.trans h.os,k.tape.trans h.tape,k.output.trans h.output,Nat.le_trans h.size k.size,fun i hi hr=>(k.block i (by omega)).trans (h.block i hi hr)⟩
theorem Gr.of_below (k:Below B w w') (hB:w.heap.size≤B) (g:Nat):Gr g w w':=(Gr.refl g w).below k hB
theorem Gr.alloc (h:Gr g w w') (o:Obj):Gr g w (w'.alloc o):=h.trans ⟨rfl,rfl,rfl,by simp,fun k hk _=>Below.heap_alloc _ _ _ hk⟩
theorem Gr.drew (h:Gr g w w'):Gr g w w'.drew:=⟨h.os,h.tape,h.output,h.size,h.block⟩
theorem Gr.drewN (h:Gr g w w') (n:Nat):Gr g w (w'.drewN n):=⟨h.os,h.tape,h.output,h.size,h.block⟩
theorem Gr.set (h:Gr g w w') {p:Addr} (u:Value) (hp:p.block=g∨w.heap.size≤p.block):Gr g w (w'.setCell p u):=
 ⟨h.os,h.tape,h.output,by simpa [World.setCell] using h.size,fun i hi hr=>(Below.heap_setCell _ _ _ _ (by rintro rfl;rcases hp with e|e;exact hr (by rw [e]);omega)).trans (h.block i hi hr)⟩
theorem Gr.grown {row:Option Nat} (h:Gr g w w') (k:w'.grownBy w'' row) (hr:∀j,row=some j→w.heap.size≤j):Gr g w w'':=
 ⟨k.os.trans h.os,k.tape.trans h.tape,k.output.trans h.output,Nat.le_trans h.size k.size,fun i hi hn=>(k.block i (Nat.lt_of_lt_of_le hi h.size) (fun e=>by have:=hr i e.symm;omega)).trans (h.block i hi hn)⟩
theorem Gr.toBelow (h:Gr g w w') (hg:g≤w.heap.size):Below g w w':=
 ⟨h.os,h.tape,h.output,h.size,fun k hk=>h.block k (by omega) (by simp;omega)⟩
end
section
variable {w w':World} {g:Nat} {A A2:Option Addr} {c c2:Nat} {p:Pl} {Lv Sv Nv Bv:Value}
theorem Net.of (h:Net w g A c A2 c2 p Lv Sv Nv Bv) (hb:Below g w w') (e:w'.heap[g]? = w.heap[g]?):Net w' g A c A2 c2 p Lv Sv Nv Bv:=
 ⟨e.trans h.blk,h.pl.below hb⟩
theorem Net.alloc (h:Net w g A c A2 c2 p Lv Sv Nv Bv) (o:Obj):Net (w.alloc o) g A c A2 c2 p Lv Sv Nv Bv:=
 h.of ((Below.refl g w).alloc (Nat.le_of_lt h.lt) o) (Below.heap_alloc w o g h.lt)
theorem Net.other (h:Net w g A c A2 c2 p Lv Sv Nv Bv) {q:Addr} (u:Value) (hq:g<q.block):Net (w.setCell q u) g A c A2 c2 p Lv Sv Nv Bv:=
 h.of ((Below.refl g w).setCell (Nat.le_of_lt hq) u) (Below.heap_setCell w q u g (Nat.ne_of_lt hq))
theorem Net.drewN (h:Net w g A c A2 c2 p Lv Sv Nv Bv) (n:Nat):Net (w.drewN n) g A c A2 c2 p Lv Sv Nv Bv:=h.of (bDrewN (Below.refl g w) n) rfl
theorem Net.set2 (h:Net w g A c A2 c2 p Lv Sv Nv Bv) (u:Value):Net (w.setCell ⟨g,2,none⟩ u) g A c A2 c2 p u Sv Nv Bv:=
 ⟨by rw [heap_set_sameG _ h.blk];rfl,h.pl.below ((Below.refl g w).setCell (p:=⟨g,2,none⟩) (Nat.le_refl _) u)⟩
theorem Net.set3 (h:Net w g A c A2 c2 p Lv Sv Nv Bv) (u:Value):Net (w.setCell ⟨g,3,none⟩ u) g A c A2 c2 p Lv u Nv Bv:=
 ⟨by rw [heap_set_sameG _ h.blk];rfl,h.pl.below ((Below.refl g w).setCell (p:=⟨g,3,none⟩) (Nat.le_refl _) u)⟩
theorem Net.set4 (h:Net w g A c A2 c2 p Lv Sv Nv Bv) (u:Value):Net (w.setCell ⟨g,4,none⟩ u) g A c A2 c2 p Lv Sv u Bv:=
 ⟨by rw [heap_set_sameG _ h.blk];rfl,h.pl.below ((Below.refl g w).setCell (p:=⟨g,4,none⟩) (Nat.le_refl _) u)⟩
theorem Net.set5 (h:Net w g A c A2 c2 p Lv Sv Nv Bv) (u:Value):Net (w.setCell ⟨g,5,none⟩ u) g A c A2 c2 p Lv Sv Nv u:=
 ⟨by rw [heap_set_sameG _ h.blk];rfl,h.pl.below ((Below.refl g w).setCell (p:=⟨g,5,none⟩) (Nat.le_refl _) u)⟩
end
open Go.RowKit
def railOk (p:Pl) (r:R):Bool:=railB p.nodes.length r && okL (lineOf p r)
def railsB (p:Pl):Bool:=p.rails.all (railOk p)
def lenZ (p:Pl) (r:R):Int:=(lenOf (lineOf p r):Nat)
def lensOf (p:Pl):List Int:=p.rails.map (lenZ p)
def lensTo (p:Pl) (k:Nat):List Int:=(p.rails.take k).map (lenZ p) ++ List.replicate (p.rails.length - k) 0
theorem lensTo_len {p:Pl} {k:Nat} (h:k≤p.rails.length):(lensTo p k).length=p.rails.length:=by simp [lensTo];omega
theorem lensTo_zero (p:Pl):lensTo p 0=List.replicate p.rails.length 0:=by simp [lensTo]
theorem lensTo_all (p:Pl):lensTo p p.rails.length=lensOf p:=by simp [lensTo,lensOf]
theorem lensTo_succ {p:Pl} {k:Nat} (h:k<p.rails.length):(lensTo p k).set k (lenZ p p.rails[k])=lensTo p (k+1):=by
 apply List.ext_getElem?
 intro i
 simp only [lensTo]
 rw [List.getElem?_set]
 by_cases hik:i=k
 ·subst hik
  rw [if_pos rfl,if_pos (by simp;omega),List.getElem?_append_left (by simp;omega)]
  simp [h]
 ·rw [if_neg (fun e=>hik e.symm)]
  by_cases hlt:i<k
  ·rw [List.getElem?_append_left (by simp;omega),List.getElem?_append_left (by simp;omega)]
   simp [List.getElem?_take,hlt,show i<k+1 by omega]
  ·rw [List.getElem?_append_right (by simp;omega),List.getElem?_append_right (by simp;omega)]
   simp only [List.length_map,List.length_take,List.getElem?_replicate]
   congr 1
   apply propext
   omega
theorem allR_line {p:Pl} {r:R} (hn:∀j (hj:j<p.nodes.length),spotB p.nodes[j].spot=true) (hr:railB p.nodes.length r=true):allR (lineOf p r):=by
 simp only [railB,railN,Bool.and_eq_true,decide_eq_true_eq] at hr
 obtain⟨⟨h1,h2,h3,h4,h5,_⟩,hs⟩:=hr
 have hfr:inR (spotOf p r.frm):=by
  obtain⟨k,hk⟩:=Int.eq_ofNat_of_zero_le h1
  have:k<p.nodes.length:=by omega
  rw [spotOf_eq hk this,←spotB_iff];exact hn k this
 have hto:inR (spotOf p r.to):=by
  obtain⟨k,hk⟩:=Int.eq_ofNat_of_zero_le h3
  have:k<p.nodes.length:=by omega
  rw [spotOf_eq hk this,←spotB_iff];exact hn k this
 intro k hk
 have hmem:sAt (lineOf p r) k∈lineOf p r:=by rw [sAt_eq hk];exact List.getElem_mem hk
 simp only [lineOf,List.mem_cons,List.mem_append,List.not_mem_nil,or_false] at hmem
 rcases hmem with e|e|e
 ·simp only [lineOf] at e ⊢;rw [e];exact hfr
 ·rw [List.all_eq_true] at hs
  have:=hs _ e
  rw [spotB_iff] at this;exact this
 ·simp only [lineOf] at e ⊢;rw [e];exact hto
theorem railB_ix {p:Pl} {r:R} (hr:railB p.nodes.length r=true):nodeIx p r.frm∧nodeIx p r.to∧r.shape.length≤30:=by
 simp only [railB,railN,Bool.and_eq_true,decide_eq_true_eq] at hr
 obtain⟨⟨h1,h2,h3,h4,h5,_⟩,_⟩:=hr
 exact⟨⟨h1,h2⟩,⟨h3,h4⟩,h5⟩
structure RailsPost (g:Nat) (A:Option Addr) (c:Nat) (A2:Option Addr) (c2:Nat) (p:Pl) (Sv Nv Bv:Value) (w:World) (e:Ending) (w':World):Prop where
 res:e= .returned (.bool (railsB p))
 gr:Gr g w w'
 net:∃b,w.heap.size≤b∧Net w' g A c A2 c2 p (.slice (some ⟨b,0,none⟩) p.rails.length p.rails.length) Sv Nv Bv∧(railsB p=true→IRow w' b (lensOf p))
structure RailsRel (g:Nat) (A:Option Addr) (c:Nat) (A2:Option Addr) (c2:Nat) (p:Pl) (Sv Nv Bv:Value) (w:World) (k:Nat) (wr:World):Prop where
 le:k≤p.rails.length
 all:∀j (hj:j<p.rails.length),j<k→railOk p p.rails[j]=true
 gr:Gr g w wr
 net:Net wr g A c A2 c2 p (.slice (some ⟨w.heap.size,0,none⟩) p.rails.length p.rails.length) Sv Nv Bv
 row:IRow wr w.heap.size (lensTo p k)
set_option maxRecDepth 100000 in
set_option maxHeartbeats 4000000 in
theorem railsRight_any (g:Nat) (A A2:Option Addr) (c c2:Nat) (p:Pl) (Lv Sv Nv Bv:Value) (w:World) (hN:Net w g A c A2 c2 p Lv Sv Nv Bv)
  (hn:∀j (hj:j<p.nodes.length),spotB p.nodes[j].spot=true) (hm400:p.rails.length≤400) :
  Calls Tryz.prog 118 #[.pointer (some ⟨g,0,none⟩)] w (RailsPost g A c A2 c2 p Sv Nv Bv w):=by
 obtain⟨i0,hi,hz0,hz1,hz2⟩:=info_parts info3
 obtain⟨c0,c1,_,_,_,_⟩:=hN.cell
 have hrc:=hN.pl.rc;have hrm:=hN.pl.rm
 have hgl:=hN.lt
 have f2:=hN.frozen 2
 have hmk:=fun W:World=>run_mk (P:=Tryz.prog) 22 3 i0 _ 1 Tryz.underlying22 hi hz0 hz1 (p.rails.length:Int) (p.rails.length:Int) p.rails.length p.rails.length rfl rfl (by omega) (by rw [hz2];omega) (by omega) W
 have hNn:=(hN.set2 (.slice (some ⟨w.heap.size,0,none⟩) p.rails.length p.rails.length)).alloc (.cells (madeCells #[O U 0] p.rails.length) 3)
 have hR0:IRow ((w.setCell ⟨g,2,none⟩ (.slice (some ⟨w.heap.size,0,none⟩) p.rails.length p.rails.length)).alloc (.cells (madeCells #[O U 0] p.rails.length) 3)) w.heap.size (lensTo p 0):=by
  rw [lensTo_zero]
  have:=IRow.made (w.setCell ⟨g,2,none⟩ (.slice (some ⟨w.heap.size,0,none⟩) p.rails.length p.rails.length)) p.rails.length
  simpa using this
 have hG0:Gr g w ((w.setCell ⟨g,2,none⟩ (.slice (some ⟨w.heap.size,0,none⟩) p.rails.length p.rails.length)).alloc (.cells (madeCells #[O U 0] p.rails.length) 3)):=
  ((Gr.refl g w).set (p:=⟨g,2,none⟩) _ (.inl rfl)).alloc _
 have HN:=Z hNn;have HR:=Z hR0;have HG:=Z hG0;clear hNn hR0 hG0 hN
 go_enter Tryz.func118,Tryz.ntmps118
 go_wp2
 clear hmk
 go_loopw [23] (fun i wr=>∃k:Nat,i=O U (k:Int)∧RailsRel g A c A2 c2 p Sv Nv Bv w k wr) (fun i _=>p.rails.length - (intOf i).toNat)
 case atStart=>exact⟨0,rfl,by omega,fun j _ h=>absurd h (by omega),HG.out,HN.out,HR.out⟩
 case round=>
  obtain⟨k,rfl,hrel⟩:=hrel
  obtain⟨hk,hall,hg,hnet,hrow⟩:=hrel
  have HA:=Z hall;clear hall HN HR HG c0 c1 f2
  by_cases hlt:k<p.rails.length
  ·obtain⟨b,off,A',c',hA,hb,hE,hc1,hc2,k0,k1,k2,k3,k4⟩:=hnet.pl.rail hlt
   subst hA
   have hgr:=hnet.lt
   have hsz:=hg.size
   have hbb:b<wr.heap.size:=by omega
   cases hs:railB p.nodes.length p.rails[k]
   ·have HB:=Z (show railsB p=false from all_no' hlt (by simp [railOk,hs]))
    go_wp2_with fail
    refine (railRight_any g A _ c c2 p _ Sv Nv Bv p.rails[k] A' c' _ (hnet.alloc _) (hE.keep (fun _ _ h=>h) fun q hq=>((Below.refl g wr).alloc (by omega) _).cell hq) hc1 hc2).mono ?_
    rintro e w2 ⟨rfl,hb2⟩
    go_wp2
    go_ret
    exact⟨by rw [HB.out];rfl,(hg.alloc _).below hb2 (by simp;omega),w.heap.size,Nat.le_refl _,(hnet.alloc _).below hb2 (by simp;omega),fun h=>by rw [HB.out] at h;cases h⟩
   ·obtain⟨x1,x2,x3⟩:=railB_ix hs
    have hAR:=allR_line hn hs
    have hll:(lineOf p p.rails[k]).length=p.rails[k].shape.length+2:=by simp [lineOf]
    have HX:=Z hll;clear hll
    go_wp2_with fail
    refine (railRight_any g A _ c c2 p _ Sv Nv Bv p.rails[k] A' c' _ (hnet.alloc _) (hE.keep (fun _ _ h=>h) fun q hq=>((Below.refl g wr).alloc (by omega) _).cell hq) hc1 hc2).mono ?_
    rintro e w2 ⟨rfl,hb2⟩
    have hn2:=(hnet.alloc (.cells #[O U p.rails[k].frm,O U p.rails[k].to,.slice A' p.rails[k].shape.length c',O U p.rails[k].limit,O U p.rails[k].slope] 75)).below hb2 (by simp;omega)
    have hr2:=(hrow.alloc (.cells #[O U p.rails[k].frm,O U p.rails[k].to,.slice A' p.rails[k].shape.length c',O U p.rails[k].limit,O U p.rails[k].slope] 75)).below hb2 (by simp;have:=hrow.lt;omega)
    have hg2:=(hg.alloc (.cells #[O U p.rails[k].frm,O U p.rails[k].to,.slice A' p.rails[k].shape.length c',O U p.rails[k].limit,O U p.rails[k].slope] 75)).below hb2 (by simp;omega)
    clear hb2 hnet hrow hg hE k0 k1 k2 k3 k4
    obtain⟨y0,y1,y2,_,_,_⟩:=hn2.cell
    go_wp2_with fail
    refine (sLine_any A _ c c2 p k _ (hn2.pl.more (by have:=hn2.lt;omega)) hlt x1 x2 (by omega)).mono ?_
    rintro e w3 ⟨v,rfl,ho,hb3⟩
    obtain⟨A3,c3,rfl,hc31,hc32,_⟩:=ho.form
    have hn3:=hn2.below hb3 hn2.lt
    have hr3:=hr2.below hb3 hr2.lt
    have hg3:=hg2.below hb3 hg2.size
    have hS3:=ho.sl fS_len rfl
    clear ho hb3 hn2 hr2 hg2 y0 y1 y2
    go_wp2_with fail
    refine (sLength_any A3 (lineOf p p.rails[k]) c3 _ hS3 (by have:=HX.out;omega) (by have:=HX.out;omega) hAR).mono ?_
    rintro e w4 ⟨rfl,hb4⟩
    have hn4:=hn3.below hb4 hn3.lt
    have hr4:=hr3.below hb4 hr3.lt
    have hg4:=hg3.below hb4 hg3.size
    clear hb4 hn3 hr3 hg3 hS3
    cases hok:okL (lineOf p p.rails[k])
    ·have HB:=Z (show railsB p=false from all_no' hlt (by simp [railOk,hs,hok]))
     rw [show lenRes (lineOf p p.rails[k])= .tuple #[O U 0,.bool false] by simp [lenRes,hok]]
     go_wp2
     go_ret
     exact⟨by rw [HB.out];rfl,hg4,w.heap.size,Nat.le_refl _,hn4,fun h=>by rw [HB.out] at h;cases h⟩
    ·have HB:=Z (show railOk p p.rails[k]=true by simp [railOk,hs,hok])
     rw [show lenRes (lineOf p p.rails[k])= .tuple #[O U (lenOf (lineOf p p.rails[k]):Nat),.bool true] by simp [lenRes,hok]]
     obtain⟨y0,y1,y2,_,_,_⟩:=hn4.cell
     have y3:=hr4.frozen k
     have y4:=hr4.cell (i:=k) (by rw [lensTo_len (by omega)];exact hlt)
     go_wp2
     go_roundw
     case rel=>
      refine⟨k+1,by go_num,by omega,fun j hj hjk=>if h:j=k then by subst h;exact HB.out else HA.out j hj (by omega),hg4.set (p:=⟨w.heap.size,k,none⟩) _ (.inr (Nat.le_refl _)),hn4.other (q:=⟨w.heap.size,k,none⟩) _ (by simp;omega), ?_⟩
      rw [←lensTo_succ hlt]
      exact hr4.set k _
     case measure=>simp [intOf];omega
  ·obtain rfl:k=p.rails.length:=by omega
   have HB:=Z (show railsB p=true from all_yes' fun j hj=>HA.out j hj hj)
   go_wp2
   go_ret
   exact⟨by rw [HB.out];rfl,hg,w.heap.size,Nat.le_refl _,hnet,fun _=>by rw [←lensTo_all];exact hrow⟩
open Go.RowKit
set_option maxHeartbeats 1000000 in
theorem nodeAt_any (g:Nat) (A A2:Option Addr) (c c2:Nat) (p:Pl) (Lv Sv Nv Bv:Value) (x:Nat) (w:World) (hN:Net w g A c A2 c2 p Lv Sv Nv Bv) (hx:x<2 * p.rails.length) :
  Calls Tryz.prog 142 #[.pointer (some ⟨g,0,none⟩),O U (x:Int)] w fun e w'=>e= .returned (O U (nodeAtZ p (x:Int)))∧w=w':=by
 obtain⟨c0,c1,_,_,_,_⟩:=hN.cell
 have hrc:=hN.pl.rc;have hrm:=hN.pl.rm
 have hk:x / 2<p.rails.length:=by omega
 obtain⟨b,off,A',c',rfl,hb,hE,hc1,hc2,k0,k1,k2,k3,k4⟩:=hN.pl.rail hk
 have hq:((x:Int) / 2).toNat=x / 2:=by omega
 by_cases h:x % 2=1
 ·have HE:=Z (show nodeAtZ p (x:Int)=p.rails[x / 2].to by unfold nodeAtZ;rw [if_pos (by omega),hq];simp [hk])
  have h':((x:Int) % 2 == 1)=true:=by simp;omega
  clear hN hE
  go_enter Tryz.func142,Tryz.ntmps142
  go_wp2
  go_ret
  exact⟨by rw [HE.out];rfl,rfl⟩
 ·have HE:=Z (show nodeAtZ p (x:Int)=p.rails[x / 2].frm by unfold nodeAtZ;rw [if_neg (by omega),hq];simp [hk])
  have h':((x:Int) % 2 == 1)=false:=by simp;omega
  clear hN hE
  go_enter Tryz.func142,Tryz.ntmps142
  go_wp2
  go_ret
  exact⟨by rw [HE.out];rfl,rfl⟩
def negTo (m2 k:Nat):List Int:=List.replicate k (-1) ++ List.replicate (m2 - k) 0
theorem negTo_len {m2 k:Nat} (h:k≤m2):(negTo m2 k).length=m2:=by simp [negTo];omega
theorem negTo_zero (m2:Nat):negTo m2 0=List.replicate m2 0:=by simp [negTo]
theorem negTo_all (m2:Nat):negTo m2 m2=fillS m2 []:=by simp [negTo,fillS]
theorem negTo_succ {m2 k:Nat} (h:k<m2):(negTo m2 k).set k (-1)=negTo m2 (k+1):=by
 apply List.ext_getElem?
 intro i
 simp only [negTo]
 rw [List.getElem?_set]
 by_cases hik:i=k
 ·subst hik
  rw [if_pos rfl,if_pos (by simp;omega),List.getElem?_append_left (by simp)]
  simp
 ·rw [if_neg (fun e=>hik e.symm)]
  by_cases hlt:i<k
  ·rw [List.getElem?_append_left (by simp;omega),List.getElem?_append_left (by simp;omega)]
   simp [List.getElem?_replicate,hlt,show i<k+1 by omega]
  ·rw [List.getElem?_append_right (by simp;omega),List.getElem?_append_right (by simp;omega)]
   simp only [List.length_replicate,List.getElem?_replicate]
   congr 1
   apply propext
   omega
structure EndsPost (g:Nat) (A:Option Addr) (c:Nat) (A2:Option Addr) (c2:Nat) (p:Pl) (Lv Nv Bv:Value) (w:World) (e:Ending) (w':World):Prop where
 res:∃r,e= .returned (.bool r)∧(r=true ↔ okEnds p)∧∃b,w.heap.size≤b∧Net w' g A c A2 c2 p Lv (.slice (some ⟨b,0,none⟩) (2 * p.rails.length) (2 * p.rails.length)) Nv Bv∧(r=true→IRow w' b (slotsOf p))
 gr:Gr g w w'
structure NegRel (g:Nat) (A:Option Addr) (c:Nat) (A2:Option Addr) (c2:Nat) (p:Pl) (Lv Nv Bv:Value) (w:World) (k:Nat) (wr:World):Prop where
 le:k≤2 * p.rails.length
 gr:Gr g w wr
 net:Net wr g A c A2 c2 p Lv (.slice (some ⟨w.heap.size,0,none⟩) (2 * p.rails.length) (2 * p.rails.length)) Nv Bv
 row:IRow wr w.heap.size (negTo (2 * p.rails.length) k)
structure ERel (g:Nat) (A:Option Addr) (c:Nat) (A2:Option Addr) (c2:Nat) (p:Pl) (Lv Nv Bv:Value) (w:World) (i k:Nat) (wr:World):Prop where
 ok:OkTo p i k
 gr:Gr g w wr
 net:Net wr g A c A2 c2 p Lv (.slice (some ⟨w.heap.size,0,none⟩) (2 * p.rails.length) (2 * p.rails.length)) Nv Bv
 row:IRow wr w.heap.size (fillS (2 * p.rails.length) (befQ p i k))
set_option maxRecDepth 100000 in
set_option maxHeartbeats 8000000 in
theorem endsRight_any (g:Nat) (A A2:Option Addr) (c c2:Nat) (p:Pl) (Lv Sv Nv Bv:Value) (w:World) (hN:Net w g A c A2 c2 p Lv Sv Nv Bv)
  (h4:∀j (hj:j<p.nodes.length),p.nodes[j].ends.length≤4) (hm400:p.rails.length≤400) (hn300:p.nodes.length≤300) :
  Calls Tryz.prog 119 #[.pointer (some ⟨g,0,none⟩)] w (EndsPost g A c A2 c2 p Lv Nv Bv w):=by
 obtain⟨i0,hi,hz0,hz1,hz2⟩:=info_parts info3
 obtain⟨c0,c1,_,_,_,_⟩:=hN.cell
 have hrc:=hN.pl.rc;have hrm:=hN.pl.rm
 have hgl:=hN.lt
 have f3:=hN.frozen 3
 have hmk:=fun W:World=>run_mk (P:=Tryz.prog) 22 3 i0 _ 1 Tryz.underlying22 hi hz0 hz1 (2 * (p.rails.length:Int)) (2 * (p.rails.length:Int)) (2 * p.rails.length) (2 * p.rails.length) (by simp) (by simp) (by omega) (by rw [hz2];omega) (by omega) W
 have hNn:=(hN.set3 (.slice (some ⟨w.heap.size,0,none⟩) (2 * p.rails.length) (2 * p.rails.length))).alloc (.cells (madeCells #[O U 0] (2 * p.rails.length)) 3)
 have hR0:IRow ((w.setCell ⟨g,3,none⟩ (.slice (some ⟨w.heap.size,0,none⟩) (2 * p.rails.length) (2 * p.rails.length))).alloc (.cells (madeCells #[O U 0] (2 * p.rails.length)) 3)) w.heap.size (negTo (2 * p.rails.length) 0):=by
  rw [negTo_zero]
  have:=IRow.made (w.setCell ⟨g,3,none⟩ (.slice (some ⟨w.heap.size,0,none⟩) (2 * p.rails.length) (2 * p.rails.length))) (2 * p.rails.length)
  simpa using this
 have hG0:Gr g w ((w.setCell ⟨g,3,none⟩ (.slice (some ⟨w.heap.size,0,none⟩) (2 * p.rails.length) (2 * p.rails.length))).alloc (.cells (madeCells #[O U 0] (2 * p.rails.length)) 3)):=
  ((Gr.refl g w).set (p:=⟨g,3,none⟩) _ (.inl rfl)).alloc _
 have HN:=Z hNn;have HR:=Z hR0;have HG:=Z hG0;clear hNn hR0 hG0 hN
 go_enter Tryz.func119,Tryz.ntmps119
 go_wp2
 clear hmk
 go_loopw [26] (fun i wr=>∃k:Nat,i=O U (k:Int)∧NegRel g A c A2 c2 p Lv Nv Bv w k wr) (fun i _=>2 * p.rails.length - (intOf i).toNat)
 case atStart=>exact⟨0,rfl,by omega,HG.out,HN.out,HR.out⟩
 case round=>
  obtain⟨k,rfl,hrel⟩:=hrel
  obtain⟨hk,hg,hnet,hrow⟩:=hrel
  clear HN HR HG c0 c1 f3
  obtain⟨c0,c1,c2',c3',_,_⟩:=hnet.cell
  by_cases hlt:k<2 * p.rails.length
  ·have y3:=hrow.frozen k
   have y4:=hrow.cell (i:=k) (by rw [negTo_len (by omega)];exact hlt)
   have hlt':(k:Int)<2 * (p.rails.length:Int):=by omega
   go_wp2
   go_roundw
   case rel=>
    refine⟨k+1,by go_num,by omega,hg.set (p:=⟨w.heap.size,k,none⟩) _ (.inr (Nat.le_refl _)),hnet.other (q:=⟨w.heap.size,k,none⟩) _ (by simp;omega), ?_⟩
    rw [←negTo_succ hlt]
    exact hrow.set k _
   case measure=>simp [intOf];omega
  ·have hke:k=2 * p.rails.length:=by omega
   have HP:ERel g A c A2 c2 p Lv Nv Bv w 0 0 wr:=⟨OkTo.start p,hg,hnet,by rw [befQ_zero,←negTo_all];rw [hke] at hrow;exact hrow⟩
   have HQ:=Z HP;clear HP hg hnet hrow hke
   go_wp2
   go_loopw [4,42] (fun f i wr=>∃k:Nat,k≤p.nodes.length∧i=O U (k:Int)∧f=O U ((befE p k 0).length:Nat)∧ERel g A c A2 c2 p Lv Nv Bv w k 0 wr) (fun _ i _=>p.nodes.length - (intOf i).toNat)
   case atStart=>exact⟨0,by omega,rfl,by rw [befE_zero];rfl,HQ.out⟩
   case round=>
    obtain⟨i,hi,rfl,rfl,hrel⟩:=hrel
    obtain⟨wo,rfl⟩:∃wo:World,wo=wr:=⟨_,rfl⟩
    clear HQ c0 c1 c2' c3'
    obtain⟨hok,hg,hnet,hrow⟩:=hrel
    by_cases hlt:i<p.nodes.length
    ·obtain⟨b,off,A',c',hA,hb,hE,hc1,hc2,k0,k1,k2,k3,k4⟩:=hnet.pl.node hlt
     subst hA
     have hgr:=hnet.lt
     have hsz:=hg.size
     have hbb:b<wo.heap.size:=by omega
     have e4:=h4 i hlt
     have HREL:=Z (show ERel g (some ⟨b,off,none⟩) c A2 c2 p Lv Nv Bv w i 0 (wo.alloc (.cells #[O U p.nodes[i].spot.x,O U p.nodes[i].spot.y,O U p.nodes[i].kind,.slice A' p.nodes[i].ends.length c',O U p.nodes[i].normal] 131)) from
      ⟨hok,hg.alloc _,hnet.alloc _,hrow.alloc _⟩)
     have HE:=Z hE
     clear hok hg hnet hrow hE
     go_wp2
     go_loopw [4,50] (fun f i' wr'=>∃k:Nat,k≤p.nodes[i].ends.length∧i'=O U (k:Int)∧f=O U ((befE p i k).length:Nat)∧ERel g (some ⟨b,off,none⟩) c A2 c2 p Lv Nv Bv w i k wr'∧Sl wr' g 2 CE A' p.nodes[i].ends) (fun _ i' _=>p.nodes[i].ends.length - (intOf i').toNat)
     case atStart=>exact⟨0,by omega,rfl,rfl,HREL.out,HE.out.keep (fun _ _ h=>h) fun q hq=>((Below.refl g wo).alloc (by omega) _).cell hq⟩
     case round=>
      obtain⟨k,hk,rfl,rfl,hrel,hE⟩:=hrel
      clear HREL HE k0 k1 k2 k3 k4
      obtain⟨hok,hg,hnet,hrow⟩:=hrel
      obtain⟨c0,c1,_,c3',_,_⟩:=hnet.cell
      have hle:=befE_le h4 i k
      by_cases hlk:k<p.nodes[i].ends.length
      ·obtain⟨b3,off3,hA',hb3,m0,m1⟩:=end_at hE hlk
       subst hA'
       have hgr':=hnet.lt
       have hbb3:b3<wr.heap.size:=by omega
       have hGF:=hg.alloc (.cells #[O U p.nodes[i].ends[k].rail,.bool p.nodes[i].ends[k].last] 126)
       have hNF:=hnet.alloc (.cells #[O U p.nodes[i].ends[k].rail,.bool p.nodes[i].ends[k].last] 126)
       have hRF:=hrow.alloc (.cells #[O U p.nodes[i].ends[k].rail,.bool p.nodes[i].ends[k].last] 126)
       have hEF:Sl (wr.alloc (.cells #[O U p.nodes[i].ends[k].rail,.bool p.nodes[i].ends[k].last] 126)) g 2 CE (some ⟨b3,off3,none⟩) p.nodes[i].ends:=hE.keep (fun _ _ h=>h) fun q hq=>((Below.refl g wr).alloc (by omega) _).cell hq
       have hwr:=hrow.lt
       clear hg hnet hrow hE
       have HG:=Z hGF;have HN:=Z hNF;have HR:=Z hRF;have HE:=Z hEF;have HO:=Z hok
       clear hGF hNF hRF hEF hok
       by_cases r0:p.nodes[i].ends[k].rail<0
       ·have HB:=Z (not_ok_bad hlt hlk (fun h=>by have:=h.1;omega))
        have d0:decide (p.nodes[i].ends[k].rail<0)=true:=by simpa using r0
        clear r0
        go_wp2
        go_quiet (fail)
        go_wp2
        go_ret
        exact⟨⟨false,rfl,⟨(fun h=>by cases h),fun h=>absurd h HB.out⟩,w.heap.size,Nat.le_refl _,HN.out.drewN _,(fun h=>by cases h)⟩,HG.out.drewN _⟩
       have d0:decide (p.nodes[i].ends[k].rail<0)=false:=by simpa using r0
       by_cases r1:(p.rails.length:Int)≤p.nodes[i].ends[k].rail
       ·have HB:=Z (not_ok_bad hlt hlk (fun h=>by have:=h.2.1;omega))
        have d1:decide ((p.rails.length:Int)≤p.nodes[i].ends[k].rail)=true:=by simpa using r1
        clear r0 r1
        go_wp2
        go_quiet (fail)
        go_wp2
        go_ret
        exact⟨⟨false,rfl,⟨(fun h=>by cases h),fun h=>absurd h HB.out⟩,w.heap.size,Nat.le_refl _,HN.out.drewN _,(fun h=>by cases h)⟩,HG.out.drewN _⟩
       have d1:decide ((p.rails.length:Int)≤p.nodes[i].ends[k].rail)=false:=by simpa using r1
       have g0:0≤p.nodes[i].ends[k].rail:=by omega
       have g1:p.nodes[i].ends[k].rail<p.rails.length:=by omega
       have hbd:0≤endNo p.nodes[i].ends[k]∧endNo p.nodes[i].ends[k]<2 * (p.rails.length:Int):=by unfold endNo;split <;> omega
       obtain⟨x,hx⟩:=Int.eq_ofNat_of_zero_le hbd.1
       have hxl:x<2 * p.rails.length:=by omega
       have HX:=Z hx
       have HZ:=Z (show nodeAtZ p (x:Int)=atZ p p.nodes[i].ends[k] by rw [←hx];exact nodeAtZ_end p _ g0)
       have hsgn:=slot_sign HO.out g0 (2 * p.rails.length) (by rw [fillS_len,hx];simpa using hxl)
       have hfl:x<(fillS (2 * p.rails.length) (befQ p i k)).length:=by rw [fillS_len];exact hxl
       have hsg:0≤(fillS (2 * p.rails.length) (befQ p i k))[x] ↔ p.nodes[i].ends[k]∈befE p i k:=by
        rw [←hsgn];simp [hx]
       obtain⟨v,hv⟩:∃v,(fillS (2 * p.rails.length) (befQ p i k))[x]=v:=⟨_,rfl⟩
       rw [hv] at hsg
       have HV:=Z hv;have HS:=Z hsg
       clear r0 r1 hbd hx hsgn hsg hv
       have hx0:(0:Int)≤(x:Int):=by omega
       have hx1:(x:Int)<2 * (p.rails.length:Int):=by omega
       by_cases ha:atZ p p.nodes[i].ends[k]=(i:Int)
       ·have ha1:(atZ p p.nodes[i].ends[k] != (i:Int))=false:=by simp [ha]
        have ha2:(!(atZ p p.nodes[i].ends[k] == (i:Int)))=false:=by simp [ha]
        have HA:=Z ha;clear ha
        by_cases hv0:0≤v
        ·have HB:=Z (not_ok_twice hlt hlk (HS.out.1 hv0))
         have hv1:decide (0≤v)=true:=by simpa using hv0
         clear hv0
         go_wp2
         go_quiet (fail)
         go_wp2_with fail
         refine (endNumber_any p.nodes[i].ends[k] _ g0 (by omega)).mono ?_
         rintro e w2 ⟨rfl,hb2⟩
         rw [HX.out]
         have hbx:Below (wr.heap.size+1) (wr.alloc (.cells #[O U p.nodes[i].ends[k].rail,.bool p.nodes[i].ends[k].last] 126)) w2:=
          (bDrewN (Below.refl _ _) nq).trans (hb2.mono (by show _≤(wr.alloc _).heap.size;simp))
         have hn2:=HN.out.below hbx (by omega)
         have hr2:=HR.out.below hbx (by omega)
         have hg2:=HG.out.below hbx (by omega)
         obtain⟨z0,z1,_,z3,_,_⟩:=hn2.cell
         have z5:=(hr2.cell hfl).trans (by rw [HV.out])
         have z6:=hr2.frozen x
         have HN2:=Z hn2;have HR2:=Z hr2;have HG2:=Z hg2
         clear hn2 hr2 hg2 hb2 hbx
         go_wp2_with fail
         refine (nodeAt_any g _ A2 c c2 p Lv _ Nv Bv x _ HN2.out hxl).mono ?_
         rintro e w3 ⟨rfl,rfl⟩
         rw [HZ.out]
         go_wp2
         go_ret
         exact⟨⟨false,rfl,⟨(fun h=>by cases h),fun h=>absurd h HB.out⟩,w.heap.size,Nat.le_refl _,HN2.out,(fun h=>by cases h)⟩,HG2.out⟩
        ·have HB:=Z (HO.out.step hlt hlk ⟨g0,g1,HA.out⟩ (fun h=>hv0 (HS.out.2 h)))
         have hv1:decide (0≤v)=false:=by simpa using hv0
         clear hv0
         go_wp2
         go_quiet (fail)
         go_wp2_with fail
         refine (endNumber_any p.nodes[i].ends[k] _ g0 (by omega)).mono ?_
         rintro e w2 ⟨rfl,hb2⟩
         rw [HX.out]
         have hbx:Below (wr.heap.size+1) (wr.alloc (.cells #[O U p.nodes[i].ends[k].rail,.bool p.nodes[i].ends[k].last] 126)) w2:=
          (bDrewN (Below.refl _ _) nq).trans (hb2.mono (by show _≤(wr.alloc _).heap.size;simp))
         have hn2:=HN.out.below hbx (by omega)
         have hr2:=HR.out.below hbx (by omega)
         have hg2:=HG.out.below hbx (by omega)
         have he2:Sl w2 g 2 CE (some ⟨b3,off3,none⟩) p.nodes[i].ends:=HE.out.below (hbx.mono (by omega))
         obtain⟨z0,z1,_,z3,_,_⟩:=hn2.cell
         have z5:=(hr2.cell hfl).trans (by rw [HV.out])
         have z6:=hr2.frozen x
         have HN2:=Z hn2;have HR2:=Z hr2;have HG2:=Z hg2;have HE2:=Z he2
         clear hn2 hr2 hg2 hb2 hbx he2
         go_wp2_with fail
         refine (nodeAt_any g _ A2 c c2 p Lv _ Nv Bv x _ HN2.out hxl).mono ?_
         rintro e w3 ⟨rfl,rfl⟩
         rw [HZ.out]
         go_wp2
         go_roundw
         case rel=>
          refine⟨k+1,by omega,by go_num,by rw [befE_succ hlt hlk];simp,⟨HB.out,HG2.out.set (p:=⟨w.heap.size,x,none⟩) _ (.inr (Nat.le_refl _)),HN2.out.other (q:=⟨w.heap.size,x,none⟩) _ (by simp;omega), ?_⟩,HE2.out.below ((Below.refl g _).setCell (p:=⟨w.heap.size,x,none⟩) (by simp;omega) _)⟩
          rw [befQ_succ hlt hlk,fillS_snoc]
          simp only [HX.out]
          exact HR2.out.set x _
         case measure=>simp [intOf];omega
       ·have HB:=Z (not_ok_bad hlt hlk (fun h=>ha h.2.2))
        have ha1:(atZ p p.nodes[i].ends[k] != (i:Int))=true:=by simp [ha]
        have ha2:(!(atZ p p.nodes[i].ends[k] == (i:Int)))=true:=by simp [ha]
        clear ha
        go_wp2
        go_quiet (fail)
        go_wp2_with fail
        refine (endNumber_any p.nodes[i].ends[k] _ g0 (by omega)).mono ?_
        rintro e w2 ⟨rfl,hb2⟩
        rw [HX.out]
        have hbx:Below (wr.heap.size+1) (wr.alloc (.cells #[O U p.nodes[i].ends[k].rail,.bool p.nodes[i].ends[k].last] 126)) w2:=
         (bDrewN (Below.refl _ _) nq).trans (hb2.mono (by show _≤(wr.alloc _).heap.size;simp))
        have hn2:=HN.out.below hbx (by omega)
        have hr2:=HR.out.below hbx (by omega)
        have hg2:=HG.out.below hbx (by omega)
        have he2:Sl w2 g 2 CE (some ⟨b3,off3,none⟩) p.nodes[i].ends:=HE.out.below (hbx.mono (by omega))
        obtain⟨z0,z1,_,z3,_,_⟩:=hn2.cell
        have z5:=(hr2.cell hfl).trans (by rw [HV.out])
        have z6:=hr2.frozen x
        have HN2:=Z hn2;have HR2:=Z hr2;have HG2:=Z hg2;have HE2:=Z he2
        clear hn2 hr2 hg2 hb2 hbx he2
        go_wp2_with fail
        refine (nodeAt_any g _ A2 c c2 p Lv _ Nv Bv x _ HN2.out hxl).mono ?_
        rintro e w3 ⟨rfl,rfl⟩
        rw [HZ.out]
        go_wp2
        go_ret
        exact⟨⟨false,rfl,⟨(fun h=>by cases h),fun h=>absurd h HB.out⟩,w.heap.size,Nat.le_refl _,HN2.out,(fun h=>by cases h)⟩,HG2.out⟩
      ·obtain rfl:k=p.nodes[i].ends.length:=by omega
       have HB:=Z (hok.next hlt)
       have HR:=Z (show IRow wr w.heap.size (fillS (2 * p.rails.length) (befQ p (i+1) 0)) by rw [←befQ_next hlt];exact hrow)
       have HL:=Z (befE_next (p:=p) hlt)
       clear hok hrow
       go_wp2
       go_roundw
       case rel=>exact⟨i+1,by omega,by go_num,by rw [HL.out],HB.out,hg,hnet,HR.out⟩
       case measure=>simp [intOf];omega
    ·obtain rfl:i=p.nodes.length:=by omega
     have HO:=Z (ok_all hok)
     have HR:=Z (show IRow wo w.heap.size (slotsOf p) by unfold slotsOf;rw [←befQ_all];exact hrow)
     have hle:=befE_le h4 p.nodes.length 0
     obtain⟨c0,c1,_,c3',_,_⟩:=hnet.cell
     clear hok hrow
     by_cases hq:(befE p p.nodes.length 0).length=2 * p.rails.length
     ·have hq1:(((befE p p.nodes.length 0).length:Int) == ((2 * p.rails.length:Nat):Int))=true:=by simp [hq]
      have hq2:(((befE p p.nodes.length 0).length:Int) == 2 * (p.rails.length:Int))=true:=by simp;omega
      have HQ:=Z hq;clear hq
      go_wp2
      go_ret
      exact⟨⟨true,rfl,⟨fun _=>HO.out.2 HQ.out,fun _=>rfl⟩,w.heap.size,Nat.le_refl _,hnet,fun _=>HR.out⟩,hg⟩
     ·have hq1:(((befE p p.nodes.length 0).length:Int) == ((2 * p.rails.length:Nat):Int))=false:=by simp;omega
      have hq2:(((befE p p.nodes.length 0).length:Int) == 2 * (p.rails.length:Int))=false:=by simp;omega
      have HQ:=Z hq;clear hq
      go_wp2
      go_ret
      exact⟨⟨false,rfl,⟨(fun h=>by cases h),fun h=>absurd (HO.out.1 h) HQ.out⟩,w.heap.size,Nat.le_refl _,hnet,(fun h=>by cases h)⟩,hg⟩
end Go.Proofs.YtfhkbbjddjddmaaGreat
