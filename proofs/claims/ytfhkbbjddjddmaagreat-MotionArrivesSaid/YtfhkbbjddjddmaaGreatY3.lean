/- Two moves, and their opposites: plain facts; contracts: Opposite, Move, fine, Next, Follows, Between as they are where the plan is valid. -/
import Derived.Test.YtfhkbbjddjddmaaGreatJG
import Derived.Test.YtfhkbbjddjddmaaGreatA1
import Derived.Test.YtfhkbbjddjddmaaGreatJA
set_option linter.unusedVariables false
set_option linter.unusedSimpArgs false
open Go.Value renaming int→O
open Go.IntKind renaming i64→U
namespace Go.Proofs.YtfhkbbjddjddmaaGreat
open Go.RowKit
theorem at_place {p:Pl} (h:okEnds p) {i s:Nat} (hi:i<p.nodes.length) (hs:s<p.nodes[i].ends.length) :
  nodeAtZ p (endNo p.nodes[i].ends[s])=i∧slAt p (keyE p.nodes[i].ends[s])=s∧0≤endNo p.nodes[i].ends[s]:=by
 have hok:=h.1 i hi _ (List.getElem_mem hs)
 have hb:=endNo_bd hok
 refine⟨by rw [nodeAtZ_end p _ hok.1,hok.2.2], ?_,hb.1⟩
 have hmem:(p.nodes[i].ends[s],s)∈allQ p:=by
  unfold allQ
  refine List.mem_flatMap.2 ⟨p.nodes[i],List.getElem_mem hi, ?_⟩
  rw [List.mem_zipIdx_iff_getElem?]
  exact List.getElem?_eq_getElem hs
 have hl:keyE p.nodes[i].ends[s]<(fillS (2 * p.rails.length) (allQ p)).length:=by rw [fillS_len];unfold keyE;omega
 have:=fillS_get (2 * p.rails.length) _ (allQ p) rfl (by have:=keys_nodup h;rw [←allQ_fst,List.map_map] at this;exact this) _ hmem hl
 unfold slAt slotsOf
 rw [List.getElem?_eq_getElem hl]
 exact this
theorem leave_place {p:Pl} (hV:Vld p) {m n:Nat} (hm:m<2 * p.rails.length) (hn:n<2 * p.rails.length) :
  ∃(i:Nat) (hi:i<p.nodes.length) (a:Nat),a<p.nodes[i].ends.length∧nodeAtZ p (flip m:Nat)=i∧slAt p (flip m)=a∧keyE (endAt p.nodes[i] a)=flip m∧atN p (flip m)=p.nodes[i]∧
   (((n:Int)∈leaveL p m) ↔ (nodeAtZ p (n:Int)=i∧slAt p n∈thru p.nodes[i].kind p.nodes[i].normal (a:Int))):=by
 have hf:=flip_lt hm
 obtain⟨i,hi,a,ha,h1,h2,h3⟩:=slots_spec hV.ends hf
 have hfl:flip m<(slotsOf p).length:=by rw [slots_len];exact hf
 have hsl:slAt p (flip m)=a:=by rw [←slAt_eq hfl];exact h3 hfl
 have hnd:atN p (flip m)=p.nodes[i]:=atN_eq h2 hi
 refine⟨i,hi,a,ha,h2,hsl, ?_,hnd, ?_⟩
 ·rw [endAt_nat ha];exact h1
 ·unfold leaveL
  rw [hnd,hsl]
  have hb:=thru_lt (List.all_eq_true.1 hV.nodes _ (List.getElem_mem hi)) ha
  constructor
  ·intro hx
   obtain⟨s,hs,he⟩:=List.mem_map.1 hx
   obtain⟨s0,s1⟩:=hb s hs
   obtain⟨t,rfl⟩:=Int.eq_ofNat_of_zero_le s0
   have ht:t<p.nodes[i].ends.length:=by omega
   rw [endAt_nat ht] at he
   obtain⟨q1,q2,q3⟩:=at_place hV.ends hi ht
   have hk:keyE p.nodes[i].ends[t]=n:=by unfold keyE;rw [he];simp
   rw [he] at q1
   rw [hk] at q2
   exact⟨q1,by rw [q2];exact hs⟩
  ·rintro⟨q1,q2⟩
   obtain⟨i',hi',k',hk',r1,r2,r3⟩:=slots_spec hV.ends hn
   have hnl:n<(slotsOf p).length:=by rw [slots_len];exact hn
   have hs2:slAt p n=k':=by rw [←slAt_eq hnl];exact r3 hnl
   obtain rfl:i'=i:=by rw [r2] at q1;omega
   rw [hs2] at q2
   refine List.mem_map.2 ⟨(k':Int),q2, ?_⟩
   rw [endAt_nat hk']
   have:=(at_place hV.ends hi' hk').2.2
   omega
def opE (m:E):E:=⟨m.rail,!m.last⟩
theorem key_op {m:E} (h:0≤m.rail):keyE (opE m)=flip (keyE m):=by
 obtain⟨r,l⟩:=m
 have h':0≤r:=h
 unfold keyE endNo opE flip
 cases l <;> simp <;> (split <;> omega)
theorem railIn_in (p:Pl) (r:Int):inV r 0 ((p.rails.length:Int) - 1)=railIn p r:=by
 unfold inV railIn
 rw [Bool.eq_iff_iff]
 simp
 omega
set_option maxHeartbeats 1000000 in
theorem Move_any (A A2:Option Addr) (c c2:Nat) (p:Pl) (r:Int) (b:Bool) (w:World) (hP:PlAt w w.heap.size A c A2 c2 p) :
  Calls Tryz.prog 95 #[.agg #[.slice A p.nodes.length c,.slice A2 p.rails.length c2],.agg #[O U r,.bool b]] w fun e w'=>e= .returned (.bool (railIn p r))∧Below w.heap.size w w':=by
 have h1:=hP.rc;have h2:=hP.rm
 clear hP
 go_enter Tryz.func95,Tryz.ntmps95
 go_wp2_with fail
 refine (inV_any _ _ _ _).mono ?_
 rintro e w1 ⟨rfl,rfl⟩
 rw [railIn_in]
 go_wp2
 go_ret
 exact⟨rfl,(((Below.refl _ _).alloc (Nat.le_refl _) _).alloc (by simp) _)⟩
structure G3st (w wr:World) (K:Nat) (A:Option Addr) (c:Nat) (A2:Option Addr) (c2:Nat) (p:Pl) (m n:E):Prop where
 k0:wr.cell? ⟨K,0,none⟩=some (.slice A p.nodes.length c)
 k1:wr.cell? ⟨K,1,none⟩=some (.slice A2 p.rails.length c2)
 m0:wr.cell? ⟨K+1,0,none⟩=some (O U m.rail)
 m1:wr.cell? ⟨K+1,1,none⟩=some (.bool m.last)
 n0:wr.cell? ⟨K+1+1,0,none⟩=some (O U n.rail)
 n1:wr.cell? ⟨K+1+1,1,none⟩=some (.bool n.last)
 pl:PlAt wr wr.heap.size A c A2 c2 p
 be:Below w.heap.size w wr
 lt:K+1+1<wr.heap.size
section
variable {w wr w':World} {K c c2:Nat} {A A2:Option Addr} {p:Pl} {m n:E}
theorem G3st.next (h:G3st w wr K A c A2 c2 p m n) (hb:Below wr.heap.size wr w'):G3st w w' K A c A2 c2 p m n:=by
 have hl:=h.lt
 have hk:∀b i,b≤K+1+1→w'.cell? ⟨b,i,none⟩=wr.cell? ⟨b,i,none⟩:=fun b i hb'=>hb.cell (p:=⟨b,i,none⟩) (Nat.lt_of_le_of_lt hb' hl)
 exact⟨(hk _ _ (by omega)).trans h.k0,(hk _ _ (by omega)).trans h.k1,(hk _ _ (by omega)).trans h.m0,(hk _ _ (by omega)).trans h.m1,(hk _ _ (by omega)).trans h.n0,(hk _ _ (by omega)).trans h.n1,(h.pl.below hb).more hb.size,h.be.trans (hb.mono h.be.size),Nat.lt_of_lt_of_le h.lt hb.size⟩
theorem G3st.start (m n:E) (h:PlAt w w.heap.size A c A2 c2 p) :
  G3st w (((w.alloc (.cells #[.slice A p.nodes.length c,.slice A2 p.rails.length c2] 60)).alloc (.cells #[O U m.rail,.bool m.last] 77)).alloc (.cells #[O U n.rail,.bool n.last] 77)) w.heap.size A c A2 c2 p m n:=by
 have hz:∀i,(((w.alloc (.cells #[.slice A p.nodes.length c,.slice A2 p.rails.length c2] 60)).alloc (.cells #[O U m.rail,.bool m.last] 77)).alloc (.cells #[O U n.rail,.bool n.last] 77)).cell? ⟨w.heap.size,i,none⟩=#[.slice A p.nodes.length c,.slice A2 p.rails.length c2][i]?:=fun i=>
  cell_keep1G (cell_keep1G (cell_new1G w _ _ i) (by simp)) (by simp;omega)
 exact⟨hz 0,hz 1,(box_cells3 w _ _ _ _ _ _ 0).1,(box_cells3 w _ _ _ _ _ _ 1).1,(box_cells3 w _ _ _ _ _ _ 0).2,(box_cells3 w _ _ _ _ _ _ 1).2,((h.box _).box _).box _,(((Below.refl _ w).alloc (Nat.le_refl _) _).alloc (by simp) _).alloc (by simp;omega) _,by simp⟩
end
section
variable (A A2:Option Addr) (c c2:Nat) (p:Pl) (m n:E) (w:World)
end
theorem key_in {p:Pl} {m:E} (h:railIn p m.rail=true):0≤m.rail∧keyE m<2 * p.rails.length∧endNo m=(keyE m:Nat):=by
 have h2:=of_decide_eq_true h
 obtain⟨h3,h4⟩:=key_lt h
 exact⟨h2.1,h4,h3.symm⟩
theorem op_in {p:Pl} {m:E} (h:railIn p m.rail=true):keyE (opE m)=flip (keyE m)∧endNo (opE m)=(flip (keyE m):Nat):=by
 have h1:=key_op (m:=m) (key_in h).1
 have h2:=(key_in (p:=p) (m:=opE m) h).2.2
 exact⟨h1,by rw [h2,h1]⟩
end Go.Proofs.YtfhkbbjddjddmaaGreat
