/- Texts X2 X3 X4. -/
import Derived.Test.YtfhkbbjddjddmaaGreatOwn
import Derived.Deep.Slices
import Derived.Deep.CondSized
import Derived.Test.YtfhkbbjddjddmaaGreatProg
import Derived.Test.YtfhkbbjddjddmaaGreatMa
set_option linter.unusedVariables false
set_option linter.unusedSimpArgs false
open Go.Value renaming int→O
open Go.IntKind renaming i64→U
namespace Go.Proofs.YtfhkbbjddjddmaaGreat
open Go.ChangeShapes Go.WideShapes Go.ChangeAt Go.RowKit Go.Deep
section
variable {H:Type} {enc:TypeId × Value→H} {P:Program} {w:World}
def InReach (P:Program) (t:TypeId) (d:DataW H):Prop:=∀n∈d.weights P t,n≤reachBytes
theorem reach_is:reachBytes=140737488351232:=rfl
theorem weightsAll_in {e:TypeId}:∀{l:List (DataW H)} {d:DataW H},d∈l→∀n∈d.weights P e,n∈DataW.weightsAll P e l
 | d' :: r,d,hd,n,hn=>by
  simp only [DataW.weightsAll,List.mem_append]
  rcases List.mem_cons.1 hd with rfl|h
  ·exact Or.inl hn
  ·exact Or.inr (weightsAll_in h n hn)
theorem list_of {α : Type} {p:Nat→α→Prop}:∀n:Nat,(∀i,i<n→∃x,p i x)→∃l:List α,l.length=n∧∀i x,l[i]? = some x→p i x:=by
 intro n
 induction n with
 | zero=>exact fun _=>⟨[],rfl,fun i x h=>by simp at h⟩
 | succ n ih=>
  intro h
  obtain⟨l,hl,hp⟩:=ih fun i hi=>h i (by omega)
  obtain⟨x,hx⟩:=h n (by omega)
  refine⟨l ++ [x],by simp [hl],fun i y hy=> ?_⟩
  by_cases hi:i<l.length
  ·rw [List.getElem?_append_left hi] at hy;exact hp i y hy
  ·rw [List.getElem?_append_right (by omega)] at hy
   have hi2:i - l.length=0:=by
    rcases Nat.eq_zero_or_pos (i - l.length) with h|h
    ·exact h
    ·rw [List.getElem?_eq_none (by simp;omega)] at hy;cases hy
   rw [hi2] at hy
   obtain rfl:x=y:=by simpa using hy
   rw [show i=n by omega];exact hx
theorem read_slice {α : Type} {C: α→List Value→Prop} {t e:TypeId} {fuel size:Nat} {cs:List Value} {x:DataW H × List MemPlace} (ht:P.underlying t=some (.slice e)) (hc:P.cellsOf e=size) (hz:0<size) (hb1:1≤P.bytesOf e)
  (h:DataW.trod enc P w 0 (fun _=>true) true fuel t cs=some x) (hl:InReach P t x.1)
  (hel:∀n cs' y,DataW.trod enc P w 0 (fun _=>true) true n e cs'=some y→InReach P e y.1→∃z: α,C z cs') :
  ∃(A:Option Addr) (l:List α) (c:Nat),cs= [.slice A l.length c]∧Sl w w.heap.size size C A l∧l.length≤c∧c≤140737488351232:=by
 rcases open_slice ht h with⟨rfl,rfl⟩|⟨a,len,cap,m,n,D,Pl,rfl,hb,hlc,hm,hmm,rfl,hx⟩
 ·exact⟨none, [],0,rfl,Sl.nil,by simp,by omega⟩
 ·have hmm':m=cap:=by simpa using hmm
  subst hmm'
  have hcap:m * P.bytesOf e≤reachBytes:=by
   have:=hl ((((List.range len).map D).length+((List.range (m - len)).map fun j=>D (len+j)).length) * P.bytesOf e) (by simp only [DataW.weights,ht];exact List.mem_cons_self)
   simp only [List.length_map,List.length_range] at this
   rwa [show len+(m - len)=m by omega] at this
  have hcap2:m≤reachBytes:=Nat.le_trans (Nat.le_mul_of_pos_right m hb1) hcap
  obtain⟨l,hll,hp⟩:=list_of (α := α) (p:=fun i z=>∃cs',w.cells? 0 (a.add (i * size)) size=some cs'∧C z cs') len fun i hi=>by
   obtain⟨cs',h1,h2⟩:=hx i (by omega)
   rw [hc] at h1
   obtain⟨z,hz⟩:=hel n cs' _ h2 fun k hk=>hl k (by
    simp only [DataW.weights,ht,List.mem_cons,List.mem_append]
    exact .inr (.inl (weightsAll_in (List.mem_map.2 ⟨i,List.mem_range.2 hi,rfl⟩) k hk)))
   exact⟨z,cs',h1,hz⟩
  refine⟨some a,l,m,by rw [hll], ?_,by omega,by rw [←reach_is];exact hcap2⟩
  intro hne
  have h0:0<l.length:=List.length_pos_iff.2 hne
  obtain⟨cs0,k1,_⟩:=hp 0 l[0] (List.getElem?_eq_getElem h0)
  obtain⟨_,k2,k3⟩:=World.cells?_some k1
  have k4:=k3 0 hz
  rw [List.getElem?_eq_getElem (by omega)] at k4
  have k5:=World.cell?_spot k4
  have k6:=World.block_lt_of_cell? _ _ k4
  obtain⟨b,off,sp⟩:=a
  have hsp:sp=none:=by simpa [Addr.add] using k5
  subst hsp
  refine⟨b,off,rfl,by simpa [Addr.add] using k6,fun i x hx=> ?_⟩
  obtain⟨cs',q1,q2⟩:=hp i x hx
  obtain⟨_,q3,q4⟩:=World.cells?_some q1
  refine⟨cs',q2,fun j u hu=> ?_⟩
  have hj:j<size:=by have:=(List.getElem?_eq_some_iff.1 hu).1;omega
  have:=q4 j hj
  rw [add_lit,add_lit,hu] at this
  exact this
theorem read_field {fs:Array Field} {t:TypeId} {fuel:Nat} {cs:List Value} {x:DataW H × List MemPlace} (ht:P.underlying t=some (.struct fs)) (h:DataW.trod enc P w 0 (fun _=>true) true fuel t cs=some x) (hl:InReach P t x.1) (i:Nat) {f:Field} (hf:fs[i]? = some f) :
  ∃n y,DataW.trod enc P w 0 (fun _=>true) true n f.type ((cs.drop f.offset).take (P.cellsOf f.type))=some y∧InReach P f.type y.1:=by
 obtain⟨xs,n,_,rfl,hlen,hxl,hx⟩:=DataW.trod_struct ht h
 have h1:=hx i f hf
 have hi:i<xs.length:=by rw [hxl];exact (Array.getElem?_eq_some_iff.1 hf).1
 rw [List.getElem?_eq_getElem hi] at h1
 refine⟨n,xs[i],h1,fun k hk=>hl k ?_⟩
 simp only [DataW.weights,ht]
 exact DataW.weights_mem_each (j:=i) (t:=f.type) (d:=xs[i].1) (by simp [hf]) (by simp [hi]) k hk
theorem read_at {fs:Array Field} {t:TypeId} {fuel:Nat} {cs:List Value} {x:DataW H × List MemPlace} (ht:P.underlying t=some (.struct fs)) (h:DataW.trod enc P w 0 (fun _=>true) true fuel t cs=some x) (hl:InReach P t x.1) (i:Nat) {e:TypeId} {off k:Nat}
  (hf:(fs[i]?).map (fun f=>(f.type,f.offset))=some (e,off)) (hc:P.cellsOf e=k) :
  ∃n y,DataW.trod enc P w 0 (fun _=>true) true n e ((cs.drop off).take k)=some y∧InReach P e y.1:=by
 obtain⟨f,hf1,hf2⟩:=Option.map_eq_some_iff.1 hf
 obtain⟨rfl,rfl⟩:=Prod.mk.inj hf2
 subst hc
 exact read_field ht h hl i hf1
theorem read_len {fs:Array Field} {t:TypeId} {fuel:Nat} {cs:List Value} {x:DataW H × List MemPlace} (ht:P.underlying t=some (.struct fs)) (h:DataW.trod enc P w 0 (fun _=>true) true fuel t cs=some x):cs.length=P.cellsOf t:=by
 obtain⟨xs,n,_,rfl,hlen,hxl,hx⟩:=DataW.trod_struct ht h
 exact hlen
end
open Go.ChangeShapes Go.WideShapes Go.ChangeAt Go.RowKit Go.Deep
theorem Tryz.c3:Tryz.prog.cellsOf 3=1:=by kernel_rfl
theorem Tryz.c4:Tryz.prog.cellsOf 4=1:=by kernel_rfl
theorem Tryz.c57:Tryz.prog.cellsOf 57=1:=by kernel_rfl
theorem Tryz.c58:Tryz.prog.cellsOf 58=1:=by kernel_rfl
theorem Tryz.c60:Tryz.prog.cellsOf 60=2:=by kernel_rfl
theorem Tryz.c73:Tryz.prog.cellsOf 73=1:=by kernel_rfl
theorem Tryz.c75:Tryz.prog.cellsOf 75=5:=by kernel_rfl
theorem Tryz.c129:Tryz.prog.cellsOf 129=2:=by kernel_rfl
theorem Tryz.c124:Tryz.prog.cellsOf 124=1:=by kernel_rfl
theorem Tryz.c127:Tryz.prog.cellsOf 127=1:=by kernel_rfl
theorem Tryz.c131:Tryz.prog.cellsOf 131=5:=by kernel_rfl
theorem Tryz.c126:Tryz.prog.cellsOf 126=2:=by kernel_rfl
theorem Tryz.b75:1≤Tryz.prog.bytesOf 75:=by rw [show Tryz.prog.bytesOf 75=56 by kernel_rfl];omega
theorem Tryz.b129:1≤Tryz.prog.bytesOf 129:=by rw [show Tryz.prog.bytesOf 129=16 by kernel_rfl];omega
theorem Tryz.b131:1≤Tryz.prog.bytesOf 131:=by rw [show Tryz.prog.bytesOf 131=56 by kernel_rfl];omega
theorem Tryz.b126:1≤Tryz.prog.bytesOf 126:=by rw [show Tryz.prog.bytesOf 126=16 by kernel_rfl];omega
section
variable {H:Type} {enc:TypeId × Value→H} {w:World} {fuel:Nat} {cs:List Value} {x:DataW H × List MemPlace}
set_option maxRecDepth 100000 in
theorem read_E (h:DataW.trod enc Tryz.prog w 0 (fun _=>true) true fuel 126 cs=some x) (hl:InReach Tryz.prog 126 x.1):∃z:E,CE z cs:=by
 have hn:=read_len Tryz.underlying126 h
 rw [Tryz.c126] at hn
 obtain⟨n1,y1,h1,_⟩:=read_at Tryz.underlying126 h hl 0 rfl Tryz.c3
 obtain⟨n2,y2,h2,_⟩:=read_at Tryz.underlying126 h hl 1 rfl Tryz.c4
 obtain⟨a,ha,_,_⟩:=DataW.trod_int Tryz.underlying3 h1
 obtain⟨b,hb,_⟩:=DataW.trod_bool Tryz.underlying4 h2
 match cs,hn with
 | [u,v],_=>
  simp at ha hb
  subst ha;subst hb
  exact⟨⟨a,b⟩,rfl⟩
set_option maxRecDepth 100000 in
theorem read_S (h:DataW.trod enc Tryz.prog w 0 (fun _=>true) true fuel 129 cs=some x) (hl:InReach Tryz.prog 129 x.1):∃z:S,CS z cs:=by
 have hn:=read_len Tryz.underlying129 h
 obtain⟨n1,y1,h1,_⟩:=read_at Tryz.underlying129 h hl 0 rfl Tryz.c3
 obtain⟨n2,y2,h2,_⟩:=read_at Tryz.underlying129 h hl 1 rfl Tryz.c3
 obtain⟨a,ha,_,_⟩:=DataW.trod_int Tryz.underlying3 h1
 obtain⟨b,hb,_,_⟩:=DataW.trod_int Tryz.underlying3 h2
 match cs,hn with
 | [u,v],_=>
  simp at ha hb
  subst ha;subst hb
  exact⟨⟨a,b⟩,rfl⟩
set_option maxRecDepth 100000 in
theorem read_N (h:DataW.trod enc Tryz.prog w 0 (fun _=>true) true fuel 131 cs=some x) (hl:InReach Tryz.prog 131 x.1):∃z:N,CN w w.heap.size z cs:=by
 have hn:=read_len Tryz.underlying131 h
 rw [Tryz.c131] at hn
 obtain⟨n1,y1,h1,l1⟩:=read_at Tryz.underlying131 h hl 0 rfl Tryz.c129
 obtain⟨n2,y2,h2,_⟩:=read_at Tryz.underlying131 h hl 1 rfl Tryz.c124
 obtain⟨n3,y3,h3,l3⟩:=read_at Tryz.underlying131 h hl 2 rfl Tryz.c127
 obtain⟨n4,y4,h4,_⟩:=read_at Tryz.underlying131 h hl 3 rfl Tryz.c3
 obtain⟨s,hs⟩:=read_S h1 l1
 obtain⟨a,ha,_,_⟩:=DataW.trod_int Tryz.underlying124 h2
 obtain⟨A,l,c,hA,hS,hlc,hcm⟩:=read_slice (C:=CE) Tryz.underlying127 Tryz.c126 (by omega) Tryz.b126 h3 l3 fun n cs' y h hl=>read_E h hl
 obtain⟨b,hb,_,_⟩:=DataW.trod_int Tryz.underlying3 h4
 unfold CS at hs
 match cs,hn with
 | [u0,u1,u2,u3,u4],_=>
  simp at hs ha hA hb
  obtain⟨rfl,rfl⟩:=hs
  subst ha;subst hA;subst hb
  exact⟨⟨s,a,l,b⟩,A,c,rfl,hS,hlc,hcm⟩
set_option maxRecDepth 100000 in
theorem read_R (h:DataW.trod enc Tryz.prog w 0 (fun _=>true) true fuel 75 cs=some x) (hl:InReach Tryz.prog 75 x.1):∃z:R,CR w w.heap.size z cs:=by
 have hn:=read_len Tryz.underlying75 h
 rw [Tryz.c75] at hn
 obtain⟨n1,y1,h1,_⟩:=read_at Tryz.underlying75 h hl 0 rfl Tryz.c3
 obtain⟨n2,y2,h2,_⟩:=read_at Tryz.underlying75 h hl 1 rfl Tryz.c3
 obtain⟨n3,y3,h3,l3⟩:=read_at Tryz.underlying75 h hl 2 rfl Tryz.c73
 obtain⟨n4,y4,h4,_⟩:=read_at Tryz.underlying75 h hl 3 rfl Tryz.c3
 obtain⟨n5,y5,h5,_⟩:=read_at Tryz.underlying75 h hl 4 rfl Tryz.c3
 obtain⟨a,ha,_,_⟩:=DataW.trod_int Tryz.underlying3 h1
 obtain⟨b,hb,_,_⟩:=DataW.trod_int Tryz.underlying3 h2
 obtain⟨A,l,c,hA,hS,hlc,hcm⟩:=read_slice (C:=CS) Tryz.underlying73 Tryz.c129 (by omega) Tryz.b129 h3 l3 fun n cs' y h hl=>read_S h hl
 obtain⟨d,hd,_,_⟩:=DataW.trod_int Tryz.underlying3 h4
 obtain⟨e,he,_,_⟩:=DataW.trod_int Tryz.underlying3 h5
 match cs,hn with
 | [u0,u1,u2,u3,u4],_=>
  simp at ha hb hA hd he
  subst ha;subst hb;subst hA;subst hd;subst he
  exact⟨⟨a,b,l,d,e⟩,A,c,rfl,hS,hlc,hcm⟩
set_option maxRecDepth 100000 in
theorem read_Pl (h:DataW.trod enc Tryz.prog w 0 (fun _=>true) true fuel 60 cs=some x) (hl:InReach Tryz.prog 60 x.1) :
  ∃(p:Pl) (A:Option Addr) (c:Nat) (A2:Option Addr) (c2:Nat),cs= [.slice A p.nodes.length c,.slice A2 p.rails.length c2]∧PlAt w w.heap.size A c A2 c2 p:=by
 have hn:=read_len Tryz.underlying60 h
 rw [Tryz.c60] at hn
 obtain⟨n1,y1,h1,l1⟩:=read_at Tryz.underlying60 h hl 0 rfl Tryz.c57
 obtain⟨n2,y2,h2,l2⟩:=read_at Tryz.underlying60 h hl 1 rfl Tryz.c58
 obtain⟨A,l,c,hA,hS,hlc,hcm⟩:=read_slice (C:=CN w w.heap.size) Tryz.underlying57 Tryz.c131 (by omega) Tryz.b131 h1 l1 fun n cs' y h hl=>read_N h hl
 obtain⟨A2,l2',c2,hA2,hS2,hlc2,hcm2⟩:=read_slice (C:=CR w w.heap.size) Tryz.underlying58 Tryz.c75 (by omega) Tryz.b75 h2 l2 fun n cs' y h hl=>read_R h hl
 match cs,hn with
 | [u,v],_=>
  simp at hA hA2
  subst hA;subst hA2
  exact⟨⟨l,l2'⟩,A,c,A2,c2,rfl,hS,hlc,hcm,hS2,hlc2,hcm2⟩
end
open Go.ChangeShapes Go.WideShapes Go.ChangeAt Go.RowKit Go.Deep
theorem Tryz.c22:Tryz.prog.cellsOf 22=1:=by kernel_rfl
theorem Tryz.c24:Tryz.prog.cellsOf 24=10:=by kernel_rfl
theorem Tryz.c35:Tryz.prog.cellsOf 35=2:=by kernel_rfl
theorem Tryz.b3:1≤Tryz.prog.bytesOf 3:=by rw [show Tryz.prog.bytesOf 3=8 by kernel_rfl];omega
section
variable {H:Type} {enc:TypeId × Value→H} {w:World} {fuel:Nat} {cs:List Value} {x:DataW H × List MemPlace}
theorem read_Is (h:DataW.trod enc Tryz.prog w 0 (fun _=>true) true fuel 22 cs=some x) (hl:InReach Tryz.prog 22 x.1) :
  ∃(A:Option Addr) (l:List Int) (c:Nat),cs= [.slice A l.length c]∧Sl w w.heap.size 1 CI A l∧l.length≤c∧c≤140737488351232:=
 read_slice (C:=CI) Tryz.underlying22 Tryz.c3 (by omega) Tryz.b3 h hl fun n cs' y h hl=>by
  obtain⟨a,rfl,_,hw⟩:=DataW.trod_int Tryz.underlying3 h
  exact⟨a,rfl⟩
set_option maxRecDepth 100000 in
theorem read_Tr (h:DataW.trod enc Tryz.prog w 0 (fun _=>true) true fuel 24 cs=some x) (hl:InReach Tryz.prog 24 x.1) :
  ∃(t:Tr) (A:Option Addr) (c:Nat),cs= [O U t.mass,O U t.len,O U t.speed,O U t.effort,O U t.brake,O U t.power,O U t.resist,O U t.rise,O U t.back,.slice A t.grip.length c]∧Sl w w.heap.size 1 CI A t.grip∧t.grip.length≤c∧c≤140737488351232:=by
 have hn:=read_len Tryz.underlying24 h
 rw [Tryz.c24] at hn
 obtain⟨n0,y0,h0,_⟩:=read_at Tryz.underlying24 h hl 0 rfl Tryz.c3
 obtain⟨n1,y1,h1,_⟩:=read_at Tryz.underlying24 h hl 1 rfl Tryz.c3
 obtain⟨n2,y2,h2,_⟩:=read_at Tryz.underlying24 h hl 2 rfl Tryz.c3
 obtain⟨n3,y3,h3,_⟩:=read_at Tryz.underlying24 h hl 3 rfl Tryz.c3
 obtain⟨n4,y4,h4,_⟩:=read_at Tryz.underlying24 h hl 4 rfl Tryz.c3
 obtain⟨n5,y5,h5,_⟩:=read_at Tryz.underlying24 h hl 5 rfl Tryz.c3
 obtain⟨n6,y6,h6,_⟩:=read_at Tryz.underlying24 h hl 6 rfl Tryz.c3
 obtain⟨n7,y7,h7,_⟩:=read_at Tryz.underlying24 h hl 7 rfl Tryz.c3
 obtain⟨n8,y8,h8,_⟩:=read_at Tryz.underlying24 h hl 8 rfl Tryz.c3
 obtain⟨n9,y9,h9,l9⟩:=read_at Tryz.underlying24 h hl 9 rfl Tryz.c22
 obtain⟨a0,ha0,_,_⟩:=DataW.trod_int Tryz.underlying3 h0
 obtain⟨a1,ha1,_,_⟩:=DataW.trod_int Tryz.underlying3 h1
 obtain⟨a2,ha2,_,_⟩:=DataW.trod_int Tryz.underlying3 h2
 obtain⟨a3,ha3,_,_⟩:=DataW.trod_int Tryz.underlying3 h3
 obtain⟨a4,ha4,_,_⟩:=DataW.trod_int Tryz.underlying3 h4
 obtain⟨a5,ha5,_,_⟩:=DataW.trod_int Tryz.underlying3 h5
 obtain⟨a6,ha6,_,_⟩:=DataW.trod_int Tryz.underlying3 h6
 obtain⟨a7,ha7,_,_⟩:=DataW.trod_int Tryz.underlying3 h7
 obtain⟨a8,ha8,_,_⟩:=DataW.trod_int Tryz.underlying3 h8
 obtain⟨A,l,c,hA,hS,hlc,hcm⟩:=read_Is h9 l9
 match cs,hn with
 | [u0,u1,u2,u3,u4,u5,u6,u7,u8,u9],_=>
  simp at ha0 ha1 ha2 ha3 ha4 ha5 ha6 ha7 ha8 hA
  subst ha0;subst ha1;subst ha2;subst ha3;subst ha4;subst ha5;subst ha6;subst ha7;subst ha8;subst hA
  exact⟨⟨a0,a1,a2,a3,a4,a5,a6,a7,a8,l⟩,A,c,rfl,hS,hlc,hcm⟩
end
open Go.ChangeShapes Go.WideShapes Go.ChangeAt Go.RowKit Go.Deep
theorem Tryz.c77:Tryz.prog.cellsOf 77=2:=by kernel_rfl
theorem Tryz.b77:1≤Tryz.prog.bytesOf 77:=by rw [show Tryz.prog.bytesOf 77=16 by kernel_rfl];omega
section
variable {H:Type} {enc:TypeId × Value→H} {w:World} {fuel:Nat} {cs:List Value} {x:DataW H × List MemPlace}
set_option maxRecDepth 100000 in
theorem read_Mv (h:DataW.trod enc Tryz.prog w 0 (fun _=>true) true fuel 77 cs=some x) (hl:InReach Tryz.prog 77 x.1):∃z:E,CE z cs:=by
 have hn:=read_len Tryz.underlying77 h
 rw [Tryz.c77] at hn
 obtain⟨n1,y1,h1,_⟩:=read_at Tryz.underlying77 h hl 0 rfl Tryz.c3
 obtain⟨n2,y2,h2,_⟩:=read_at Tryz.underlying77 h hl 1 rfl Tryz.c4
 obtain⟨a,ha,_,_⟩:=DataW.trod_int Tryz.underlying3 h1
 obtain⟨b,hb,_⟩:=DataW.trod_bool Tryz.underlying4 h2
 match cs,hn with
 | [u,v],_=>
  simp at ha hb
  subst ha;subst hb
  exact⟨⟨a,b⟩,rfl⟩
theorem read_Ms (h:DataW.trod enc Tryz.prog w 0 (fun _=>true) true fuel 61 cs=some x) (hl:InReach Tryz.prog 61 x.1) :
  ∃(A:Option Addr) (l:List E) (c:Nat),cs= [.slice A l.length c]∧Sl w w.heap.size 2 CE A l∧l.length≤c∧c≤140737488351232:=
 read_slice (C:=CE) Tryz.underlying61 Tryz.c77 (by omega) Tryz.b77 h hl fun n cs' y h hl=>read_Mv h hl
end
end Go.Proofs.YtfhkbbjddjddmaaGreat
