/- Lists that the call itself appends to: by elements, whatever their size. -/
import Derived.Test.YtfhkbbjddjddmaaGreatMem
import Derived.Maps.AppendAt
import Derived.Deep.AppendLies
import Derived.RegionTactic
import Derived.OwnWalk
set_option linter.unusedVariables false
set_option linter.unusedSimpArgs false
open Go.Value renaming int→O
open Go.IntKind renaming i64→U
namespace Go.Proofs.YtfhkbbjddjddmaaGreat
open Go.RowKit
theorem add_lit (b off k:Nat):(⟨b,off,none⟩:Addr).add k=⟨b,off+k,none⟩:=by
 unfold Addr.add
 split
 ·rename_i h;subst h;rfl
 ·rfl
section flat
variable {α : Type} {f: α→List Value} {size:Nat}
theorem flat_len (hf:∀x,(f x).length=size) (l:List α):(l.flatMap f).length=l.length * size:=by
 induction l with
 | nil=>simp
 | cons x r ih=>rw [List.flatMap_cons,List.length_append,ih,hf,List.length_cons,Nat.add_mul,Nat.one_mul,Nat.add_comm]
theorem flat_get (hf:∀x,(f x).length=size) {j:Nat} (hj:j<size) (l:List α):∀i:Nat,(l.flatMap f)[i * size+j]? = (l[i]?).bind fun x=>(f x)[j]?:=by
 induction l with
 | nil=>intro i;simp
 | cons x r ih=>
  intro i
  rw [List.flatMap_cons]
  cases i with
  | zero=>rw [Nat.zero_mul,Nat.zero_add,List.getElem?_append_left (by rw [hf];exact hj)];rfl
  | succ i=>
   rw [List.getElem?_append_right (by rw [hf,Nat.add_mul];omega),hf,show (i+1) * size+j - size=i * size+j by rw [Nat.add_mul];omega,ih i]
   simp
theorem flat_one (h1:∀x,∀u∈f x,u.oneCell'=true) (l:List α):∀u∈l.flatMap f,u.oneCell'=true:=by
 intro u hu
 obtain⟨x,_,hx⟩:=List.mem_flatMap.1 hu
 exact h1 x u hx
end flat
def Own {α : Type} (w:World) (base:Nat) (e:TypeId) (size:Nat) (f: α→List Value) (v:Value) (l:List α):Prop:=w.ownsRow base e size v l.length (l.flatMap f)
section own
variable {α : Type} {f: α→List Value} {w w':World} {base B size:Nat} {e:TypeId} {v:Value} {l:List α}
theorem Own.nil (w:World) (base:Nat) (e:TypeId) (size:Nat) (f: α→List Value):Own w base e size f (.slice none 0 0) []:=by
 unfold Own;simpa using World.ownsRow_nil w base e size
theorem Own.made (w:World) (cur:Array Value) (cap:Nat) (hb:base≤w.heap.size) (hm:cap≤maxLen) (hs:cur.size=cap * size) :
  Own (w.alloc (.cells cur e)) base e size f (.slice (some ⟨w.heap.size,0,none⟩) 0 cap) []:=by
 unfold Own;simpa using World.ownsRow_made w cur cap hb hm hs
theorem Own.form (h:Own w base e size f v l):∃A c,v= .slice A l.length c∧l.length≤c∧c≤maxLen∧(A=none→l= []):=by
 rcases h.2 with⟨rfl,hn⟩|⟨g,cap,cur,rfl,hb,hg,hn,hm,_⟩
 ·exact⟨none,0,by rw [hn],by omega,by simp [maxLen],fun _=>List.eq_nil_of_length_eq_zero hn⟩
 ·exact⟨some ⟨g,0,none⟩,cap,rfl,hn,hm,fun h=>by cases h⟩
theorem Own.alloc (h:Own w base e size f v l) (o:Obj):Own (w.alloc o) base e size f v l:=World.ownsRow.alloc h o
theorem Own.drewN (h:Own w base e size f v l) (n:Nat):Own (w.drewN n) base e size f v l:=h
theorem Own.lt (h:Own w base e size f v l):∀k,v.ownBlock=some k→base≤k∧k<w.heap.size:=World.ownsRow.lt h
theorem Own.of_blocks (h:Own w base e size f v l) (hb:∀k,v.ownBlock=some k→w'.heap[k]? = w.heap[k]?):Own w' base e size f v l:=by
 refine⟨h.1, ?_⟩
 rcases h.2 with hn|⟨g,cap,cur,rfl,hb',hg,r⟩
 ·exact .inl hn
 ·exact .inr ⟨g,cap,cur,rfl,hb',(hb g rfl).trans hg,r⟩
theorem Own.below (h:Own w base e size f v l) (hb:Below B w w') (hB:w.heap.size≤B):Own w' base e size f v l:=
 h.of_blocks fun k hk=>hb.block k (by have:=(h.lt k hk).2;omega)
theorem Own.lower {base':Nat} (h:Own w base e size f v l) (hb:base'≤base):Own w base' e size f v l:=by
 refine⟨h.1, ?_⟩
 rcases h.2 with hn|⟨g,cap,cur,rfl,hb',r⟩
 ·exact .inl hn
 ·exact .inr ⟨g,cap,cur,rfl,by omega,r⟩
theorem Own.sl (hf:∀x,(f x).length=size) (h:Own w base e size f v l) {A:Option Addr} {c:Nat} (hv:v= .slice A l.length c):Sl w w.heap.size size (fun x cs=>cs=f x) A l:=by
 intro hl
 rcases h.2 with⟨_,hn⟩|⟨g,cap,cur,rfl,hb,hg,_,_,hc,ht⟩
 ·exact absurd (List.eq_nil_of_length_eq_zero hn) hl
 ·injection hv with hA _ _
  refine⟨g,0,hA.symm,(Array.getElem?_eq_some_iff.1 hg).1,fun i x hx=>⟨f x,rfl,fun j u hu=> ?_⟩⟩
  have hj:j<size:=by rw [←hf x];exact (List.getElem?_eq_some_iff.1 hu).1
  have:=h.cells (g:=g) rfl (i * size+j) u (by rw [flat_get hf hj,hx];exact hu)
  rw [add_lit] at this
  simpa using this
theorem Sl.flat {A:Option Addr} (hf:∀x,(f x).length=size) (hz:0<size) (h:Sl w B size (fun x cs=>cs=f x) A l) {b off:Nat} (hA:A=some ⟨b,off,none⟩) :
  ∀k u,(l.flatMap f)[k]? = some u→w.cell? ((⟨b,off,none⟩:Addr).add k)=some u:=by
 intro k u hu
 have hl:l≠ []:=by rintro rfl;simp at hu
 obtain⟨b',off',hA',_,hc⟩:=h hl
 rw [hA] at hA';injection hA' with hA';injection hA' with e1 e2 _;subst e1;subst e2
 have hk:k=k / size * size+k % size:=(Nat.div_add_mod' k size).symm
 have hm:k % size<size:=Nat.mod_lt _ hz
 rw [hk,flat_get hf hm] at hu
 obtain⟨x,hx,hu⟩:=Option.bind_eq_some_iff.1 hu
 obtain⟨cs,rfl,hcc⟩:=hc _ _ hx
 have:=hcc _ _ hu
 rw [add_lit]
 rw [Nat.add_assoc,←hk] at this
 exact this
end own
section append
variable {α : Type} {f: α→List Value} {P:Program} (w:World)
theorem run_app_nil (base:Nat) (t ty e:TypeId) (i:TypeInfo) (size:Nat) (ht:P.underlying t=some (.slice e)) (hi:P.info? e=some i)
  (v:Value) (n:Nat) (xs:List Value) (hown:w.ownsRow base e size v n xs) (c:Nat):(Builtin.append_ #[t,t] ty #[v,.slice none 0 c]).run P w= .ok v w:=by
 rcases hown.2 with⟨rfl,rfl⟩|⟨g,cap,cur,rfl,_,_,hnc,_⟩
 ·simp [Builtin.append_,run_underlying ht,sizeOf,typeInfo,hi,Builtin.lenOf,Builtin.firstCells]
 ·simp [Builtin.append_,run_underlying ht,sizeOf,typeInfo,hi,Builtin.lenOf,Builtin.firstCells,hnc,storeCells]
theorem wpList_app {ops:Array Oper} {rest:List Oper} {o:Oper} {a:Act} {Q:Exit→Act→World→Prop} (hgd:o.guard=none) (s x:Operand) (t:TypeId)
  (ho:o.op= .call {callee:= .builtin .append,args:=#[s,x],argTypes:=#[t,t]})
  (base:Nat) (e:TypeId) (i:TypeInfo) (z:Value) (size bytes:Nat) (ht:P.underlying t=some (.slice e)) (hi:P.info? e=some i) (hz:i.zero=some z)
  (hsize:i.size=size) (hby:i.bytes=bytes) (hzs:z.cells.size=size) (hsz:0<size) (hf:∀x,(f x).length=size) (h1:∀x,∀u∈f x,u.oneCell'=true)
  (v:Value) (l:List α) (hs:a.eval s=v) (hown:Own w base e size f v l)
  (B:Nat) (A:Option Addr) (m:List α) (c:Nat) (hx:a.eval x= .slice A m.length c) (hr:Sl w B size (fun x cs=>cs=f x) A m)
  (h63:l.length+m.length≤maxLen) (hbytes:(l.length+m.length) * bytes≤140737488355328) (hbase:base≤w.heap.size) (hA0:m= []→A=none∨∃ad,A=some ad)
  (h:∀v' w',Own w' base e size f v' (l ++ m)→w.grownBy w' v.ownBlock→(v'.ownBlock=v.ownBlock∨v'.ownBlock=some w.heap.size)→(m≠ []→v'≠.slice none 0 0)→wpList P ops Q rest (a.put o.dst v') w') :
  wpList P ops Q (o :: rest) a w:=by
 refine wpList_plain hgd fun K hK=> ?_
 have key:∃v' w',(Builtin.append_ #[t,t] o.type #[v,.slice A m.length c]).run P w= .ok v' w'∧Own w' base e size f v' (l ++ m)∧w.grownBy w' v.ownBlock∧(v'.ownBlock=v.ownBlock∨v'.ownBlock=some w.heap.size)∧(m≠ []→v'≠.slice none 0 0):=by
  rcases A with _|ad
  ·have hm:m= []:=by
    rcases m with _|⟨x,r⟩
    ·rfl
    ·obtain⟨_,_,h,_⟩:=hr (by simp);cases h
   subst hm
   exact⟨v,w,run_app_nil w base t o.type e i size ht hi v _ _ hown c,by simpa using hown,World.grownBy.refl w _,.inl rfl,fun h=>absurd rfl h⟩
  ·have hcells:∀j u,(m.flatMap f)[j]? = some u→w.cell? (ad.add j)=some u:=by
    rcases m with _|⟨x,r⟩
    ·intro j u hu;simp at hu
    ·obtain⟨b,off,h,_⟩:=hr (by simp)
     injection h with h;subst h
     exact hr.flat hf hsz rfl
   obtain⟨v',w',hrun,h2,h3,h4,h5⟩:=run_append_own_at (P:=P) w base t o.type e i z size bytes ht hi hz hsize hby hzs hsz v _ _ hown ad m.length c (m.flatMap f) (flat_len hf m) hcells (flat_one h1 m) h63 hbytes hbase
   refine⟨v',w',hrun, ?_,h3,h5,fun hm hv=> ?_⟩
   ·unfold Own;rw [List.length_append,List.flatMap_append];exact h2
   ·exact hm (List.eq_nil_of_length_eq_zero (h4.1 hv).2)
 obtain⟨v',w',hrun,h2,h3,h4,h5⟩:=key
 refine Oper.wp.eq_1 P o a w K Q ▸ ?_
 unfold execOp
 simp only [ho,resolve,invoke,builtin,Sem.run_bind,Sem.run_pure,Result.andThen_ok,List.map_toArray,List.map_cons,List.map_nil,hs,hx,hrun]
 exact hK _ _ (h v' w' h2 h3 h4 h5)
end append
theorem run_mk {P:Program} (t e:TypeId) (i:TypeInfo) (z:Value) (size:Nat) (ht:P.underlying t=some (.slice e)) (hi:P.info? e=some i) (hz:i.zero=some z) (hs:i.size=size)
  (l c:Int) (m n:Nat) (hl:l=m) (hc:c=n) (hmn:m≤n) (hb:i.bytes * n≤281474976710656) (h63:n≤9223372036854775807) (w:World) :
  (Instr.makeSlice t (O U l) (O U c)).run P w= .ok (.slice (some ⟨w.heap.size,0,none⟩) m n) (w.alloc (.cells (madeCells z.cells (n * size)) e)):=by
 subst hl;subst hc;subst hs
 have:=run_make (P:=P) (w:=w) t e i z ht hi hz .i64 .i64 (m:Int) (n:Int) (by omega) (by omega) (by rw [←Int.natCast_mul];omega) (by omega)
 simpa using this
theorem own_ge {v0:Value} {a m n s k B:Nat} (h:v0.ownBlock=(Value.slice (some ⟨a,0,none⟩) m n).ownBlock∨v0.ownBlock=some s) (hk:v0.ownBlock=some k) (h1:B≤a) (h2:B≤s):B≤k:=by
 rcases h with e|e <;> rw [e] at hk
 ·have h':a=k:=Option.some.inj hk
  omega
 ·have h':=Option.some.inj hk
  omega
def fS (s:S):List Value:= [O U s.x,O U s.y]
def fE (s:E):List Value:= [O U s.rail,.bool s.last]
def fI (x:Int):List Value:= [O U x]
theorem fS_len (s:S):(fS s).length=2:=rfl
theorem fS_one (s:S):∀u∈fS s,u.oneCell'=true:=by simp [fS,Value.oneCell']
theorem fE_len (s:E):(fE s).length=2:=rfl
theorem fE_one (s:E):∀u∈fE s,u.oneCell'=true:=by simp [fE,Value.oneCell']
theorem fI_len (s:Int):(fI s).length=1:=rfl
theorem fI_one (s:Int):∀u∈fI s,u.oneCell'=true:=by simp [fI,Value.oneCell']
theorem Sl.new {α : Type} {f: α→List Value} {size:Nat} (w:World) (t:TypeId) (x: α) (cs:Array Value) (h:cs=(f x).toArray) :
  Sl (w.alloc (.cells cs t)) (w.heap.size+1) size (fun x cs=>cs=f x) (some ⟨w.heap.size,0,none⟩) [x]:=by
 subst h
 intro _
 refine⟨w.heap.size,0,rfl,by omega,fun i y hy=> ?_⟩
 cases i with
 | succ i=>simp at hy
 | zero=>
  obtain rfl:x=y:=by simpa using hy
  refine⟨_,rfl,fun j u hu=> ?_⟩
  rw [cell_of_row _ w.heap.size (0+0 * size+j) _ t (0,0) (heap_alloc_new w _)]
  simpa using hu
theorem Own.built {α : Type} {f: α→List Value} {size:Nat} (w:World) (base:Nat) (e:TypeId) (x: α) (cs:Array Value) (h:cs=(f x).toArray) (hf:∀x,(f x).length=size) (hb:base≤w.heap.size) :
  Own (w.alloc (.cells cs e)) base e size f (.slice (some ⟨w.heap.size,0,none⟩) 1 1) [x]:=by
 subst h
 refine⟨by simp [hf],.inr ⟨w.heap.size,1,_,rfl,hb,heap_alloc_new w _,Nat.le_refl _,by simp [maxLen],by simp [hf], ?_⟩⟩
 simp only [List.flatMap_cons,List.flatMap_nil,List.append_nil,Nat.one_mul]
 rw [List.take_of_length_le (by simp [hf])]
end Go.Proofs.YtfhkbbjddjddmaaGreat
