/- A region that draws its order, inside a round of a range over a function: loads of cells that no operation of the region turns may be taken first. -/
import Derived.OrdersIn
import Derived.Test.YtfhkbbjddjddmaaGreatMem
import Derived.KernelRfl
import Derived.Test.YtfhkbbjddjddmaaGreatOwn
set_option linter.unusedVariables false
set_option linter.unusedSimpArgs false
open Go.Value renaming int→O
open Go.IntKind renaming i64→U
namespace Go.Proofs.YtfhkbbjddjddmaaGreat
open Go
section
variable {F:Fence} {n:Nat} {P:Program} {ops:Array Oper} {Q:Exit→Act→World→Prop} {md:Region.Mode} {S:World→Prop}
def wpS (F:Fence) (n:Nat) (P:Program) (md:Region.Mode) (ops:Array Oper) (Q:Exit→Act→World→Prop) (S:World→Prop):Nat→Array Bool→Act→World→Prop
 | 0,listed,a,w=>Region.ready md ops listed= []∧Q .normal a w
 | fuel+1,listed,a,w=>
  (Region.ready md ops listed= []→Q .normal a w)∧
  ∀i∈Region.ready md ops listed,wpOpIn F n P ops Q i (fun a' w'=>S w'∧wpS F n P md ops Q S fuel (listed.setIfInBounds i true) a' w') a w
theorem wpS_sound:∀(fuel:Nat) (listed:Array Bool) (a:Act) (w:World),wpS F n P md ops Q S fuel listed a w→wpAnyIn F n P md ops Q fuel listed a w:=by
 intro fuel
 induction fuel with
 | zero=>exact fun _ _ _ h=>h
 | succ fuel ih=>exact fun listed a w h=>⟨h.1,fun i hi=>wpOpIn_mono (fun a' w' h'=>ih _ _ _ h'.2) (h.2 i hi)⟩
theorem wpIn_region_S {id:Nat} {a:Act} {w:World} (hm:P.follows .mixedOrders=true)
  (h:wpS F n P .any ops Q S ops.size (Array.replicate ops.size false) a w.drew):(Code.region id ops true).wpIn F n P Q a w:=
 wpIn_region_any hm (wpS_sound _ _ _ _ h)
structure GivesS (P:Program) (ops:Array Oper) (S:World→Prop) (o:Oper) (v:Value) (a:Act):Prop where
 want:Region.wanted o (yielded ops a.tmps)=true
 run:∀w,S w→(execOp a.eval o).run P w= .ok (.value v) w
 call:∀w,o.about P w a.eval=none
def Tame (ops:Array Oper):Prop:=∀(j:Nat) (o:Oper),ops[j]? = some o→(∀c,o.op≠.defer c)∧(∀cs b,o.op≠.select cs b)
theorem GivesS.moved {o:Oper} {v:Value} {a:Act} (h:GivesS P ops S o v a) (hs:∀cs b,o.op≠.select cs b) (d:Option Tmp) (u:Value) (hd:∀t,d=some t→t ∉ o.looksAt ops):GivesS P ops S o v (a.put d u):=
 ⟨by rw [wanted_put o a d u hd];exact h.want,fun w hw=>by rw [execOp_put o hs a d u hd];exact h.run w hw,fun w=>by rw [about_put o w a d u hd];exact h.call w⟩
theorem wpOpIn_later {j:Nat} {oi oj:Oper} {v:Value} (ht:Tame ops) {i:Nat} (hi:ops[i]? = some oi) (hj:ops[j]? = some oj) (hap:oi.apart ops oj=true)
  (hQ:∀c a w,Q (.panic c) (a.put oi.dst v) w→Q (.panic c) a w) {K:Act→World→Prop} {a:Act} {w:World}
  (hy:GivesS P ops S oi v a) (h:wpOpIn F n P ops Q j K (a.put oi.dst v) w) :
  wpOpIn F n P ops Q j (fun a' w'=>GivesS P ops S oi v a'∧K (a'.put oi.dst v) w') a w:=by
 obtain⟨h1,h2,h3⟩:=Oper.apart_spec hap
 have si:=(ht i oi hi).2
 obtain⟨dj,sj⟩:=ht j oj hj
 unfold wpOpIn at *
 simp only [hj] at *
 rw [wanted_put oj a oi.dst v h1,about_put oj w a oi.dst v h1] at h
 by_cases hw:Region.wanted oj (yielded ops a.tmps)=true
 ·rw [if_pos hw] at h ⊢
  unfold Oper.wpIn at *
  rw [about_put oj w a oi.dst v h1,Oper.semAt_eq _ _ _ dj,execOp_put oj sj a oi.dst v h1] at h
  rw [Oper.semAt_eq _ _ _ dj]
  refine⟨h.1, ?_⟩
  have hh:=h.2
  generalize (execOp a.eval oj).run P w=r at *
  rcases r with⟨x,w'⟩|⟨x,w'⟩
  ·cases x <;> simp only [Oper.uponIn] at hh ⊢
   case value u=>
    exact⟨hy.moved si _ u h3,by rw [←Act.put_comm a v u h2];exact hh⟩
   case skip=>
    exact⟨hy.moved si _ undef h3,by rw [←Act.put_comm a v undef h2];exact hh⟩
   case defer d=>
    refine⟨GivesS.moved (a:={a with defers:=d :: a.defers}) ⟨hy.want,hy.run,hy.call⟩ si _ undef h3, ?_⟩
    rw [←Act.put_comm _ v undef h2,←Act.put_defers]
    exact hh
   case enter f args=>
    refine⟨hh.1,CallsIn.mono hh.2 fun e w'' he=> ?_⟩
    cases e with
    | returned u=>exact⟨hy.moved si _ u h3,by rw [←Act.put_comm a v u h2];exact he⟩
    | panicked c=>exact hQ _ _ _ he
    | outgrown=>exact he
   case row row args=>
    exact⟨hh.1,RowsIn.mono hh.2 fun u w'' he=>⟨hy.moved si _ u h3,by rw [←Act.put_comm a v u h2];exact he⟩⟩
   case round l f tmps assign body=>
    refine⟨hh.1,RoundIn.mono hh.2 fun e w'' he=> ?_⟩
    cases e with
    | returned u=>exact⟨hy.moved si _ u h3,by rw [←Act.put_comm a v u h2];exact he⟩
    | panicked c=>exact hQ _ _ _ he
    | outgrown=>exact he
  ·cases x <;> simp only [Oper.uponIn] at hh ⊢
   case panic u=>exact hQ _ _ _ hh
 ·rw [if_neg hw] at h ⊢
  exact⟨h.1,hy.moved si _ undef h3,by rw [←Act.put_comm a v undef h2];exact h.2⟩
theorem wpS_first {i:Nat} {oi:Oper} {v:Value} (ht:Tame ops) (hi:ops[i]? = some oi) (hQ:∀c a w,Q (.panic c) (a.put oi.dst v) w→Q (.panic c) a w) :
  ∀(fuel:Nat) (listed:Array Bool) (a:Act) (w:World),
   (∀j oj,ops[j]? = some oj→j≠i→listed.getD j true=false→(∀e∈oj.after,Region.binds md e=true→e.on≠i)→oi.apart ops oj=true)→
   i∈Region.ready md ops listed→GivesS P ops S oi v a→S w→
   wpS F n P md ops Q S fuel (listed.setIfInBounds i true) (a.put oi.dst v) w→wpS F n P md ops Q S (fuel+1) listed a w:=by
 have own:∀(K:Act→World→Prop) (a:Act) (w:World),GivesS P ops S oi v a→S w→K (a.put oi.dst v) w→wpOpIn F n P ops Q i K a w:=by
  intro K a w hy hS hK
  unfold wpOpIn
  simp only [hi,hy.want,if_true,Oper.wpIn,Oper.semAt_eq _ _ _ (ht i oi hi).1,hy.run w hS,Oper.uponIn]
  exact⟨(fun f hf=>by rw [hy.call w] at hf;cases hf),hK⟩
 intro fuel
 induction fuel with
 | zero=>
  intro listed a w _ hr hy hS H
  refine⟨fun h=>absurd hr (by rw [h];simp),fun j hj=> ?_⟩
  by_cases hji:j=i
  ·subst hji;exact own _ a w hy hS ⟨hS,H⟩
  ·have:=ready_mono hj hji
   rw [H.1] at this
   cases this
 | succ fuel ih=>
  intro listed a w hfree hr hy hS H
  refine⟨fun h=>absurd hr (by rw [h];simp),fun j hj=> ?_⟩
  by_cases hji:j=i
  ·subst hji;exact own _ a w hy hS ⟨hS,H⟩
  ·have h1:=H.2 j (ready_mono hj hji)
   obtain⟨hjun,oj,hoj,hall⟩:=mem_ready.1 hj
   have hun:listed.getD i true=false:=(mem_ready.1 hr).1
   have hnot:∀e∈oj.after,Region.binds md e=true→e.on≠i:=by
    intro e he hb heq
    have g:=hall e he hb
    rw [heq] at g
    by_cases hlt:i<listed.size
    ·simp [hlt] at g hun;rw [hun] at g;cases g
    ·simp [Array.getElem?_eq_none (Nat.le_of_not_lt hlt)] at g
   have h2:=wpOpIn_later ht hi hoj (hfree j oj hoj hji hjun hnot) hQ hy h1
   refine wpOpIn_mono (fun a' w' h3=>⟨h3.2.1,ih (listed.setIfInBounds j true) a' w' ?_ (ready_mono hr (Ne.symm hji)) h3.1 h3.2.1 ?_⟩) h2
   ·intro k ok hk hki hkn hno
    refine hfree k ok hk hki ?_ hno
    by_cases hjk:j=k
    ·subst hjk;exact hjun
    ·rwa [getD_set_ne true hjk] at hkn
   ·rw [Array.setIfInBounds_comm _ _ hji]
    exact h3.2.2
theorem wpS_take {i:Nat} {oi:Oper} {v:Value} {fuel:Nat} {listed:Array Bool} {a:Act} {w:World} (ht:Tame ops) (hi:ops[i]? = some oi)
  (hf:Region.free md ops listed i=true) (hr:(Region.ready md ops listed).contains i=true)
  (hQ:∀c a w,Q (.panic c) (a.put oi.dst v) w→Q (.panic c) a w) (hS:S w) (hy:GivesS P ops S oi v a)
  (h:wpS F n P md ops Q S fuel (listed.setIfInBounds i true) (a.put oi.dst v) w):wpS F n P md ops Q S (fuel+1) listed a w:=
 wpS_first ht hi hQ fuel listed a w (Region.free_spec hi hf) (by simpa using hr) hy hS h
theorem wpS_next {i:Nat} {fuel:Nat} {listed:Array Bool} {a:Act} {w:World} (hr:Region.ready md ops listed= [i])
  (h:wpOpIn F n P ops Q i (fun a' w'=>S w'∧wpS F n P md ops Q S fuel (listed.setIfInBounds i true) a' w') a w):wpS F n P md ops Q S (fuel+1) listed a w:=
 ⟨(fun h0=>by rw [h0] at hr;cases hr),fun j hj=>by rw [hr] at hj;simp at hj;subst hj;exact h⟩
theorem wpS_done {fuel:Nat} {listed:Array Bool} {a:Act} {w:World} (hr:Region.ready md ops listed= []) (h:Q .normal a w):wpS F n P md ops Q S fuel listed a w:=by
 cases fuel with
 | zero=>exact⟨hr,h⟩
 | succ fuel=>exact⟨fun _=>h,by rw [hr];simp⟩
theorem wpOpIn_value {i:Nat} {o:Oper} {v:Value} {K:Act→World→Prop} {a:Act} {w w':World} (ht:Tame ops) (hi:ops[i]? = some o) (hw:Region.wanted o (yielded ops a.tmps)=true)
  (hc:o.about P w a.eval=none) (hrun:(execOp a.eval o).run P w= .ok (.value v) w') (h:K (a.put o.dst v) w'):wpOpIn F n P ops Q i K a w:=by
 unfold wpOpIn
 simp only [hi,hw,if_true,Oper.wpIn,Oper.semAt_eq _ _ _ (ht i o hi).1,hrun,Oper.uponIn]
 exact⟨(fun f hf=>by rw [hc] at hf;cases hf),h⟩
theorem wpOpIn_skip {i:Nat} {o:Oper} {K:Act→World→Prop} {a:Act} {w w':World} (ht:Tame ops) (hi:ops[i]? = some o) (hw:Region.wanted o (yielded ops a.tmps)=true)
  (hc:o.about P w a.eval=none) (hrun:(execOp a.eval o).run P w= .ok .skip w') (h:K (a.put o.dst undef) w'):wpOpIn F n P ops Q i K a w:=by
 unfold wpOpIn
 simp only [hi,hw,if_true,Oper.wpIn,Oper.semAt_eq _ _ _ (ht i o hi).1,hrun,Oper.uponIn]
 exact⟨(fun f hf=>by rw [hc] at hf;cases hf),h⟩
end
open Go Go.RowKit
section
variable {F:Fence} {n:Nat} {P:Program} {ops:Array Oper} {Q:Exit→Act→World→Prop} {md:Region.Mode} {S:World→Prop}
def tameB (ops:Array Oper):Bool:=ops.toList.all fun o=>match o.op with| .defer _=>false| .select _ _=>false|_=>true
theorem tame_of (h:tameB ops=true):Tame ops:=fun j o ho=>by
 have hm:o∈ops.toList:=by
  rw [←Array.getElem?_toList] at ho
  exact List.mem_of_getElem? ho
 have:=List.all_eq_true.1 h o hm
 exact⟨fun c e=>by rw [e] at this;simp at this,fun cs b e=>by rw [e] at this;simp at this⟩
theorem wpS_two {i j:Nat} {fuel:Nat} {listed:Array Bool} {a:Act} {w:World} (hr:Region.ready md ops listed= [i,j])
  (h:wpOpIn F n P ops Q i (fun a' w'=>S w'∧wpS F n P md ops Q S fuel (listed.setIfInBounds i true) a' w') a w)
  (h':wpOpIn F n P ops Q j (fun a' w'=>S w'∧wpS F n P md ops Q S fuel (listed.setIfInBounds j true) a' w') a w):wpS F n P md ops Q S (fuel+1) listed a w:=
 ⟨(fun h0=>by rw [h0] at hr;cases hr),fun m hm=>by
  rw [hr] at hm
  simp at hm
  rcases hm with rfl|rfl
  ·exact h
  ·exact h'⟩
end
theorem run_app1 {P:Program} (w:World) (base:Nat) (t rt:TypeId) (i:TypeInfo) (ht:P.underlying t=some (.slice 3)) (hi:P.info? 3=some i) (hz:i.zero=some (O U 0)) (hsz:i.size=1) (hby:i.bytes=8)
  {v:Value} {l:List Int} (h:Own w base 3 1 fI v l) (b:Nat) (x:Int) (hc:w.cell? ⟨b,0,none⟩=some (O U x)) (hl:l.length≤1000000) (hbase:base≤w.heap.size) :
  ∃v' w',(Builtin.append_ #[t,t] rt #[v,.slice (some ⟨b,0,none⟩) 1 1]).run P w= .ok v' w'∧Own w' base 3 1 fI v' (l ++ [x])∧w.grownBy w' v.ownBlock∧(v'.ownBlock=v.ownBlock∨v'.ownBlock=some w.heap.size):=by
 obtain⟨v',w',hrun,h2,h3,h4,h5⟩:=run_append_own_at (P:=P) w base t rt 3 i (O U 0) 1 8 ht hi hz hsz hby rfl (by omega) v l.length (l.flatMap fI) h ⟨b,0,none⟩ 1 1 [O U x] rfl
  (fun j u hu=>by
   cases j with
   | zero=>obtain rfl:_=u:=Option.some.inj hu;exact hc
   | succ j=>simp at hu)
  (by simp [Value.oneCell']) (by simp [maxLen];omega) (by omega) hbase
 refine⟨v',w',hrun, ?_,h3,h5⟩
 unfold Own
 rw [List.length_append,List.flatMap_append]
 exact h2
theorem exec_append {P:Program} {o:Oper} {s x:Operand} {t:TypeId} {w w':World} (ho:o.op= .call {callee:= .builtin .append,args:=#[s,x],argTypes:=#[t,t]}) {a:Act} {v u r:Value} (hs:a.eval s=v) (hx:a.eval x=u)
  (hrun:(Builtin.append_ #[t,t] o.type #[v,u]).run P w= .ok r w'):(execOp a.eval o).run P w= .ok (.value r) w':=by
 unfold execOp
 simp only [ho,resolve,invoke,builtin,Sem.run_bind,Sem.run_pure,Result.andThen_ok,List.map_toArray,List.map_cons,List.map_nil,hs,hx,hrun]
end Go.Proofs.YtfhkbbjddjddmaaGreat
