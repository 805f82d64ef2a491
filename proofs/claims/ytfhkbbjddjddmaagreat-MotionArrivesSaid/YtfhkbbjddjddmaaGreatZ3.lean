/- Contracts of the specification: arrives, leaves, Of, index, lets, Follows. -/
import Derived.Test.YtfhkbbjddjddmaaGreatY3
import Derived.Test.YtfhkbbjddjddmaaGreatJG
import Derived.Deep.RegionHeld3
import Derived.Deep.Cut
import Derived.Deep.CutRange
import Derived.Deep.DeepCutAuto
set_option linter.unusedVariables false
set_option linter.unusedSimpArgs false
open Go.Value renaming int→O
open Go.IntKind renaming i64→U
open Go.Lib renaming hid→Z
namespace Go.Proofs.YtfhkbbjddjddmaaGreat
open Go.RowKit
set_option maxHeartbeats 1000000 in
theorem arrives_any (r:Int) (b:Bool) (w:World) :
  Calls Tryz.prog 111 #[.agg #[O U r,.bool b]] w fun e w'=>e= .returned (.agg #[O U r,.bool !b])∧Below w.heap.size w w':=by
 go_enter Tryz.func111,Tryz.ntmps111
 go_wp2
 exact bodyPost_ret (v:= .agg #[O U r,.bool !b]) (by simp [results,Tryz.results111,go_sem]) rfl ⟨rfl,(((Below.refl _ _).alloc (Nat.le_refl _) _).alloc (by simp) _)⟩
set_option maxHeartbeats 1000000 in
theorem leaves_any (r:Int) (b:Bool) (w:World) :
  Calls Tryz.prog 113 #[.agg #[O U r,.bool b]] w fun e w'=>e= .returned (.agg #[O U r,.bool b])∧Below w.heap.size w w':=by
 go_enter Tryz.func113,Tryz.ntmps113
 go_wp2
 exact bodyPost_ret (v:= .agg #[O U r,.bool b]) (by simp [results,Tryz.results113,go_sem]) rfl ⟨rfl,(((Below.refl _ _).alloc (Nat.le_refl _) _).alloc (by simp) _)⟩
def IxIs (l:List E) (e:E) (r:Int):Prop:=(∃s,∃h:s<l.length,r=(s:Int)∧l[s]=e)∨(r= -1∧e ∉ l)
theorem not_mem_nextE {l:List E} {e:E} {k:Nat} (hk:k<l.length) (h:e ∉ l.take k) (hne:e≠l[k]):e ∉ l.take (k+1):=by
 rw [List.take_succ_eq_append_getElem hk]
 intro hm
 rcases List.mem_append.1 hm with hm|hm
 ·exact h hm
 ·exact hne (by simpa using hm)
set_option maxRecDepth 100000 in
set_option maxHeartbeats 2000000 in
theorem rindex_any (A:Option Addr) (l:List E) (c:Nat) (sx sy kd nm er:Int) (eb:Bool) (w:World) (hA:Sl w w.heap.size 2 CE A l) (hl:l.length≤140737488351232) :
  Calls Tryz.prog 112 #[.agg #[O U sx,O U sy,O U kd,.slice A l.length c,O U nm],.agg #[O U er,.bool eb]] w fun e w'=>(∃i:Int,e= .returned (O U i)∧IxIs l ⟨er,eb⟩ i)∧Below w.heap.size w w':=by
 have HB0:=Z (((Below.refl w.heap.size w).alloc (Nat.le_refl _) (.cells #[O U sx,O U sy,O U kd,.slice A l.length c,O U nm] 131)).alloc (by simp) (.cells #[O U er,.bool eb] 126))
 obtain⟨x0,x1⟩:_∧_:=⟨cell_new1G (w.alloc (.cells #[O U sx,O U sy,O U kd,.slice A l.length c,O U nm] 131)) #[O U er,.bool eb] 126 0,cell_new1G (w.alloc (.cells #[O U sx,O U sy,O U kd,.slice A l.length c,O U nm] 131)) #[O U er,.bool eb] 126 1⟩
 rw [show (w.alloc (.cells #[O U sx,O U sy,O U kd,.slice A l.length c,O U nm] 131)).heap.size=w.heap.size+1 by simp] at x0 x1
 have y3:=cell_keep1G (o:= .cells #[O U er,.bool eb] 126) (cell_new1G w #[O U sx,O U sy,O U kd,.slice A l.length c,O U nm] 131 3) (by simp)
 have HX0:=Z x0;have HX1:=Z x1;have HY3:=Z y3
 have hz:((w.alloc (.cells #[O U sx,O U sy,O U kd,.slice A l.length c,O U nm] 131)).alloc (.cells #[O U er,.bool eb] 126)).heap.size=w.heap.size+1+1:=by simp
 have HZ:=Z hz
 clear x0 x1 y3 hz
 go_enter Tryz.func112,Tryz.ntmps112
 go_wp2
 go_loopw [5] (fun i wr=>∃k:Nat,k≤l.length∧i=O U k∧(⟨er,eb⟩:E) ∉ l.take k∧Below (w.heap.size+1+1) ((w.alloc (.cells #[O U sx,O U sy,O U kd,.slice A l.length c,O U nm] 131)).alloc (.cells #[O U er,.bool eb] 126)) wr) (fun i _=>l.length - (intOf i).toNat)
 case atStart=>exact⟨0,Nat.zero_le _,rfl,by simp,Below.refl _ _⟩
 case round=>
  obtain⟨k,hk,rfl,hn,hb⟩:=hrel
  have HN:=Z hn;clear hn
  have HB:=Z (HB0.out.trans (hb.mono (by omega)))
  have x0:=(hb.cell (p:=⟨w.heap.size+1,0,none⟩) (by simp)).trans HX0.out
  have x1:=(hb.cell (p:=⟨w.heap.size+1,1,none⟩) (by simp)).trans HX1.out
  have y3:=(hb.cell (p:=⟨w.heap.size,3,none⟩) (by show w.heap.size<w.heap.size+1+1;omega)).trans HY3.out
  simp only [List.getElem?_toArray,List.getElem?_cons_zero,List.getElem?_cons_succ] at x0 x1 y3
  by_cases hlt:k<l.length
  ·obtain⟨b1,o1,e1,g1,q10,q11⟩:=end_at (hA.below HB.out) hlt
   obtain⟨z0,z1,hx⟩:∃x0 x1,l[k]=(⟨x0,x1⟩:E):=⟨l[k].rail,l[k].last,rfl⟩
   rw [hx] at q10 q11
   have HX:=Z hx
   have HBW:=Z hb
   subst e1
   clear hx hb
   by_cases h0:z0=er
   case neg=>
    have n1:(z0 == er)=false:=by simpa using h0
    have HM:=Z (not_mem_nextE hlt HN.out (by rw [HX.out];intro h;injection h with h h';exact h0 h.symm))
    clear h0
    go_wp2
    go_quiet (fail)
    go_wp2
    go_roundw
    case rel=>exact⟨k+1,by omega,by go_num,HM.out,bDrewN HBW.out _⟩
    case measure=>simp [intOf];omega
   subst h0
   by_cases h1:z1=eb
   case neg=>
    have n1:(z1 == eb)=false:=by simpa using h1
    have HM:=Z (not_mem_nextE hlt HN.out (by rw [HX.out];intro h;injection h with h h';exact h1 h'.symm))
    clear h1
    go_wp2
    go_quiet (fail)
    go_wp2
    go_roundw
    case rel=>exact⟨k+1,by omega,by go_num,HM.out,bDrewN HBW.out _⟩
    case measure=>simp [intOf];omega
   subst h1
   go_wp2
   go_quiet (fail)
   go_wp2
   go_ret
   exact⟨⟨_,rfl,.inl ⟨k,hlt,rfl,HX.out⟩⟩,bDrewN HB.out _⟩
  ·obtain rfl:k=l.length:=by omega
   have HQ:=Z (show (⟨er,eb⟩:E) ∉ l by have:=HN.out;rwa [List.take_length] at this)
   clear hb
   go_wp2
   go_ret
   exact⟨⟨_,rfl,.inr ⟨rfl,HQ.out⟩⟩,HB.out⟩
def letsB (kd nm a b:Int):Bool:=
 if kd=2 then decide (a≠b) else if kd=3 then decide (a≠b∧(a+b) % 2=0) else if kd=4 then decide ((a=0∧0<b)∨(0<a∧b=0))
 else if kd=5 then decide ((a=0∧b=nm)∨(0<a∧b=0)) else if kd=6 then decide ((a=0∧b=nm)∨(a=nm∧b=0)) else false
def LetsC (kd nm a b:Int):Prop:=∀(sx sy:Int) (E:Value) (w:World),Calls Tryz.prog 114 #[.agg #[O U sx,O U sy,O U kd,E,O U nm],O U a,O U b] w fun e w'=>e= .returned (.bool (letsB kd nm a b))∧Below w.heap.size w w'
set_option maxRecDepth 100000 in
set_option maxHeartbeats 2000000 in
theorem lets2 {nm a b:Int}:LetsC 2 nm a b:=by
 intro sx sy E w
 by_cases hab:a=b
 ·have qa1:(a == b)=true:=by simp [hab]
  have qa2:(a != b)=false:=by simp [hab]
  have HD:=Z (show letsB 2 nm a b=false by simp [letsB, *] <;> omega)
  go_enter Tryz.func114,Tryz.ntmps114
  go_wp2
  go_ret
  exact⟨by rw [HD.out];rfl,(Below.refl _ _).alloc (Nat.le_refl _) _⟩
 ·have qa1:(a == b)=false:=by simp [hab]
  have qa2:(a != b)=true:=by simp [hab]
  have HD:=Z (show letsB 2 nm a b=true by simp [letsB, *] <;> omega)
  go_enter Tryz.func114,Tryz.ntmps114
  go_wp2
  go_ret
  exact⟨by rw [HD.out];rfl,(Below.refl _ _).alloc (Nat.le_refl _) _⟩
set_option maxRecDepth 100000 in
set_option maxHeartbeats 2000000 in
theorem lets3 {nm a b:Int} (a0:0≤a) (a1:a≤1000) (b0:0≤b) (b1:b≤1000):LetsC 3 nm a b:=by
 intro sx sy E w
 by_cases hab:a=b
 ·have qa1:(a == b)=true:=by simp [hab]
  have qa2:(a != b)=false:=by simp [hab]
  have HD:=Z (show letsB 3 nm a b=false by simp [letsB, *] <;> omega)
  go_enter Tryz.func114,Tryz.ntmps114
  go_wp2
  go_ret
  exact⟨by rw [HD.out];rfl,(Below.refl _ _).alloc (Nat.le_refl _) _⟩
 ·have qa1:(a == b)=false:=by simp [hab]
  have qa2:(a != b)=true:=by simp [hab]
  by_cases hp:(a+b) % 2=0
  ·have q3:((a+b) % 2 == 0)=true:=by simp [hp]
   have HD:=Z (show letsB 3 nm a b=true by simp [letsB, *] <;> omega)
   go_enter Tryz.func114,Tryz.ntmps114
   go_wp2
   go_ret
   exact⟨by rw [HD.out];rfl,(Below.refl _ _).alloc (Nat.le_refl _) _⟩
  ·have q3:((a+b) % 2 == 0)=false:=by simp;omega
   have HD:=Z (show letsB 3 nm a b=false by simp [letsB, *] <;> omega)
   go_enter Tryz.func114,Tryz.ntmps114
   go_wp2
   go_ret
   exact⟨by rw [HD.out];rfl,(Below.refl _ _).alloc (Nat.le_refl _) _⟩
set_option maxRecDepth 100000 in
set_option maxHeartbeats 2000000 in
theorem lets4 {nm a b:Int} (a0:0≤a) (b0:0≤b):LetsC 4 nm a b:=by
 intro sx sy E w
 rcases Int.lt_or_eq_of_le a0 with ha|rfl
 ·have ra:decide (0<a)=true:=by simpa using ha
  have ra1:(a == 0)=false:=by simp;omega
  have ra2:¬a=0:=by omega
  rcases Int.lt_or_eq_of_le b0 with hb|rfl
  ·have rb:decide (0<b)=true:=by simpa using hb
   have rb1:(b == 0)=false:=by simp;omega
   have rb2:¬b=0:=by omega
   have HD:=Z (show letsB 4 nm a b=false by simp [letsB, *] <;> omega)
   go_enter Tryz.func114,Tryz.ntmps114
   go_wp2
   go_ret
   exact⟨by rw [HD.out];rfl,(Below.refl _ _).alloc (Nat.le_refl _) _⟩
  ·skip
   have HD:=Z (show letsB 4 nm a 0=true by simp [letsB, *] <;> omega)
   go_enter Tryz.func114,Tryz.ntmps114
   go_wp2
   go_ret
   exact⟨by rw [HD.out];rfl,(Below.refl _ _).alloc (Nat.le_refl _) _⟩
 ·skip
  rcases Int.lt_or_eq_of_le b0 with hb|rfl
  ·have rb:decide (0<b)=true:=by simpa using hb
   have rb1:(b == 0)=false:=by simp;omega
   have rb2:¬b=0:=by omega
   have HD:=Z (show letsB 4 nm 0 b=true by simp [letsB, *] <;> omega)
   go_enter Tryz.func114,Tryz.ntmps114
   go_wp2
   go_ret
   exact⟨by rw [HD.out];rfl,(Below.refl _ _).alloc (Nat.le_refl _) _⟩
  ·skip
   have HD:=Z (show letsB 4 nm 0 0=false by simp [letsB, *] <;> omega)
   go_enter Tryz.func114,Tryz.ntmps114
   go_wp2
   go_ret
   exact⟨by rw [HD.out];rfl,(Below.refl _ _).alloc (Nat.le_refl _) _⟩
set_option maxRecDepth 100000 in
set_option maxHeartbeats 2000000 in
theorem lets5 {nm a b:Int} (a0:0≤a) (b0:0≤b):LetsC 5 nm a b:=by
 intro sx sy E w
 rcases Int.lt_or_eq_of_le a0 with ha|rfl
 ·have ra:decide (0<a)=true:=by simpa using ha
  have ra1:(a == 0)=false:=by simp;omega
  have ra2:¬a=0:=by omega
  rcases Int.lt_or_eq_of_le b0 with hb|rfl
  ·have rb:decide (0<b)=true:=by simpa using hb
   have rb1:(b == 0)=false:=by simp;omega
   have rb2:¬b=0:=by omega
   have HD:=Z (show letsB 5 nm a b=false by simp [letsB, *] <;> omega)
   go_enter Tryz.func114,Tryz.ntmps114
   go_wp2
   go_ret
   exact⟨by rw [HD.out];rfl,(Below.refl _ _).alloc (Nat.le_refl _) _⟩
  ·skip
   have HD:=Z (show letsB 5 nm a 0=true by simp [letsB, *] <;> omega)
   go_enter Tryz.func114,Tryz.ntmps114
   go_wp2
   go_ret
   exact⟨by rw [HD.out];rfl,(Below.refl _ _).alloc (Nat.le_refl _) _⟩
 ·skip
  by_cases hbnm:b=nm
  ·have qb1:(b == nm)=true:=by simp [hbnm]
   have qb2:(b != nm)=false:=by simp [hbnm]
   have HD:=Z (show letsB 5 nm 0 b=true by simp [letsB, *] <;> omega)
   go_enter Tryz.func114,Tryz.ntmps114
   go_wp2
   go_ret
   exact⟨by rw [HD.out];rfl,(Below.refl _ _).alloc (Nat.le_refl _) _⟩
  ·have qb1:(b == nm)=false:=by simp [hbnm]
   have qb2:(b != nm)=true:=by simp [hbnm]
   have HD:=Z (show letsB 5 nm 0 b=false by simp [letsB, *] <;> omega)
   go_enter Tryz.func114,Tryz.ntmps114
   go_wp2
   go_ret
   exact⟨by rw [HD.out];rfl,(Below.refl _ _).alloc (Nat.le_refl _) _⟩
set_option maxRecDepth 100000 in
set_option maxHeartbeats 2000000 in
theorem lets6 {nm a b:Int} (a0:0≤a) (b0:0≤b):LetsC 6 nm a b:=by
 intro sx sy E w
 rcases Int.lt_or_eq_of_le a0 with ha|rfl
 ·have ra:decide (0<a)=true:=by simpa using ha
  have ra1:(a == 0)=false:=by simp;omega
  have ra2:¬a=0:=by omega
  by_cases hanm:a=nm
  ·have qa1:(a == nm)=true:=by simp [hanm]
   have qa2:(a != nm)=false:=by simp [hanm]
   rcases Int.lt_or_eq_of_le b0 with hb|rfl
   ·have rb:decide (0<b)=true:=by simpa using hb
    have rb1:(b == 0)=false:=by simp;omega
    have rb2:¬b=0:=by omega
    have HD:=Z (show letsB 6 nm a b=false by simp [letsB, *] <;> omega)
    go_enter Tryz.func114,Tryz.ntmps114
    go_wp2
    go_ret
    exact⟨by rw [HD.out];rfl,(Below.refl _ _).alloc (Nat.le_refl _) _⟩
   ·skip
    have HD:=Z (show letsB 6 nm a 0=true by simp [letsB, *] <;> omega)
    go_enter Tryz.func114,Tryz.ntmps114
    go_wp2
    go_ret
    exact⟨by rw [HD.out];rfl,(Below.refl _ _).alloc (Nat.le_refl _) _⟩
  ·have qa1:(a == nm)=false:=by simp [hanm]
   have qa2:(a != nm)=true:=by simp [hanm]
   have HD:=Z (show letsB 6 nm a b=false by simp [letsB, *] <;> omega)
   go_enter Tryz.func114,Tryz.ntmps114
   go_wp2
   go_ret
   exact⟨by rw [HD.out];rfl,(Below.refl _ _).alloc (Nat.le_refl _) _⟩
 ·skip
  by_cases hbnm:b=nm
  ·have qb1:(b == nm)=true:=by simp [hbnm]
   have qb2:(b != nm)=false:=by simp [hbnm]
   have HD:=Z (show letsB 6 nm 0 b=true by simp [letsB, *] <;> omega)
   go_enter Tryz.func114,Tryz.ntmps114
   go_wp2
   go_ret
   exact⟨by rw [HD.out];rfl,(Below.refl _ _).alloc (Nat.le_refl _) _⟩
  ·have qb1:(b == nm)=false:=by simp [hbnm]
   have qb2:(b != nm)=true:=by simp [hbnm]
   by_cases hanm:0=nm
   ·have qa1:(0 == nm)=true:=by simp [hanm]
    have qa2:(0 != nm)=false:=by simp [hanm]
    rcases Int.lt_or_eq_of_le b0 with hb|rfl
    ·have rb:decide (0<b)=true:=by simpa using hb
     have rb1:(b == 0)=false:=by simp;omega
     have rb2:¬b=0:=by omega
     have HD:=Z (show letsB 6 nm 0 b=false by simp [letsB, *] <;> omega)
     go_enter Tryz.func114,Tryz.ntmps114
     go_wp2
     go_ret
     exact⟨by rw [HD.out];rfl,(Below.refl _ _).alloc (Nat.le_refl _) _⟩
    ·skip
     exact absurd hanm hbnm
   ·have qa1:(0 == nm)=false:=by simp [hanm]
    have qa2:(0 != nm)=true:=by simp [hanm]
    have HD:=Z (show letsB 6 nm 0 b=false by simp [letsB, *] <;> omega)
    go_enter Tryz.func114,Tryz.ntmps114
    go_wp2
    go_ret
    exact⟨by rw [HD.out];rfl,(Below.refl _ _).alloc (Nat.le_refl _) _⟩
set_option maxRecDepth 100000 in
set_option maxHeartbeats 2000000 in
theorem lets_no {kd nm a b:Int} (h:kd<2∨6<kd):LetsC kd nm a b:=by
 intro sx sy E w
 have q2:(kd == 2)=false:=by simp;omega
 have q3:(kd == 3)=false:=by simp;omega
 have q4:(kd == 4)=false:=by simp;omega
 have q5:(kd == 5)=false:=by simp;omega
 have q6:(kd == 6)=false:=by simp;omega
 have HD:=Z (show letsB kd nm a b=false by unfold letsB;rw [if_neg (by omega),if_neg (by omega),if_neg (by omega),if_neg (by omega),if_neg (by omega)])
 clear h
 go_enter Tryz.func114,Tryz.ntmps114
 go_wp2
 go_ret
 exact⟨by rw [HD.out];rfl,(Below.refl _ _).alloc (Nat.le_refl _) _⟩
theorem lets_any {kd nm a b:Int} (a0:0≤a) (a1:a≤1000) (b0:0≤b) (b1:b≤1000):LetsC kd nm a b:=by
 rcases (show kd=2∨kd=3∨kd=4∨kd=5∨kd=6∨(kd<2∨6<kd) by omega) with rfl|rfl|rfl|rfl|rfl|h
 ·exact lets2
 ·exact lets3 a0 a1 b0 b1
 ·exact lets4 a0 b0
 ·exact lets5 a0 b0
 ·exact lets6 a0 b0
 ·exact lets_no h
theorem lets_thru {kd nm a b:Int} (h1:1≤kd) (h6:kd≤6) (hn:kd=5∨kd=6→nm=1∨nm=2) (a0:0≤a) (ha:a<endsZ kd) (b0:0≤b) (hb:b<endsZ kd):letsB kd nm a b=decide (b∈thru kd nm a):=by
 rw [Bool.eq_iff_iff]
 rcases (show kd=1∨kd=2∨kd=3∨kd=4∨kd=5∨kd=6 by omega) with e|e|e|e|e|e <;> (subst e;simp only [endsZ,thru,letsB] at *;simp at *)
 ·omega
 ·omega
 ·split <;> simp <;> omega
 ·split <;> simp <;> omega
 ·split
  ·simp;omega
  ·split <;> simp <;> omega
theorem ix_at {p:Pl} (h:okEnds p) {i:Nat} (hi:i<p.nodes.length) {e:E} (hr:railIn p e.rail=true) {r:Int} (hx:IxIs p.nodes[i].ends e r) :
  r=if nodeAtZ p (endNo e)=i then slAt p (keyE e) else -1:=by
 obtain⟨e0,e1,e2⟩:=key_in hr
 rcases hx with⟨s,hs,rfl,hl⟩|⟨rfl,hn⟩
 ·obtain⟨q1,q2,_⟩:=at_place h hi hs
  rw [hl] at q1 q2
  rw [if_pos q1,q2]
 ·rw [if_neg]
  intro hq
  obtain⟨i',hi',a,ha,h1,h2,h3⟩:=slots_spec h e1
  rw [e2,h2] at hq
  obtain rfl:i'=i:=by omega
  have h4:=endNo_inj (h.1 i' hi' _ (List.getElem_mem ha)).1 e0 h1
  exact hn (h4 ▸ List.getElem_mem ha)
theorem fol_ref {p:Pl} (hV:Vld p) {m n:E} (hm:railIn p m.rail=true) (hn:railIn p n.rail=true) :
  ∃i:Nat,∃hi:i<p.nodes.length,∃a:Nat,a≤3∧nodeAtZ p (endNo (opE m))=i∧slAt p (keyE (opE m))=a∧atN p (flip (keyE m))=p.nodes[i]∧
   ((nodeAtZ p (endNo n)=i∧∃b:Nat,b≤3∧slAt p (keyE n)=b∧folB p (keyE m) (endNo n)=letsB p.nodes[i].kind p.nodes[i].normal a b)∨(nodeAtZ p (endNo n)≠i∧folB p (keyE m) (endNo n)=false)):=by
 obtain⟨_,m1,m2⟩:=key_in hm
 obtain⟨_,n1,n2⟩:=key_in hn
 obtain⟨i,hi,a,ha,h1,h2,h3,h4,h5⟩:=leave_place hV m1 n1
 have hB:=nodeB_parts (List.all_eq_true.1 hV.nodes _ (List.getElem_mem hi))
 have hE3:endsZ p.nodes[i].kind≤4:=by unfold endsZ;(repeat' split) <;> omega
 have hle:=hB.2.2.1
 have hf:folB p (keyE m) (endNo n)=true ↔ ((keyE n:Nat):Int)∈leaveL p (keyE m):=by
  rw [folB_iff,n2];unfold nextL;rw [List.mem_mergeSort]
 refine⟨i,hi,a,by omega,by rw [(op_in hm).2];exact h1,by rw [(op_in hm).1];exact h2,h4, ?_⟩
 by_cases hq:nodeAtZ p (endNo n)=i
 ·refine .inl ⟨hq, ?_⟩
  obtain⟨i',hi',k',hk',r1,r2,r3⟩:=slots_spec hV.ends n1
  have hnl:keyE n<(slotsOf p).length:=by rw [slots_len];exact n1
  have hs2:slAt p (keyE n)=k':=by rw [←slAt_eq hnl];exact r3 hnl
  obtain rfl:i'=i:=by rw [n2,r2] at hq;omega
  refine⟨k',by omega,hs2, ?_⟩
  have hnb:=hB.2.2.2.1
  have hl:=lets_thru (kd:=p.nodes[i'].kind) (nm:=p.nodes[i'].normal) (a:=(a:Int)) (b:=(k':Int)) hB.1 hB.2.1 (fun h6=>by
   unfold normB at hnb
   rcases h6 with h6|h6 <;> (rw [h6] at hnb;simp at hnb;omega)) (by omega) (by omega) (by omega) (by omega)
  rw [hl,Bool.eq_iff_iff,hf,h5,←n2,hs2]
  simp [hq]
 ·refine .inr ⟨hq, ?_⟩
  rw [Bool.eq_false_iff,Ne,hf,h5,←n2]
  exact fun h=>hq h.1
set_option maxRecDepth 100000 in
set_option maxHeartbeats 4000000 in
theorem rFollows_any (A A2:Option Addr) (c c2:Nat) (p:Pl) (m n:E) (w:World) (hP:PlAt w w.heap.size A c A2 c2 p) (hv:Vld p) (hm:railIn p m.rail=true) (hn:railIn p n.rail=true) :
  Calls Tryz.prog 96 #[.agg #[.slice A p.nodes.length c,.slice A2 p.rails.length c2],.agg #[O U m.rail,.bool m.last],.agg #[O U n.rail,.bool n.last]] w fun e w'=>e= .returned (.bool (folB p (keyE m) (endNo n)))∧Below w.heap.size w w':=by
 obtain⟨i,hi,a,ha3,hnd,hsl,hat,hfo⟩:=fol_ref hv hm hn
 have hm0:=(key_in hm).1
 have hm1:m.rail<p.rails.length:=(of_decide_eq_true hm).2
 have HC43:=Z (show ∀w,PlAt w w.heap.size A c A2 c2 p→Calls Tryz.prog 94 #[.agg #[.slice A p.nodes.length c,.slice A2 p.rails.length c2],.agg #[O U m.rail,.bool !m.last]] w fun e w'=>e= .returned (O U (i:Int))∧Below w.heap.size w w' from fun w hP=>by
  have:=at_any A A2 c c2 p (opE m) w hP hm0 hm1
  rw [show atZ p (opE m)=(i:Int) by rw [←hnd];exact (nodeAtZ_end p (opE m) hm0).symm] at this
  exact this)
 obtain⟨bZ,hbZ⟩:∃x,(if nodeAtZ p (endNo n)=i then slAt p (keyE n) else -1)=x:=⟨_,rfl⟩
 have HC53a:=Z (show ∀(AN:Option Addr) (cN:Nat) (w:World),Sl w w.heap.size 2 CE AN p.nodes[i].ends→p.nodes[i].ends.length≤140737488351232→Calls Tryz.prog 112 #[.agg #[O U p.nodes[i].spot.x,O U p.nodes[i].spot.y,O U p.nodes[i].kind,.slice AN p.nodes[i].ends.length cN,O U p.nodes[i].normal],.agg #[O U m.rail,.bool !m.last]] w fun e w'=>e= .returned (O U (a:Int))∧Below w.heap.size w w' from fun AN cN w hS hl=>
  (rindex_any AN p.nodes[i].ends cN p.nodes[i].spot.x p.nodes[i].spot.y p.nodes[i].kind p.nodes[i].normal m.rail (!m.last) w hS hl).mono fun e w' ⟨⟨r,h1,h2⟩,h3⟩=>by
   have h4:=ix_at hv.ends hi (e:=opE m) hm h2
   rw [if_pos hnd,hsl] at h4
   exact⟨by rw [h1,h4],h3⟩)
 have HC53b:=Z (show ∀(AN:Option Addr) (cN:Nat) (w:World),Sl w w.heap.size 2 CE AN p.nodes[i].ends→p.nodes[i].ends.length≤140737488351232→Calls Tryz.prog 112 #[.agg #[O U p.nodes[i].spot.x,O U p.nodes[i].spot.y,O U p.nodes[i].kind,.slice AN p.nodes[i].ends.length cN,O U p.nodes[i].normal],.agg #[O U n.rail,.bool n.last]] w fun e w'=>e= .returned (O U bZ)∧Below w.heap.size w w' from fun AN cN w hS hl=>
  (rindex_any AN p.nodes[i].ends cN p.nodes[i].spot.x p.nodes[i].spot.y p.nodes[i].kind p.nodes[i].normal n.rail n.last w hS hl).mono fun e w' ⟨⟨r,h1,h2⟩,h3⟩=>by
   have h4:=ix_at hv.ends hi (e:=n) hn h2
   rw [hbZ] at h4
   exact⟨by rw [h1,h4],h3⟩)
 have HB:=Z (show (∃b:Nat,b≤3∧bZ=b∧folB p (keyE m) (endNo n)=letsB p.nodes[i].kind p.nodes[i].normal a b)∨(bZ= -1∧folB p (keyE m) (endNo n)=false) by
  rcases hfo with⟨q1,b,q2,q3,q4⟩|⟨q1,q2⟩
  ·exact .inl ⟨b,q2,by rw [←hbZ,if_pos q1,q3],q4⟩
  ·exact .inr ⟨by rw [←hbZ,if_neg q1],q2⟩)
 have H1:=Z (G3st.start m n hP)
 have HI:=Z hi
 obtain⟨fo,hfo2⟩:∃x,folB p (keyE m) (endNo n)=x:=⟨_,rfl⟩
 rw [hfo2] at HB ⊢
 clear hP hv hm hn hnd hsl hat hfo hm0 hm1 hbZ hfo2
 go_enter Tryz.func96,Tryz.ntmps96
 go_upto_region 1 with (fail)
 obtain⟨k0,k1,m0,m1,n0,n1,_,_,hz2⟩:=H1.out
 generalize (((w.alloc (.cells #[.slice A p.nodes.length c,.slice A2 p.rails.length c2] 60)).alloc (.cells #[O U m.rail,.bool m.last] 77)).alloc (.cells #[O U n.rail,.bool n.last] 77))=w4 at *
 have hz1:w.heap.size+1<w4.heap.size:=by omega
 have hz0:w.heap.size<w4.heap.size:=by omega
 go_cut [7] (fun s7 wx=>s7=O U (i:Int)∧G3st w wx w.heap.size A c A2 c2 p m n)
 case first=>
  have hbq:Below w4.heap.size w4 w4.drew:=(Below.refl _ _).drew
  first
   | (go_region_held3 (fun w'=>w'.cell? ⟨w.heap.size,0,none⟩=some (.slice A p.nodes.length c)∧w'.cell? ⟨w.heap.size,1,none⟩=some (.slice A2 p.rails.length c2)∧w'.cell? ⟨w.heap.size+1,0,none⟩=some (O U m.rail)∧w'.cell? ⟨w.heap.size+1,1,none⟩=some (.bool m.last))
     (exact⟨(hbq.cell (p:=⟨w.heap.size,0,none⟩) hz0).trans k0,(hbq.cell (p:=⟨w.heap.size,1,none⟩) hz0).trans k1,(hbq.cell (p:=⟨w.heap.size+1,0,none⟩) hz1).trans m0,(hbq.cell (p:=⟨w.heap.size+1,1,none⟩) hz1).trans m1⟩)
     ((first
      | (go_at_call 111;refine (arrives_any _ _ _).mono ?_;rintro e w5 ⟨rfl,hb5⟩;replace hbq:=hbq.trans (hb5.mono hbq.size))
      | (go_at_call 94;refine (HC43.out _ ((H1.out.pl.below hbq).more hbq.size)).mono ?_;rintro e w6 ⟨rfl,hb6⟩;replace hbq:=hbq.trans (hb6.mono hbq.size)))))
   | fail "held3"
  all_goals
   go_wp2_with fail
   go_meet
   exact⟨rfl,H1.out.next hbq⟩
 case rest=>
 obtain⟨rfl,h5⟩:=hcut
 have H5:=Z h5
 clear h5 H1 k0 k1 m0 m1 n0 n1 hz0 hz1 hz2 HC43
 obtain⟨k0,k1,_,_,_,_,hpl,_,hz2⟩:=H5.out
 have hil:=HI.out
 obtain⟨bN,oN,AN,cN,rfl,hbN,hE,hE1,hE2,z0,z1,z2,z3,z4⟩:=hpl.node hil
 have hnc:=hpl.nc;have hnm:=hpl.nm
 have HE:=Z hE
 have j2:(0:Int)≤(i:Int):=by omega
 have j3:(i:Int)<(p.nodes.length:Int):=by omega
 clear hpl hE
 go_upto_region 3 with (fail)
 have H8:=Z (H5.out.next ((Below.refl _ wc).alloc (Nat.le_refl _) (.cells #[O U p.nodes[i].spot.x,O U p.nodes[i].spot.y,O U p.nodes[i].kind,.slice AN p.nodes[i].ends.length cN,O U p.nodes[i].normal] 131)))
 have hyy:=fun j=>cell_new1G wc #[O U p.nodes[i].spot.x,O U p.nodes[i].spot.y,O U p.nodes[i].kind,.slice AN p.nodes[i].ends.length cN,O U p.nodes[i].normal] 131 j
 have y0:=hyy 0;have y1:=hyy 1;have y2:=hyy 2;have y3:=hyy 3;have y4:=hyy 4
 simp only [List.getElem?_toArray,List.getElem?_cons_zero,List.getElem?_cons_succ] at y0 y1 y2 y3 y4
 have HE8:=Z ((HE.out.below ((Below.refl _ wc).alloc (Nat.le_refl _) (.cells #[O U p.nodes[i].spot.x,O U p.nodes[i].spot.y,O U p.nodes[i].kind,.slice AN p.nodes[i].ends.length cN,O U p.nodes[i].normal] 131))).more (fun _ _ h=>h) (by simp:wc.heap.size≤(wc.alloc (.cells #[O U p.nodes[i].spot.x,O U p.nodes[i].spot.y,O U p.nodes[i].kind,.slice AN p.nodes[i].ends.length cN,O U p.nodes[i].normal] 131)).heap.size))
 have hz8:wc.heap.size<(wc.alloc (.cells #[O U p.nodes[i].spot.x,O U p.nodes[i].spot.y,O U p.nodes[i].kind,.slice AN p.nodes[i].ends.length cN,O U p.nodes[i].normal] 131)).heap.size:=by simp
 clear hyy H5 HE k0 k1 z0 z1 z2 z3 z4 hbN hz2
 have hl8:p.nodes[i].ends.length≤140737488351232:=by omega
 obtain⟨_,_,m0,m1,n0,n1,_,_,hz2⟩:=H8.out
 generalize wc.alloc (.cells #[O U p.nodes[i].spot.x,O U p.nodes[i].spot.y,O U p.nodes[i].kind,.slice AN p.nodes[i].ends.length cN,O U p.nodes[i].normal] 131)=w8 at *
 generalize wc.heap.size=K8 at *
 have hz1:w.heap.size+1<w8.heap.size:=by omega
 go_cut [9,10] (fun s9 s10 wx=>s9=O U (a:Int)∧s10=O U bZ∧Below w8.heap.size w8 wx)
 case first=>
  have hbq:Below w8.heap.size w8 w8.drew:=(Below.refl _ _).drew
  first
   | (go_region_held3 (fun w'=>w'.cell? ⟨K8,0,none⟩=some (O U p.nodes[i].spot.x)∧w'.cell? ⟨K8,1,none⟩=some (O U p.nodes[i].spot.y)∧w'.cell? ⟨K8,2,none⟩=some (O U p.nodes[i].kind)∧w'.cell? ⟨K8,3,none⟩=some (.slice AN p.nodes[i].ends.length cN)∧w'.cell? ⟨K8,4,none⟩=some (O U p.nodes[i].normal)∧w'.cell? ⟨w.heap.size+1,0,none⟩=some (O U m.rail)∧w'.cell? ⟨w.heap.size+1,1,none⟩=some (.bool m.last)∧w'.cell? ⟨w.heap.size+1+1,0,none⟩=some (O U n.rail)∧w'.cell? ⟨w.heap.size+1+1,1,none⟩=some (.bool n.last))
     (exact⟨(hbq.cell (p:=⟨K8,0,none⟩) hz8).trans y0,(hbq.cell (p:=⟨K8,1,none⟩) hz8).trans y1,(hbq.cell (p:=⟨K8,2,none⟩) hz8).trans y2,(hbq.cell (p:=⟨K8,3,none⟩) hz8).trans y3,(hbq.cell (p:=⟨K8,4,none⟩) hz8).trans y4,(hbq.cell (p:=⟨w.heap.size+1,0,none⟩) hz1).trans m0,(hbq.cell (p:=⟨w.heap.size+1,1,none⟩) hz1).trans m1,(hbq.cell (p:=⟨w.heap.size+1+1,0,none⟩) hz2).trans n0,(hbq.cell (p:=⟨w.heap.size+1+1,1,none⟩) hz2).trans n1⟩)
     ((first
      | (go_at_call 111;refine (arrives_any _ _ _).mono ?_;rintro e w5 ⟨rfl,hb5⟩;replace hbq:=hbq.trans (hb5.mono hbq.size))
      | (go_at_call 113;refine (leaves_any _ _ _).mono ?_;rintro e w5 ⟨rfl,hb5⟩;replace hbq:=hbq.trans (hb5.mono hbq.size))
      | (go_at_call 112;have hS8:=(HE8.out.below hbq).more (fun _ _ h=>h) hbq.size;(with_reducible refine (HC53a.out _ _ _ hS8 hl8).mono ?_);rintro e w6 ⟨rfl,hb6⟩;replace hbq:=hbq.trans (hb6.mono hbq.size))
      | (go_at_call 112;have hS8:=(HE8.out.below hbq).more (fun _ _ h=>h) hbq.size;(with_reducible refine (HC53b.out _ _ _ hS8 hl8).mono ?_);rintro e w6 ⟨rfl,hb6⟩;replace hbq:=hbq.trans (hb6.mono hbq.size)))))
   | fail "held3"
  all_goals
   go_wp2_with fail
   go_meet
   exact⟨rfl,rfl,hbq⟩
 case rest=>
 obtain⟨rfl,rfl,hbq⟩:=hcut
 have v0:=(hbq.cell (p:=⟨K8,0,none⟩) hz8).trans y0
 have v1:=(hbq.cell (p:=⟨K8,1,none⟩) hz8).trans y1
 have v2:=(hbq.cell (p:=⟨K8,2,none⟩) hz8).trans y2
 have v3:=(hbq.cell (p:=⟨K8,3,none⟩) hz8).trans y3
 have v4:=(hbq.cell (p:=⟨K8,4,none⟩) hz8).trans y4
 have HBE:=Z (H8.out.be.trans (hbq.mono H8.out.be.size))
 clear y0 y1 y2 y3 y4 hbq m0 m1 n0 n1 HC53a HC53b HE8
 have d0:decide (0≤(a:Int))=true:=by simp
 have d1:(0:Int)≤(a:Int):=by omega
 rcases HB.out with⟨b,hb3,rfl,hfo⟩|⟨rfl,rfl⟩
 ·have HF:=Z hfo
  have d2:decide (0≤(b:Int))=true:=by simp
  have d3:(0:Int)≤(b:Int):=by omega
  clear hfo
  go_wp2_with fail
  refine (lets_any (kd:=p.nodes[i].kind) (nm:=p.nodes[i].normal) (a:=(a:Int)) (b:=(b:Int)) (by omega) (by omega) (by omega) (by omega) _ _ _ _).mono ?_
  rintro e w9 ⟨rfl,hb9⟩
  rw [←HF.out]
  have HB9:=Z (HBE.out.trans (hb9.mono HBE.out.size))
  clear hb9
  go_wp2
  go_ret
  exact⟨rfl,HB9.out⟩
 ·go_wp2
  go_ret
  exact⟨rfl,HBE.out⟩
end Go.Proofs.YtfhkbbjddjddmaaGreat
