/- Texts M40 M41 M42. -/
import Derived.Test.YtfhkbbjddjddmaaGreatMi
import Derived.Test.YtfhkbbjddjddmaaGreatMf
set_option linter.unusedVariables false
set_option linter.unusedSimpArgs false
open Go.Value renaming int→O
open Go.IntKind renaming i64→U
open Go.Lib renaming hid→Z
namespace Go.Proofs.YtfhkbbjddjddmaaGreat
open Go.RowKit
def exTr:Tr:=⟨1000,5000,10000,2000,1000,1000000,0,0,50, [1000,10]⟩
def exP:Pl:=⟨[⟨⟨0,0⟩,1, [⟨0,false⟩],0⟩,⟨⟨100000,0⟩,1, [⟨0,true⟩],0⟩], [⟨0,1, [],8000,0⟩]⟩
theorem ex_sizes:sizesB exP=true:=by decide
theorem ex_nodes:exP.nodes.all nodeB=true:=by decide
theorem ex_rails:railsB exP=true:=by decide +kernel
theorem ex_lens:lensOf exP= [100000]:=by decide +kernel
theorem ex_ends:okEnds exP:=by
 refine⟨fun i hi e he=> ?_, ?_,rfl⟩
 ·have hi':i<2:=hi
  rcases (show i=0∨i=1 by omega) with rfl|rfl <;> simp [exP] at he <;> subst he <;> exact⟨by decide,by decide,by decide⟩
 ·simp [flatE,exP]
theorem ex_valid:Vld exP:=⟨ex_sizes,ex_nodes,ex_rails,ex_ends⟩
theorem ex_step1:mkE exTr 0 0 4 0 0=0∧stX exTr 0 0 4 0 0=#[O U 200000,O U 200000]∧stL exTr 0 0 4 0 0=#[O U 80000000000,O U 0,O U 0,O U 0,O U 40000000000,O U 0]:=⟨by kernel_rfl,by kernel_rfl,by kernel_rfl⟩
theorem ex_step2:mkE exTr 1000000 0 0 100 0=0∧stX exTr 1000000 0 0 100 0=#[O U 901900,O U 901900]:=⟨by kernel_rfl,by kernel_rfl⟩
theorem ex_brk:brkE exTr 1000000 0 0 0=0∧brkR exTr 1000000 0 0 0=450:=⟨by kernel_rfl,by kernel_rfl⟩
theorem ex_q (m:Int):mkQ exTr m (-4) 0 0=max 0 (m - 100000):=by
 have h:dragZ exTr (m / exTr.mass)=0:=by show (0:Int)+0 * _ / 1000=0;simp
 unfold mkQ nextZ afterZ Fs.sum sumZ fsZ
 simp only [h]
 show max 0 (m+100 * (0 - 1000 - 0 - 0))=_
 omega
theorem ex_grow:∀(n:Nat) (m y z:Int),brakeW exTr 0 0 n m y=some z→y≤z:=by
 intro n
 induction n with
 | zero=>
  intro m y z h
  unfold brakeW at h
  split at h
  ·cases h;exact Int.le_refl _
  ·cases h
 | succ n ih=>
  intro m y z h
  rw [brakeW] at h
  split at h
  ·cases h;exact Int.le_refl _
  ·split at h
   ·have:=ih _ _ _ h
    have hq:=ex_q m
    omega
   ·cases h
theorem ex_mono:∀(n:Nat) (m m' y y' z:Int),m≤m'→m'≤25000000→y≤y'→brakeW exTr 0 0 n m' y'=some z→∃z',brakeW exTr 0 0 n m y=some z'∧z'≤z:=by
 intro n
 induction n with
 | zero=>
  intro m m' y y' z hm _ hy h
  by_cases h0:m≤0
  ·exact⟨y,brakeW_stop 0 h0,Int.le_trans hy (ex_grow _ _ _ _ h)⟩
  ·rw [brakeW_zero (by omega)] at h;cases h
 | succ n ih=>
  intro m m' y y' z hm hb hy h
  by_cases h0:m≤0
  ·exact⟨y,brakeW_stop _ h0,Int.le_trans hy (ex_grow _ _ _ _ h)⟩
  ·have hq:=ex_q m;have hq':=ex_q m'
   have h5:25000 * exTr.mass=25000000:=rfl
   rw [brakeW_step rfl (by omega) (by rw [hq',h5];omega)] at h
   rw [brakeW_step rfl h0 (by rw [hq,h5];omega)]
   exact ih _ _ _ _ _ (by rw [hq,hq'];omega) (by rw [hq'];omega) (by rw [hq,hq'];omega) h
theorem ex_1000:brakeW exTr 0 0 36000 1000000 0=some 4500000:=by kernel_rfl
theorem ex_999:sightOk exTr 0 0 449 999=true:=by kernel_rfl
theorem ex_no {v:Nat} (h:1000≤v) (h2:v≤25000):sightOk exTr 0 0 449 v=false:=by
 cases ho:sightOk exTr 0 0 449 v with
 | false=>rfl
 | true=>
  unfold sightOk at ho
  rw [Bool.and_eq_true,Option.isSome_iff_exists] at ho
  obtain⟨⟨z,hz⟩,hd⟩:=ho
  have hd':=of_decide_eq_true hd
  rw [hz] at hd'
  have hm:exTr.mass=1000:=rfl
  obtain⟨z',h1,h3⟩:=ex_mono 36000 1000000 ((v:Int) * exTr.mass) 0 0 z (by rw [hm];omega) (by rw [hm];omega) (Int.le_refl _) hz
  rw [ex_1000] at h1
  cases h1
  replace hd':z / (10 * exTr.mass) - 0 / (10 * exTr.mass)≤449:=hd'
  rw [hm] at hd'
  omega
theorem ex_dn:∀k:Nat,999+k≤25000→sightDn exTr 0 0 449 (999+k)=999:=by
 intro k
 induction k with
 | zero=>intro _;show (if sightOk exTr 0 0 449 999=true then _ else _)=_;rw [if_pos ex_999];rfl
 | succ k ih=>
  intro h
  show sightDn exTr 0 0 449 (999+k+1)=999
  rw [sightDn,ex_no (by omega) (by omega),if_neg (by simp)]
  exact ih (by omega)
theorem ex_sgt:sgtE exTr 0 0 449=0∧sgtR exTr 0 0 449=999:=by
 refine⟨by kernel_rfl, ?_⟩
 have hb:sgtB exTr 0 0 449=true:=by kernel_rfl
 unfold sgtR
 rw [if_pos hb]
 exact ex_dn 9001 (by omega)
theorem ex_bord:bord 5000 (begTo exP [⟨0,false⟩] 1)= [0,1,5000,100000,100001,105000]:=by
 have h:begTo exP [⟨0,false⟩] 1= [0,100000]:=by
  unfold begTo
  simp only [List.range_succ_eq_map,List.range_zero,List.map_cons,List.map_nil,begAt_zero,begAt,wlen,lenAt,ex_lens]
  rfl
 rw [h]
 rfl
theorem ex_beg:begTo exP [⟨0,false⟩] 1= [0,100000]:=by
 unfold begTo
 simp only [List.range_succ_eq_map,List.range_zero,List.map_cons,List.map_nil,begAt_zero,begAt,wlen,lenAt,ex_lens]
 rfl
theorem ex_zones:zonesZ exP [⟨0,false⟩] exTr 7000= [⟨0,0,10000⟩,⟨1,0,8000⟩,⟨5000,0,8000⟩]:=by
 unfold zonesZ bordS
 show znsGo exP _ (begTo exP [⟨0,false⟩] 1) 5000 7000 10000 (Lib.compact ((bord 5000 (begTo exP [⟨0,false⟩] 1)).mergeSort _)) 0 0 []=_
 rw [ex_bord,ex_beg,List.mergeSort_of_pairwise (by simp)]
 kernel_rfl
theorem ex_legs:legsZ exTr 9810 [⟨0,0,10000⟩,⟨1,0,8000⟩,⟨5000,0,8000⟩] [5000,7000]=some [⟨2500,7000,⟨2880000000000,2405000000000,0,0,475000000000,0⟩,3200,725⟩]:=by kernel_rfl
theorem ex_drv:drvZ exP [⟨0,false⟩] exTr 0 [5000,7000]=some [⟨2500,7000,⟨2880000000000,2405000000000,0,0,475000000000,0⟩,3200,725⟩]:=by
 unfold drvZ
 show legsZ exTr 9810 (zonesZ exP [⟨0,false⟩] exTr 7000) [5000,7000]=_
 rw [ex_zones,ex_legs]
theorem ex_ok:DrOk exP [⟨0,false⟩] exTr 0 [5000,7000]:=by
 have hw:wlen exP ([(⟨0,false⟩:E)].map endNo)=100000:=by
  simp only [List.map_cons,List.map_nil,wlen,lenAt,ex_lens];rfl
 refine⟨ex_valid,⟨by decide,by decide,fun j hj=> ?_⟩,by decide,by decide,by rw [hw];decide⟩
 have hj0:j=0:=by have:j<1:=hj;omega
 subst hj0
 exact⟨by decide,fun h=>absurd h (by omega)⟩
open Go.RowKit Go.Shelf Go.Lib Go.BigFrame
theorem Sl.blk {α : Type} {C: α→List Value→Prop} {w:World} {B b size:Nat} {arr:Array Value} {t:TypeId} {l:List α} (h:w.heap[b]? = some (.cells arr t)) (hb:b<B)
  (hc:∀i x,l[i]? = some x→∃cs,C x cs∧∀j u,cs[j]? = some u→arr[i * size+j]? = some u):Sl w B size C (some ⟨b,0,none⟩) l:=fun _=>
 ⟨b,0,rfl,hb,fun i x hx=>by
  obtain⟨cs,h1,h2⟩:=hc i x hx
  exact⟨cs,h1,fun j u hu=>by rw [cell_of_row _ _ _ _ _ _ h,Nat.zero_add];exact h2 j u hu⟩⟩
theorem allocs_get:∀(os:List Obj) (w:World) (j:Nat) (o:Obj),os[j]? = some o→(os.foldl World.alloc w).heap[w.heap.size+j]? = some o∧w.heap.size+os.length=(os.foldl World.alloc w).heap.size
 | [],w,j,o,h=>by simp at h
 | p :: os,w,0,o,h=>by
  obtain rfl:p=o:=by simpa using h
  have key:∀(os:List Obj) (w:World) (k:Nat),k<w.heap.size→(os.foldl World.alloc w).heap[k]? = w.heap[k]?∧(os.foldl World.alloc w).heap.size=w.heap.size+os.length:=fun os=>by
   induction os with
   | nil=>intro w k hk;exact⟨rfl,rfl⟩
   | cons q os ih=>
    intro w k hk
    obtain⟨h1,h2⟩:=ih (w.alloc q) k (by simp;omega)
    exact⟨h1.trans (Below.heap_alloc w q k hk),by rw [List.foldl_cons,h2];simp;omega⟩
  obtain⟨h1,h2⟩:=key os (w.alloc p) w.heap.size (by simp)
  exact⟨h1.trans (heap_alloc_new w p),by rw [List.foldl_cons,h2];simp;omega⟩
 | p :: os,w,j+1,o,h=>by
  obtain⟨h1,h2⟩:=allocs_get os (w.alloc p) j o (by simpa using h)
  rw [show (w.alloc p).heap.size=w.heap.size+1 by simp] at h1 h2
  exact⟨by rw [show w.heap.size+(j+1)=w.heap.size+1+j by omega];exact h1,by rw [List.foldl_cons,←h2];simp;omega⟩
def exO (N:Nat):List Obj:= [.cells #[O U 0,O U 0,O U 0,O U 0,O U 0,O U 0,O U 0,O U 0,O U 0,.slice none 0 0] 24,.cells #[.slice none 0 0,.slice none 0 0] 60,.cells #[O U 1000,O U 10] 3,.cells #[O U 1000,O U 5000,O U 10000,O U 2000,O U 1000,O U 1000000,O U 0,O U 0,O U 50,.slice (some ⟨N+1+1,0,none⟩) 2 2] 24,
 .cells #[O U 0,.bool false] 126,.cells #[O U 0,.bool true] 126,
 .cells #[O U 0,O U 0,O U 1,.slice (some ⟨N+1+1+1+1,0,none⟩) 1 1,O U 0,O U 100000,O U 0,O U 1,.slice (some ⟨N+1+1+1+1+1,0,none⟩) 1 1,O U 0] 131,
 .cells #[O U 0,O U 1,.slice none 0 0,O U 8000,O U 0] 75,.cells #[.slice (some ⟨N+1+1+1+1+1+1,0,none⟩) 2 2,.slice (some ⟨N+1+1+1+1+1+1+1,0,none⟩) 1 1] 60]
theorem exO_plan (W:World) (N:Nat) (hz:N+9≤W.heap.size) (h4:W.heap[N+4]? = some (.cells #[O U 0,.bool false] 126)) (h5:W.heap[N+5]? = some (.cells #[O U 0,.bool true] 126)) (h6:W.heap[N+6]? = some (.cells #[O U 0,O U 0,O U 1,.slice (some ⟨N+1+1+1+1,0,none⟩) 1 1,O U 0,O U 100000,O U 0,O U 1,.slice (some ⟨N+1+1+1+1+1,0,none⟩) 1 1,O U 0] 131))
  (h7:W.heap[N+7]? = some (.cells #[O U 0,O U 1,.slice none 0 0,O U 8000,O U 0] 75)):PlAt W W.heap.size (some ⟨N+1+1+1+1+1+1,0,none⟩) 2 (some ⟨N+1+1+1+1+1+1+1,0,none⟩) 1 exP:=by
 have e1:Sl W W.heap.size 2 CE (some ⟨N+1+1+1+1,0,none⟩) [⟨0,false⟩]:=Sl.blk h4 (by omega) fun i x hx=>by
  rcases i with _|i
  ·obtain rfl:_=x:=by simpa using hx
   exact⟨_,rfl,fun j u hu=>by rcases j with _|_|j <;> simp_all⟩
  ·simp at hx
 have e2:Sl W W.heap.size 2 CE (some ⟨N+1+1+1+1+1,0,none⟩) [⟨0,true⟩]:=Sl.blk h5 (by omega) fun i x hx=>by
  rcases i with _|i
  ·obtain rfl:_=x:=by simpa using hx
   exact⟨_,rfl,fun j u hu=>by rcases j with _|_|j <;> simp_all⟩
  ·simp at hx
 refine⟨Sl.blk h6 (by omega) fun i x hx=> ?_,by decide,by omega,Sl.blk h7 (by omega) fun i x hx=> ?_,by decide,by omega⟩
 ·rcases i with _|_|i
  ·obtain rfl:_=x:=by simpa [exP] using hx
   exact⟨_,⟨_,1,rfl,e1,by simp,by omega⟩,fun j u hu=>by rcases j with _|_|_|_|_|j <;> simp_all⟩
  ·obtain rfl:_=x:=by simpa [exP] using hx
   exact⟨_,⟨_,1,rfl,e2,by simp,by omega⟩,fun j u hu=>by rcases j with _|_|_|_|_|j <;> simp_all⟩
  ·simp [exP] at hx
 ·rcases i with _|i
  ·obtain rfl:_=x:=by simpa [exP] using hx
   exact⟨_,⟨none,0,rfl,Sl.nil,by simp,by omega⟩,fun j u hu=>by rcases j with _|_|_|_|_|j <;> simp_all⟩
  ·simp [exP] at hx
theorem exO_train (W:World) (N:Nat) (hz:N+9≤W.heap.size) (h2:W.heap[N+2]? = some (.cells #[O U 1000,O U 10] 3)):Sl W W.heap.size 1 CI (some ⟨N+1+1,0,none⟩) exTr.grip:=by
 exact Sl.blk h2 (by omega) fun i x hx=>by
  rcases i with _|_|i
  ·obtain rfl:_=x:=by simpa [exTr] using hx
   exact⟨_,rfl,fun j u hu=>by rcases j with _|j <;> simp_all⟩
  ·obtain rfl:_=x:=by simpa [exTr] using hx
   exact⟨_,rfl,fun j u hu=>by rcases j with _|j <;> simp_all⟩
  ·simp [exTr] at hx
theorem exO_below (w:World):Below w.heap.size w ((exO w.heap.size).foldl World.alloc w):=by
 simp only [exO,List.foldl_cons,List.foldl_nil]
 exact (((((((((Below.refl _ w).alloc (Nat.le_refl _) _).alloc (by simp) _).alloc (by simp;omega) _).alloc (by simp;omega) _).alloc (by simp;omega) _).alloc (by simp;omega) _).alloc (by simp;omega) _).alloc (by simp;omega) _).alloc (by simp;omega) _
def ExPost (w:World) (e:Ending) (w':World):Prop:=
 (∃(Ag A A2:Option Addr),e= .returned (.tuple #[.agg #[O U 1000,O U 5000,O U 10000,O U 2000,O U 1000,O U 1000000,O U 0,O U 0,O U 50,.slice Ag 2 2],.agg #[.slice A 2 2,.slice A2 1 1]])∧PlAt w' w'.heap.size A 2 A2 1 exP∧Sl w' w'.heap.size 1 CI Ag exTr.grip)∧Below w.heap.size w w'
set_option maxRecDepth 100000 in
set_option maxHeartbeats 4000000 in
theorem Example_any (w:World):Calls Tryz.prog 38 #[] w (ExPost w):=by
 have g:=fun j o h=>allocs_get (exO w.heap.size) w j o h
 have hwz:w.heap.size+9=((exO w.heap.size).foldl World.alloc w).heap.size:=(g 0 _ rfl).2
 have h0:=(g 0 _ rfl).1;have h1:=(g 1 _ rfl).1;have h2:=(g 2 _ rfl).1;have h3:=(g 3 _ rfl).1;have h4:=(g 4 _ rfl).1;have h5:=(g 5 _ rfl).1;have h6:=(g 6 _ rfl).1;have h7:=(g 7 _ rfl).1;have h8:=(g 8 _ rfl).1
 have hb:=exO_below w
 obtain⟨W2,hW2⟩:∃z,(exO w.heap.size).foldl World.alloc w=z:=⟨_,rfl⟩
 have hww:(((((((((w.alloc (.cells #[O U 0,O U 0,O U 0,O U 0,O U 0,O U 0,O U 0,O U 0,O U 0,.slice none 0 0] 24)).alloc (.cells #[.slice none 0 0,.slice none 0 0] 60)).alloc (.cells #[O U 1000,O U 10] 3)).alloc (.cells #[O U 1000,O U 5000,O U 10000,O U 2000,O U 1000,O U 1000000,O U 0,O U 0,O U 50,.slice (some ⟨w.heap.size+1+1,0,none⟩) 2 2] 24)).alloc (.cells #[O U 0,.bool false] 126)).alloc (.cells #[O U 0,.bool true] 126)).alloc (.cells #[O U 0,O U 0,O U 1,.slice (some ⟨w.heap.size+1+1+1+1,0,none⟩) 1 1,O U 0,O U 100000,O U 0,O U 1,.slice (some ⟨w.heap.size+1+1+1+1+1,0,none⟩) 1 1,O U 0] 131)).alloc (.cells #[O U 0,O U 1,.slice none 0 0,O U 8000,O U 0] 75)).alloc (.cells #[.slice (some ⟨w.heap.size+1+1+1+1+1+1,0,none⟩) 2 2,.slice (some ⟨w.heap.size+1+1+1+1+1+1+1,0,none⟩) 1 1] 60))=W2:=hW2
 rw [hW2] at hwz h0 h1 h2 h3 h4 h5 h6 h7 h8 hb
 have HR:=Z (show Rw W2 (w.heap.size+2) 3 #[O U 1000,O U 10]∧Rw W2 (w.heap.size+3) 24 #[O U 1000,O U 5000,O U 10000,O U 2000,O U 1000,O U 1000000,O U 0,O U 0,O U 50,.slice (some ⟨w.heap.size+1+1,0,none⟩) 2 2]∧Rw W2 (w.heap.size+4) 126 #[O U 0,.bool false]∧Rw W2 (w.heap.size+5) 126 #[O U 0,.bool true]∧Rw W2 (w.heap.size+6) 131 #[O U 0,O U 0,O U 1,.slice (some ⟨w.heap.size+1+1+1+1,0,none⟩) 1 1,O U 0,O U 100000,O U 0,O U 1,.slice (some ⟨w.heap.size+1+1+1+1+1,0,none⟩) 1 1,O U 0]∧Rw W2 (w.heap.size+7) 75 #[O U 0,O U 1,.slice none 0 0,O U 8000,O U 0]∧Rw W2 (w.heap.size+8) 60 #[.slice (some ⟨w.heap.size+1+1+1+1+1+1,0,none⟩) 2 2,.slice (some ⟨w.heap.size+1+1+1+1+1+1+1,0,none⟩) 1 1] from⟨h2,h3,h4,h5,h6,h7,h8⟩)
 have H01:=Z (show Rw W2 w.heap.size 24 #[O U 0,O U 0,O U 0,O U 0,O U 0,O U 0,O U 0,O U 0,O U 0,.slice none 0 0]∧Rw W2 (w.heap.size+1) 60 #[.slice none 0 0,.slice none 0 0] from⟨h0,h1⟩)
 have HB:=Z hb;have HWZ:=Z hwz;have HWW:=Z hww
 clear hwz hww hW2 h0 h1 h2 h3 h4 h5 h6 h7 h8 hb g
 go_enter Tryz.func38,Tryz.ntmps38
 go_upto_region 3 with (fail)
 rw [HWW.out]
 have h24:Rw W2.drew w.heap.size 24 #[O U 0,O U 0,O U 0,O U 0,O U 0,O U 0,O U 0,O U 0,O U 0,.slice none 0 0]:=H01.out.1
 have h60:Rw W2.drew (w.heap.size+1) 60 #[.slice none 0 0,.slice none 0 0]:=H01.out.2
 have hall:Rw W2.drew (w.heap.size+2) 3 #[O U 1000,O U 10]∧Rw W2.drew (w.heap.size+3) 24 #[O U 1000,O U 5000,O U 10000,O U 2000,O U 1000,O U 1000000,O U 0,O U 0,O U 50,.slice (some ⟨w.heap.size+1+1,0,none⟩) 2 2]∧Rw W2.drew (w.heap.size+4) 126 #[O U 0,.bool false]∧Rw W2.drew (w.heap.size+5) 126 #[O U 0,.bool true]∧Rw W2.drew (w.heap.size+6) 131 #[O U 0,O U 0,O U 1,.slice (some ⟨w.heap.size+1+1+1+1,0,none⟩) 1 1,O U 0,O U 100000,O U 0,O U 1,.slice (some ⟨w.heap.size+1+1+1+1+1,0,none⟩) 1 1,O U 0]∧Rw W2.drew (w.heap.size+7) 75 #[O U 0,O U 1,.slice none 0 0,O U 8000,O U 0]∧Rw W2.drew (w.heap.size+8) 60 #[.slice (some ⟨w.heap.size+1+1+1+1+1+1,0,none⟩) 2 2,.slice (some ⟨w.heap.size+1+1+1+1+1+1+1,0,none⟩) 1 1]:=HR.out
 have hbd:=HB.out.drew
 have HS:=Z (show Rw W2.drew (w.heap.size+3) 24 #[O U 1000,O U 5000,O U 10000,O U 2000,O U 1000,O U 1000000,O U 0,O U 0,O U 50,.slice (some ⟨w.heap.size+1+1,0,none⟩) 2 2]∧Rw W2.drew (w.heap.size+8) 60 #[.slice (some ⟨w.heap.size+1+1+1+1+1+1,0,none⟩) 2 2,.slice (some ⟨w.heap.size+1+1+1+1+1+1+1,0,none⟩) 1 1] from⟨HR.out.2.1,HR.out.2.2.2.2.2.2⟩)
 have hsz:w.heap.size+9≤W2.drew.heap.size:=Nat.le_of_eq HWZ.out
 refine wp_region_held_drew (S:=fun wx=>Rw wx (w.heap.size+3) 24 #[O U 1000,O U 5000,O U 10000,O U 2000,O U 1000,O U 1000000,O U 0,O U 0,O U 50,.slice (some ⟨w.heap.size+1+1,0,none⟩) 2 2]∧Rw wx (w.heap.size+8) 60 #[.slice (some ⟨w.heap.size+1+1+1+1+1+1,0,none⟩) 2 2,.slice (some ⟨w.heap.size+1+1+1+1+1+1+1,0,none⟩) 1 1]) (by kernel_rfl) HS.out (fun _=> ?_)
 obtain⟨wd,hwd⟩:∃z,W2.drew=z:=⟨_,rfl⟩
 rw [hwd] at h24 h60 hall hbd HS hsz ⊢
 clear hwd
 refine hTk (i:=0) (d:=17) (v:= .agg #[O U 1000,O U 5000,O U 10000,O U 2000,O U 1000,O U 1000000,O U 0,O U 0,O U 50,.slice (some ⟨w.heap.size+1+1,0,none⟩) 2 2]) rfl rfl (Or.inl ⟨rfl,by rintro W' ⟨s0,s1⟩;have y0:=s0.cell 0;have y1:=s0.cell 1;have y2:=s0.cell 2;have y3:=s0.cell 3;have y4:=s0.cell 4;have y5:=s0.cell 5;have y6:=s0.cell 6;have y7:=s0.cell 7;have y8:=s0.cell 8;have y9:=s0.cell 9;have z0:=s1.cell 0;have z1:=s1.cell 1;go_simp⟩) HS.out ?_
 simp only [Act.put,sB,sZ,sS]
 refine hTk (i:=1) (d:=18) (v:= .agg #[.slice (some ⟨w.heap.size+1+1+1+1+1+1,0,none⟩) 2 2,.slice (some ⟨w.heap.size+1+1+1+1+1+1+1,0,none⟩) 1 1]) rfl rfl (Or.inl ⟨rfl,by rintro W' ⟨s0,s1⟩;have y0:=s0.cell 0;have y1:=s0.cell 1;have y2:=s0.cell 2;have y3:=s0.cell 3;have y4:=s0.cell 4;have y5:=s0.cell 5;have y6:=s0.cell 6;have y7:=s0.cell 7;have y8:=s0.cell 8;have y9:=s0.cell 9;have z0:=s1.cell 0;have z1:=s1.cell 1;go_simp⟩) HS.out ?_
 simp only [Act.put,sB,sZ,sS]
 refine wpAnyH_ready (rs:= [2]) (by kernel_rfl) (by simp) ?_
 refine AllReadyH.cons rfl (fun K hK=> ?_) AllReadyH.nil
 rw [if_pos (by rfl)]
 refine wp_store_row 24 _ _ rfl w.heap.size rfl #[O U 1000,O U 5000,O U 10000,O U 2000,O U 1000,O U 1000000,O U 0,O U 0,O U 50,.slice (some ⟨w.heap.size+1+1,0,none⟩) 2 2] rfl 24 _ h24 (by kernel_rfl) rfl (by simp [Value.oneCell']) ?_
 have r1:=h24.setRow #[O U 1000,O U 5000,O U 10000,O U 2000,O U 1000,O U 1000000,O U 0,O U 0,O U 50,.slice (some ⟨w.heap.size+1+1,0,none⟩) 2 2]
 have r2:=h60.setRow_far (k:=w.heap.size) #[O U 1000,O U 5000,O U 10000,O U 2000,O U 1000,O U 1000000,O U 0,O U 0,O U 50,.slice (some ⟨w.heap.size+1+1,0,none⟩) 2 2] (by omega)
 have hbe:=below_setRow hbd (Nat.le_refl w.heap.size) #[O U 1000,O U 5000,O U 10000,O U 2000,O U 1000,O U 1000000,O U 0,O U 0,O U 50,.slice (some ⟨w.heap.size+1+1,0,none⟩) 2 2]
 obtain⟨wa,hwa⟩:∃z,wd.setRow w.heap.size #[O U 1000,O U 5000,O U 10000,O U 2000,O U 1000,O U 1000000,O U 0,O U 0,O U 50,.slice (some ⟨w.heap.size+1+1,0,none⟩) 2 2]=z:=⟨_,rfl⟩
 have hall2:Rw wa (w.heap.size+2) 3 #[O U 1000,O U 10]∧Rw wa (w.heap.size+3) 24 #[O U 1000,O U 5000,O U 10000,O U 2000,O U 1000,O U 1000000,O U 0,O U 0,O U 50,.slice (some ⟨w.heap.size+1+1,0,none⟩) 2 2]∧Rw wa (w.heap.size+4) 126 #[O U 0,.bool false]∧Rw wa (w.heap.size+5) 126 #[O U 0,.bool true]∧Rw wa (w.heap.size+6) 131 #[O U 0,O U 0,O U 1,.slice (some ⟨w.heap.size+1+1+1+1,0,none⟩) 1 1,O U 0,O U 100000,O U 0,O U 1,.slice (some ⟨w.heap.size+1+1+1+1+1,0,none⟩) 1 1,O U 0]∧Rw wa (w.heap.size+7) 75 #[O U 0,O U 1,.slice none 0 0,O U 8000,O U 0]∧Rw wa (w.heap.size+8) 60 #[.slice (some ⟨w.heap.size+1+1+1+1+1+1,0,none⟩) 2 2,.slice (some ⟨w.heap.size+1+1+1+1+1+1+1,0,none⟩) 1 1]:=by rw [←hwa];exact⟨(hall.1).setRow_far (k:=w.heap.size) #[O U 1000,O U 5000,O U 10000,O U 2000,O U 1000,O U 1000000,O U 0,O U 0,O U 50,.slice (some ⟨w.heap.size+1+1,0,none⟩) 2 2] (by omega),(hall.2.1).setRow_far (k:=w.heap.size) #[O U 1000,O U 5000,O U 10000,O U 2000,O U 1000,O U 1000000,O U 0,O U 0,O U 50,.slice (some ⟨w.heap.size+1+1,0,none⟩) 2 2] (by omega),(hall.2.2.1).setRow_far (k:=w.heap.size) #[O U 1000,O U 5000,O U 10000,O U 2000,O U 1000,O U 1000000,O U 0,O U 0,O U 50,.slice (some ⟨w.heap.size+1+1,0,none⟩) 2 2] (by omega),(hall.2.2.2.1).setRow_far (k:=w.heap.size) #[O U 1000,O U 5000,O U 10000,O U 2000,O U 1000,O U 1000000,O U 0,O U 0,O U 50,.slice (some ⟨w.heap.size+1+1,0,none⟩) 2 2] (by omega),(hall.2.2.2.2.1).setRow_far (k:=w.heap.size) #[O U 1000,O U 5000,O U 10000,O U 2000,O U 1000,O U 1000000,O U 0,O U 0,O U 50,.slice (some ⟨w.heap.size+1+1,0,none⟩) 2 2] (by omega),(hall.2.2.2.2.2.1).setRow_far (k:=w.heap.size) #[O U 1000,O U 5000,O U 10000,O U 2000,O U 1000,O U 1000000,O U 0,O U 0,O U 50,.slice (some ⟨w.heap.size+1+1,0,none⟩) 2 2] (by omega),(hall.2.2.2.2.2.2).setRow_far (k:=w.heap.size) #[O U 1000,O U 5000,O U 10000,O U 2000,O U 1000,O U 1000000,O U 0,O U 0,O U 50,.slice (some ⟨w.heap.size+1+1,0,none⟩) 2 2] (by omega)⟩
 have hsz2:w.heap.size+9≤wa.heap.size:=by rw [←hwa];have hh:=(below_setRow (Below.refl w.heap.size wd) (Nat.le_refl w.heap.size) #[O U 1000,O U 5000,O U 10000,O U 2000,O U 1000,O U 1000000,O U 0,O U 0,O U 50,.slice (some ⟨w.heap.size+1+1,0,none⟩) 2 2]).size;omega
 rw [hwa] at r1 r2 hbe ⊢
 have HS:=Z (show Rw wa (w.heap.size+3) 24 #[O U 1000,O U 5000,O U 10000,O U 2000,O U 1000,O U 1000000,O U 0,O U 0,O U 50,.slice (some ⟨w.heap.size+1+1,0,none⟩) 2 2]∧Rw wa (w.heap.size+8) 60 #[.slice (some ⟨w.heap.size+1+1+1+1+1+1,0,none⟩) 2 2,.slice (some ⟨w.heap.size+1+1+1+1+1+1+1,0,none⟩) 1 1] from⟨hall2.2.1,hall2.2.2.2.2.2.2⟩)
 refine hK.out _ _ HS.out (fun _=> ?_)
 clear hK K
 try simp only [Act.put,sB,sZ,sS]
 refine wpAnyH_ready (rs:= [3]) (by kernel_rfl) (by simp) ?_
 refine AllReadyH.cons rfl (fun K hK=> ?_) AllReadyH.nil
 rw [if_pos (by rfl)]
 refine wp_store_row 60 _ _ rfl (w.heap.size+1) rfl #[.slice (some ⟨w.heap.size+1+1+1+1+1+1,0,none⟩) 2 2,.slice (some ⟨w.heap.size+1+1+1+1+1+1+1,0,none⟩) 1 1] rfl 60 _ r2 (by kernel_rfl) rfl (by simp [Value.oneCell']) ?_
 have v2:=r2.setRow #[.slice (some ⟨w.heap.size+1+1+1+1+1+1,0,none⟩) 2 2,.slice (some ⟨w.heap.size+1+1+1+1+1+1+1,0,none⟩) 1 1]
 have v1:=r1.setRow_far (k:=w.heap.size+1) #[.slice (some ⟨w.heap.size+1+1+1+1+1+1,0,none⟩) 2 2,.slice (some ⟨w.heap.size+1+1+1+1+1+1+1,0,none⟩) 1 1] (by omega)
 have hbf:=below_setRow hbe (show w.heap.size≤w.heap.size+1 by omega) #[.slice (some ⟨w.heap.size+1+1+1+1+1+1,0,none⟩) 2 2,.slice (some ⟨w.heap.size+1+1+1+1+1+1+1,0,none⟩) 1 1]
 obtain⟨wb,hwb⟩:∃z,wa.setRow (w.heap.size+1) #[.slice (some ⟨w.heap.size+1+1+1+1+1+1,0,none⟩) 2 2,.slice (some ⟨w.heap.size+1+1+1+1+1+1+1,0,none⟩) 1 1]=z:=⟨_,rfl⟩
 have hall3:Rw wb (w.heap.size+2) 3 #[O U 1000,O U 10]∧Rw wb (w.heap.size+3) 24 #[O U 1000,O U 5000,O U 10000,O U 2000,O U 1000,O U 1000000,O U 0,O U 0,O U 50,.slice (some ⟨w.heap.size+1+1,0,none⟩) 2 2]∧Rw wb (w.heap.size+4) 126 #[O U 0,.bool false]∧Rw wb (w.heap.size+5) 126 #[O U 0,.bool true]∧Rw wb (w.heap.size+6) 131 #[O U 0,O U 0,O U 1,.slice (some ⟨w.heap.size+1+1+1+1,0,none⟩) 1 1,O U 0,O U 100000,O U 0,O U 1,.slice (some ⟨w.heap.size+1+1+1+1+1,0,none⟩) 1 1,O U 0]∧Rw wb (w.heap.size+7) 75 #[O U 0,O U 1,.slice none 0 0,O U 8000,O U 0]∧Rw wb (w.heap.size+8) 60 #[.slice (some ⟨w.heap.size+1+1+1+1+1+1,0,none⟩) 2 2,.slice (some ⟨w.heap.size+1+1+1+1+1+1+1,0,none⟩) 1 1]:=by rw [←hwb];exact⟨(hall2.1).setRow_far (k:=w.heap.size+1) #[.slice (some ⟨w.heap.size+1+1+1+1+1+1,0,none⟩) 2 2,.slice (some ⟨w.heap.size+1+1+1+1+1+1+1,0,none⟩) 1 1] (by omega),(hall2.2.1).setRow_far (k:=w.heap.size+1) #[.slice (some ⟨w.heap.size+1+1+1+1+1+1,0,none⟩) 2 2,.slice (some ⟨w.heap.size+1+1+1+1+1+1+1,0,none⟩) 1 1] (by omega),(hall2.2.2.1).setRow_far (k:=w.heap.size+1) #[.slice (some ⟨w.heap.size+1+1+1+1+1+1,0,none⟩) 2 2,.slice (some ⟨w.heap.size+1+1+1+1+1+1+1,0,none⟩) 1 1] (by omega),(hall2.2.2.2.1).setRow_far (k:=w.heap.size+1) #[.slice (some ⟨w.heap.size+1+1+1+1+1+1,0,none⟩) 2 2,.slice (some ⟨w.heap.size+1+1+1+1+1+1+1,0,none⟩) 1 1] (by omega),(hall2.2.2.2.2.1).setRow_far (k:=w.heap.size+1) #[.slice (some ⟨w.heap.size+1+1+1+1+1+1,0,none⟩) 2 2,.slice (some ⟨w.heap.size+1+1+1+1+1+1+1,0,none⟩) 1 1] (by omega),(hall2.2.2.2.2.2.1).setRow_far (k:=w.heap.size+1) #[.slice (some ⟨w.heap.size+1+1+1+1+1+1,0,none⟩) 2 2,.slice (some ⟨w.heap.size+1+1+1+1+1+1+1,0,none⟩) 1 1] (by omega),(hall2.2.2.2.2.2.2).setRow_far (k:=w.heap.size+1) #[.slice (some ⟨w.heap.size+1+1+1+1+1+1,0,none⟩) 2 2,.slice (some ⟨w.heap.size+1+1+1+1+1+1+1,0,none⟩) 1 1] (by omega)⟩
 have hsz3:w.heap.size+9≤wb.heap.size:=by rw [←hwb];have hh:=(below_setRow (Below.refl w.heap.size wa) (show w.heap.size≤w.heap.size+1 by omega) #[.slice (some ⟨w.heap.size+1+1+1+1+1+1,0,none⟩) 2 2,.slice (some ⟨w.heap.size+1+1+1+1+1+1+1,0,none⟩) 1 1]).size;omega
 rw [hwb] at v1 v2 hbf ⊢
 have HS:=Z (show Rw wb (w.heap.size+3) 24 #[O U 1000,O U 5000,O U 10000,O U 2000,O U 1000,O U 1000000,O U 0,O U 0,O U 50,.slice (some ⟨w.heap.size+1+1,0,none⟩) 2 2]∧Rw wb (w.heap.size+8) 60 #[.slice (some ⟨w.heap.size+1+1+1+1+1+1,0,none⟩) 2 2,.slice (some ⟨w.heap.size+1+1+1+1+1+1+1,0,none⟩) 1 1] from⟨hall3.2.1,hall3.2.2.2.2.2.2⟩)
 refine hK.out _ _ HS.out (fun _=> ?_)
 clear hK K
 try simp only [Act.put,sB,sZ,sS]
 refine wpAnyH_done (by kernel_rfl) ?_ _
 go_wp2
 (try simp only [Exit.inBlock,Exit.then])
 refine bodyPost_ret (res_cc rfl _ _ _ _ _ _ _ _ _ _ rfl rfl v1 v2 Tryz.underlying24 rfl (by kernel_rfl) Tryz.underlying60 rfl (by kernel_rfl)) rfl ⟨⟨_,_,_,rfl, ?_, ?_⟩,hbf⟩
 ·exact exO_plan wb w.heap.size hsz3 hall3.2.2.1 hall3.2.2.2.1 hall3.2.2.2.2.1 hall3.2.2.2.2.2.1
 ·exact exO_train wb w.heap.size hsz3 hall3.1
open Go.RowKit
def LegX:LegP:=⟨2500,7000,⟨2880000000000,2405000000000,0,0,475000000000,0⟩,3200,725⟩
set_option maxRecDepth 100000 in
set_option maxHeartbeats 4000000 in
theorem known_any (w:World):Calls Tryz.prog 14 #[] w fun e w'=>e= .returned (.bool true)∧Below w.heap.size w w':=by
 have HE:=Z (Example_any w)
 go_enter Tryz.func14,Tryz.ntmps14
 go_wp2_with fail
 (with_reducible refine (HE.out).mono ?_)
 rintro e w1 ⟨⟨Ag,A,A2,rfl,hP,hG⟩,hb1⟩
 have hb2:=((Below.refl w1.heap.size w1).alloc (Nat.le_refl _) (.cells #[O U 1000,O U 5000,O U 10000,O U 2000,O U 1000,O U 1000000,O U 0,O U 0,O U 50,.slice Ag 2 2] 24)).alloc (by simp) (.cells #[.slice A 2 2,.slice A2 1 1] 60)
 obtain⟨q1,q2⟩:=rows2 w1 #[O U 1000,O U 5000,O U 10000,O U 2000,O U 1000,O U 1000000,O U 0,O U 0,O U 50,.slice Ag 2 2] #[.slice A 2 2,.slice A2 1 1] 24 60
 obtain⟨W2,hW2⟩:∃z,(w1.alloc (.cells #[O U 1000,O U 5000,O U 10000,O U 2000,O U 1000,O U 1000000,O U 0,O U 0,O U 50,.slice Ag 2 2] 24)).alloc (.cells #[.slice A 2 2,.slice A2 1 1] 60)=z:=⟨_,rfl⟩
 rw [hW2] at hb2 q1 q2
 obtain⟨N,hN⟩:∃n,w1.heap.size=n:=⟨_,rfl⟩
 rw [hN] at q1 q2
 have HB2:=Z (hb1.trans (hb2.mono hb1.size))
 have HK:=Z (show ∀wx,Below W2.heap.size W2 wx→PlAt wx wx.heap.size A 2 A2 1 exP∧Sl wx wx.heap.size 1 CI Ag exTr.grip∧Rw wx N 24 #[O U 1000,O U 5000,O U 10000,O U 2000,O U 1000,O U 1000000,O U 0,O U 0,O U 50,.slice Ag 2 2]∧Rw wx (N+1) 60 #[.slice A 2 2,.slice A2 1 1] from fun wx h=>
  ⟨((hP.below hb2).below (h.mono hb2.size)).more (Nat.le_trans hb2.size h.size),((hG.below hb2).below (h.mono hb2.size)).more (fun _ _ h=>h) (Nat.le_trans hb2.size h.size),q1.below h q1.lt,q2.below h q2.lt⟩)
 have HS1:=Z (show ∀wx,Below W2.heap.size W2 wx→Calls Tryz.prog 20 #[.agg #[O U 1000,O U 5000,O U 10000,O U 2000,O U 1000,O U 1000000,O U 0,O U 0,O U 50,.slice Ag 2 2],.agg #[O U 0,O U 0],O U 4,O U 0,O U 0] wx fun e w'=>e= .returned (.tuple #[.agg #[O U 200000,O U 200000],.agg #[O U 80000000000,O U 0,O U 0,O U 0,O U 40000000000,O U 0],O U 0])∧Below wx.heap.size wx w' from fun wx h=>by
  have:=step20_any Ag 2 2 exTr 0 0 4 0 0 wx rfl (by omega) (HK.out wx h).2.1
  rw [ex_step1.1,ex_step1.2.1,ex_step1.2.2] at this
  exact this)
 have HS2:=Z (show ∃lg:Lg,∀wx,Below W2.heap.size W2 wx→Calls Tryz.prog 20 #[.agg #[O U 1000,O U 5000,O U 10000,O U 2000,O U 1000,O U 1000000,O U 0,O U 0,O U 50,.slice Ag 2 2],.agg #[O U 1000000,O U 0],O U 0,O U 100,O U 0] wx fun e w'=>e= .returned (.tuple #[.agg #[O U 901900,O U 901900],.agg #[O U lg.pull,O U lg.brake,O U lg.drag,O U lg.hill,O U lg.round,O U lg.hold],O U 0])∧Below wx.heap.size wx w' from⟨mkL exTr 1000000 0 100 0,fun wx h=>by
  have:=step20_any Ag 2 2 exTr 1000000 0 0 100 0 wx rfl (by omega) (HK.out wx h).2.1
  rw [ex_step2.1,ex_step2.2,show stL exTr 1000000 0 0 100 0=fLg (mkL exTr 1000000 0 100 0) from by kernel_rfl] at this
  exact this⟩)
 have HBR:=Z (show ∀wx,Below W2.heap.size W2 wx→Calls Tryz.prog 25 #[.agg #[O U 1000,O U 5000,O U 10000,O U 2000,O U 1000,O U 1000000,O U 0,O U 0,O U 50,.slice Ag 2 2],.agg #[O U 1000000,O U 0],O U 0,O U 0] wx fun e w'=>e= .returned (.tuple #[O U 450,O U 0])∧Below wx.heap.size wx w' from fun wx h=>by
  have:=Braking_any Ag 2 2 exTr 1000000 0 0 0 wx rfl (by omega) (HK.out wx h).2.1
  rw [ex_brk.1,ex_brk.2] at this
  exact this)
 have HSI:=Z (show ∀wx,Below W2.heap.size W2 wx→Calls Tryz.prog 27 #[.agg #[O U 1000,O U 5000,O U 10000,O U 2000,O U 1000,O U 1000000,O U 0,O U 0,O U 50,.slice Ag 2 2],O U 0,O U 0,O U 449] wx fun e w'=>e= .returned (.tuple #[O U 999,O U 0])∧Below wx.heap.size wx w' from fun wx h=>by
  have:=Sight_any Ag 2 2 exTr 0 0 449 wx rfl (by omega) (HK.out wx h).2.1
  rw [ex_sgt.1,ex_sgt.2] at this
  exact this)
 have HDR:=Z (show ∀wx,Below W2.heap.size W2 wx→Calls Tryz.prog 31 #[.agg #[.slice A 2 2,.slice A2 1 1],.slice (some ⟨wx.heap.size,0,none⟩) 1 1,.agg #[O U 1000,O U 5000,O U 10000,O U 2000,O U 1000,O U 1000000,O U 0,O U 0,O U 50,.slice Ag 2 2],O U 0,.slice (some ⟨wx.heap.size+1,0,none⟩) 2 2] ((wx.alloc (.cells #[O U 0,.bool false] 77)).alloc (.cells #[O U 5000,O U 7000] 3)) fun e w'=>(∃Al cl,e= .returned (.tuple #[.slice Al 1 cl,O U 0])∧Sl w' w'.heap.size 10 (fun x cs=>cs=fLl x) Al [LegX])∧Below wx.heap.size wx w' from fun wx h=>by
  have hb:=((Below.refl wx.heap.size wx).alloc (Nat.le_refl _) (.cells #[O U 0,.bool false] 77)).alloc (by simp) (.cells #[O U 5000,O U 7000] 3)
  obtain⟨r1,r2⟩:=rows2 wx #[O U 0,.bool false] #[O U 5000,O U 7000] 77 3
  obtain⟨W3,hW3⟩:∃z,(wx.alloc (.cells #[O U 0,.bool false] 77)).alloc (.cells #[O U 5000,O U 7000] 3)=z:=⟨_,rfl⟩
  rw [hW3] at hb r1 r2 ⊢
  have hbw:=h.trans (hb.mono h.size)
  obtain⟨k1,k2,_,_⟩:=HK.out W3 hbw
  have e1:Sl W3 W3.heap.size 2 CE (some ⟨wx.heap.size,0,none⟩) [⟨0,false⟩]:=Sl.blk r1 r1.lt fun i x hx=>by
   rcases i with _|i
   ·obtain rfl:_=x:=by simpa using hx
    exact⟨_,rfl,fun j u hu=>by rcases j with _|_|j <;> simp_all⟩
   ·simp at hx
  have e2:Sl W3 W3.heap.size 1 CI (some ⟨wx.heap.size+1,0,none⟩) [5000,7000]:=Sl.blk r2 r2.lt fun i x hx=>by
   rcases i with _|_|i
   ·obtain rfl:_=x:=by simpa using hx
    exact⟨_,rfl,fun j u hu=>by rcases j with _|j <;> simp_all⟩
   ·obtain rfl:_=x:=by simpa using hx
    exact⟨_,rfl,fun j u hu=>by rcases j with _|j <;> simp_all⟩
   ·simp at hx
  have hd:=Drive_any A A2 2 1 exP (some ⟨wx.heap.size,0,none⟩) 1 [⟨0,false⟩] exTr Ag 2 2 0 (some ⟨wx.heap.size+1,0,none⟩) 2 2 [5000,7000] W3 k1 e1 (by simp) rfl (by omega) k2 rfl (by omega) (by omega) e2
  refine hd.mono ?_
  rintro e w' ⟨hh,hb4⟩
  refine⟨?_,hb.trans (hb4.mono hb.size)⟩
  rcases hh with⟨hn,_⟩|⟨_,hn,_⟩|⟨_,L,v,hL,rfl,ho⟩
  ·exact absurd ex_ok hn
  ·rw [ex_drv] at hn;cases hn
  ·rw [ex_drv] at hL
   obtain rfl:=Option.some.inj hL
   obtain⟨Al,cl,rfl,_,hs⟩:=Sl.of_own fLl_len ho
   exact⟨Al,cl,rfl,hs⟩)
 have HX2:=Z (Below.refl W2.heap.size W2)
 have HW2:=Z hW2
 have e0:=q1.cell 0;have e1:=q1.cell 1;have e2:=q1.cell 2;have e3:=q1.cell 3;have e4:=q1.cell 4;have e5:=q1.cell 5;have e6:=q1.cell 6;have e7:=q1.cell 7;have e8:=q1.cell 8;have e9:=q1.cell 9
 clear hb1 hb2 q1 q2 hP hG HE
 go_wp2_with fail
 (with_reducible refine (HS1.out _ HX2.out).mono ?_)
 rintro e w3 ⟨rfl,hb3⟩
 clear hW2 hN e0 e1 e2 e3 e4 e5 e6 e7 e8 e9
 go_upto_region 3 with (fail)
 have hb4:=((Below.refl w3.heap.size w3).alloc (Nat.le_refl _) (.cells #[O U 200000,O U 200000] 35)).alloc (by simp) (.cells #[O U 80000000000,O U 0,O U 0,O U 0,O U 40000000000,O U 0] 37)
 obtain⟨q3,q4⟩:=rows2 w3 #[O U 200000,O U 200000] #[O U 80000000000,O U 0,O U 0,O U 0,O U 40000000000,O U 0] 35 37
 obtain⟨W4,hW4⟩:∃z,(w3.alloc (.cells #[O U 200000,O U 200000] 35)).alloc (.cells #[O U 80000000000,O U 0,O U 0,O U 0,O U 40000000000,O U 0] 37)=z:=⟨_,rfl⟩
 rw [hW4] at hb4 q3 q4 ⊢
 clear hW4
 have hx4:=hb3.trans (hb4.mono hb3.size)
 have HX4:=Z hx4
 obtain⟨M,hM⟩:∃n,w3.heap.size=n:=⟨_,rfl⟩
 rw [hM] at q3 q4 ⊢
 clear hM
 have HK4:=Z (show ∀wx,Below W4.heap.size W4 wx→Rw wx M 35 #[O U 200000,O U 200000]∧Rw wx (M+1) 37 #[O U 80000000000,O U 0,O U 0,O U 0,O U 40000000000,O U 0]∧Below W2.heap.size W2 wx from fun wx h=>⟨q3.below h q3.lt,q4.below h q4.lt,hx4.trans (h.mono hx4.size)⟩)
 obtain⟨_,_,r1,_⟩:=HK.out _ hx4
 have e0:=r1.cell 0;have e1:=r1.cell 1;have e2:=r1.cell 2;have e3:=r1.cell 3;have e4:=r1.cell 4;have e5:=r1.cell 5;have e6:=r1.cell 6;have e7:=r1.cell 7;have e8:=r1.cell 8;have e9:=r1.cell 9
 clear hb3 hb4 hx4 q3 q4 r1
 go_wp2_with fail
 obtain⟨lg,HS2'⟩:=HS2.out
 (with_reducible refine (HS2' _ HX4.out).mono ?_)
 rintro e w5 ⟨rfl,hb5⟩
 clear e0 e1 e2 e3 e4 e5 e6 e7 e8 e9 HS2' HS2
 go_upto_region 4 with (fail)
 have hb6:=((Below.refl w5.heap.size w5).alloc (Nat.le_refl _) (.cells #[O U 901900,O U 901900] 35)).alloc (by simp) (.cells #[O U lg.pull,O U lg.brake,O U lg.drag,O U lg.hill,O U lg.round,O U lg.hold] 37)
 obtain⟨q3,q4⟩:=rows2 w5 #[O U 901900,O U 901900] #[O U lg.pull,O U lg.brake,O U lg.drag,O U lg.hill,O U lg.round,O U lg.hold] 35 37
 obtain⟨W6,hW6⟩:∃z,(w5.alloc (.cells #[O U 901900,O U 901900] 35)).alloc (.cells #[O U lg.pull,O U lg.brake,O U lg.drag,O U lg.hill,O U lg.round,O U lg.hold] 37)=z:=⟨_,rfl⟩
 rw [hW6] at hb6 q3 q4 ⊢
 clear hW6
 have hx6:=hb5.trans (hb6.mono hb5.size)
 obtain⟨M2,hM2⟩:∃n,w5.heap.size=n:=⟨_,rfl⟩
 rw [hM2] at q3 q4 ⊢
 clear hM2
 have HX6:=Z hx6
 have HK6:=Z (show ∀wx,Below W6.heap.size W6 wx→Rw wx M2 35 #[O U 901900,O U 901900]∧Rw wx M 35 #[O U 200000,O U 200000]∧Rw wx (M+1) 37 #[O U 80000000000,O U 0,O U 0,O U 0,O U 40000000000,O U 0]∧Below W2.heap.size W2 wx from fun wx h=>by
  obtain⟨k1,k2,k3⟩:=HK4.out wx (hx6.trans (h.mono hx6.size))
  exact⟨q3.below h q3.lt,k1,k2,k3⟩)
 have HX7:=Z (HK6.out W6 (Below.refl _ _)).2.2.2
 obtain⟨_,_,r1,_⟩:=HK.out _ HX7.out
 have e0:=r1.cell 0;have e1:=r1.cell 1;have e2:=r1.cell 2;have e3:=r1.cell 3;have e4:=r1.cell 4;have e5:=r1.cell 5;have e6:=r1.cell 6;have e7:=r1.cell 7;have e8:=r1.cell 8;have e9:=r1.cell 9
 clear hb5 hb6 hx6 q3 q4 r1
 go_wp2_with fail
 (with_reducible refine (HBR.out _ HX7.out).mono ?_)
 rintro e w8 ⟨rfl,hb8⟩
 have HX8:=Z (HX7.out.trans (hb8.mono HX7.out.size))
 have HB8:=Z hb8
 obtain⟨_,_,r1,_⟩:=HK.out _ HX8.out
 have e0:=r1.cell 0;have e1:=r1.cell 1;have e2:=r1.cell 2;have e3:=r1.cell 3;have e4:=r1.cell 4;have e5:=r1.cell 5;have e6:=r1.cell 6;have e7:=r1.cell 7;have e8:=r1.cell 8;have e9:=r1.cell 9
 clear hb8 r1
 go_wp2_with fail
 (with_reducible refine (HSI.out _ HX8.out).mono ?_)
 rintro e w9 ⟨rfl,hb9⟩
 have HX9:=Z (HX8.out.trans (hb9.mono HX8.out.size))
 have HB9:=Z (HB8.out.trans (hb9.mono HB8.out.size))
 clear hb9 e0 e1 e2 e3 e4 e5 e6 e7 e8 e9
 obtain⟨_,_,r1,r2⟩:=HK.out _ (HX9.out.trans (((Below.refl w9.heap.size w9).alloc (Nat.le_refl _) (.cells #[O U 0,.bool false] 77)).mono HX9.out.size))
 have e0:=r1.cell 0;have e1:=r1.cell 1;have e2:=r1.cell 2;have e3:=r1.cell 3;have e4:=r1.cell 4;have e5:=r1.cell 5;have e6:=r1.cell 6;have e7:=r1.cell 7;have e8:=r1.cell 8;have e9:=r1.cell 9
 obtain⟨_,_,_,r3⟩:=HK.out _ HX9.out
 have p0:=r3.cell 0;have p1:=r3.cell 1
 clear r1 r2 r3
 go_wp2_with fail
 (with_reducible refine (HDR.out _ HX9.out).mono ?_)
 rintro e wa ⟨⟨Al,cl,rfl,hsl⟩,hba⟩
 have HBA:=Z (HB9.out.trans (hba.mono HB9.out.size))
 clear hba e0 e1 e2 e3 e4 e5 e6 e7 e8 e9 p0 p1
 obtain⟨bl,ol,el,gl,hcl⟩:=hsl (by simp)
 subst el
 obtain⟨cs,rfl,hc⟩:=hcl 0 LegX rfl
 have l0:=hc 0 _ rfl;have l1:=hc 1 _ rfl;have l2:=hc 2 _ rfl;have l3:=hc 3 _ rfl;have l4:=hc 4 _ rfl;have l5:=hc 5 _ rfl;have l6:=hc 6 _ rfl;have l7:=hc 7 _ rfl;have l8:=hc 8 _ rfl;have l9:=hc 9 _ rfl
 simp only [Nat.zero_mul,Nat.add_zero,LegX] at l0 l1 l2 l3 l4 l5 l6 l7 l8 l9
 obtain⟨k1,k2,k3,_⟩:=HK6.out wa HBA.out
 have a0:=k1.cell 0
 have b0:=k2.cell 0;have b1:=k2.cell 1
 have c0:=k3.cell 0;have c4:=k3.cell 4
 have HXA:=Z (HK6.out wa HBA.out).2.2.2
 clear hc hcl gl k1 k2 k3
 go_wp2
 go_ret
 exact⟨by rfl,HB2.out.trans (HXA.out.mono HB2.out.size)⟩
end Go.Proofs.YtfhkbbjddjddmaaGreat
