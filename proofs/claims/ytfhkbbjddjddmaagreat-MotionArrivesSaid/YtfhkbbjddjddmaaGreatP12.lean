/- The row of MotionArrives. -/
import Derived.Test.YtfhkbbjddjddmaaGreatRows
import Derived.Test.YtfhkbbjddjddmaaGreatM69
import Derived.Test.YtfhkbbjddjddmaaGreatJX
import Derived.WalkKit
import Derived.ProofKit
import Derived.Deep.OwnRows
import Derived.Deep.CondSized
import Derived.WideKeyArgs
import Derived.ReadAgain
set_option linter.unusedVariables false
set_option linter.unusedSimpArgs false
open Go.Value renaming int→O
open Go.IntKind renaming i64→U
namespace Go.Proofs.YtfhkbbjddjddmaaGreat
open Go.RowKit
section five
open Go.ChangeShapes Go.WideShapes Go.ChangeAt Go.Deep
variable {H:Type} {enc:TypeId × Value→H} {P:Program} {w:World} {base:Nat} {spare:Nat→Bool} {held:Bool}
theorem trodAll_five {t t' t'' t3 t4:TypeId} {args:Array Value} {ds:List (DataW H)} {ps:List MemPlace} (h:DataW.TrodAll enc P w base spare held [t,t',t'',t3,t4] args.toList ds ps) :
  ∃v v' v'' v3 v4 d d' d'' d3 d4 p p' p'' p3 p4,args=#[v,v',v'',v3,v4]∧ds= [d,d',d'',d3,d4]∧ps=p ++ p' ++ p'' ++ p3 ++ p4∧DataW.Trod enc P w base spare held t v d p∧DataW.Trod enc P w base spare held t' v' d' p'∧DataW.Trod enc P w base spare held t'' v'' d'' p''∧DataW.Trod enc P w base spare held t3 v3 d3 p3∧DataW.Trod enc P w base spare held t4 v4 d4 p4:=by
 obtain⟨v,vs,d,ds',p,q,hargs,rfl,rfl,hd,hrest⟩:=trodAll_cons h
 obtain⟨v',vs',d',ds'',p',q',rfl,rfl,rfl,hd',hrest'⟩:=trodAll_cons hrest
 obtain⟨v'',vs'',d'',ds''',p'',q'',rfl,rfl,rfl,hd'',hrest''⟩:=trodAll_cons hrest'
 obtain⟨v3,vs3,d3,ds3,p3,q3,rfl,rfl,rfl,hd3,hrest3⟩:=trodAll_cons hrest''
 obtain⟨v4,vs4,d4,ds4,p4,q4,rfl,rfl,rfl,hd4,hrest4⟩:=trodAll_cons hrest3
 obtain⟨rfl,rfl,rfl⟩:=trodAll_nil hrest4
 exact⟨v,v',v'',v3,v4,d,d',d'',d3,d4,p,p',p'',p3,p4,by cases args;simp_all,rfl,by simp,hd,hd',hd'',hd3,hd4⟩
theorem trodAll_mk5 {t t' t'' t3 t4:TypeId} {v v' v'' v3 v4:Value} {d d' d'' d3 d4:DataW H} {p p' p'' p3 p4:List MemPlace} (h:DataW.Trod enc P w base spare held t v d p) (h':DataW.Trod enc P w base spare held t' v' d' p')
  (h'':DataW.Trod enc P w base spare held t'' v'' d'' p'') (h3:DataW.Trod enc P w base spare held t3 v3 d3 p3) (h4:DataW.Trod enc P w base spare held t4 v4 d4 p4):DataW.TrodAll enc P w base spare held [t,t',t'',t3,t4] [v,v',v'',v3,v4] [d,d',d'',d3,d4] (p ++ (p' ++ (p'' ++ (p3 ++ p4)))):=⟨p,p' ++ (p'' ++ (p3 ++ p4)),h,trodAll_mk4 h' h'' h3 h4,rfl⟩
end five
section six
open Go.ChangeShapes Go.WideShapes Go.ChangeAt Go.Deep
variable {H:Type} {enc:TypeId × Value→H} {P:Program} {w:World} {base:Nat} {spare:Nat→Bool} {held:Bool}
theorem trodAll_six {t t' t'' t3 t4 t5:TypeId} {args:Array Value} {ds:List (DataW H)} {ps:List MemPlace} (h:DataW.TrodAll enc P w base spare held [t,t',t'',t3,t4,t5] args.toList ds ps) :
  ∃v v' v'' v3 v4 v5 d d' d'' d3 d4 d5 p p' p'' p3 p4 p5,args=#[v,v',v'',v3,v4,v5]∧ds= [d,d',d'',d3,d4,d5]∧ps=p ++ p' ++ p'' ++ p3 ++ p4 ++ p5∧DataW.Trod enc P w base spare held t v d p∧DataW.Trod enc P w base spare held t' v' d' p'∧DataW.Trod enc P w base spare held t'' v'' d'' p''∧DataW.Trod enc P w base spare held t3 v3 d3 p3∧DataW.Trod enc P w base spare held t4 v4 d4 p4∧DataW.Trod enc P w base spare held t5 v5 d5 p5:=by
 obtain⟨v,vs,d,ds',p,q,hargs,rfl,rfl,hd,hrest⟩:=trodAll_cons h
 obtain⟨v',vs',d',ds'',p',q',rfl,rfl,rfl,hd',hrest'⟩:=trodAll_cons hrest
 obtain⟨v'',vs'',d'',ds''',p'',q'',rfl,rfl,rfl,hd'',hrest''⟩:=trodAll_cons hrest'
 obtain⟨v3,vs3,d3,ds3,p3,q3,rfl,rfl,rfl,hd3,hrest3⟩:=trodAll_cons hrest''
 obtain⟨v4,vs4,d4,ds4,p4,q4,rfl,rfl,rfl,hd4,hrest4⟩:=trodAll_cons hrest3
 obtain⟨v5,vs5,d5,ds5,p5,q5,rfl,rfl,rfl,hd5,hrest5⟩:=trodAll_cons hrest4
 obtain⟨rfl,rfl,rfl⟩:=trodAll_nil hrest5
 exact⟨v,v',v'',v3,v4,v5,d,d',d'',d3,d4,d5,p,p',p'',p3,p4,p5,by cases args;simp_all,rfl,by simp,hd,hd',hd'',hd3,hd4,hd5⟩
theorem trodAll_mk6 {t t' t'' t3 t4 t5:TypeId} {v v' v'' v3 v4 v5:Value} {d d' d'' d3 d4 d5:DataW H} {p p' p'' p3 p4 p5:List MemPlace} (h:DataW.Trod enc P w base spare held t v d p) (h':DataW.Trod enc P w base spare held t' v' d' p')
  (h'':DataW.Trod enc P w base spare held t'' v'' d'' p'') (h3:DataW.Trod enc P w base spare held t3 v3 d3 p3) (h4:DataW.Trod enc P w base spare held t4 v4 d4 p4) (h5:DataW.Trod enc P w base spare held t5 v5 d5 p5):DataW.TrodAll enc P w base spare held [t,t',t'',t3,t4,t5] [v,v',v'',v3,v4,v5] [d,d',d'',d3,d4,d5] (p ++ (p' ++ (p'' ++ (p3 ++ (p4 ++ p5))))):=⟨p,p' ++ (p'' ++ (p3 ++ (p4 ++ p5))),h,trodAll_mk5 h' h'' h3 h4 h5,rfl⟩
end six
section row
open Go.ChangeShapes Go.WideShapes Go.ChangeAt Go.Deep
set_option maxRecDepth 100000 in
set_option maxHeartbeats 1600000 in
theorem motionArrives_lifted (os:Os) (started:os.Started) (H:Type) (enc:TypeId × Value→H) :
  ReturnsInHanded {} Tryz.checked os 12 .any (Rows.motionArrivesSpec.pre6 enc Tryz.prog Tryz.f12 Rows.motionArrivesRow.domain false) (Rows.motionArrivesSpec.post enc Tryz.prog Tryz.f12 false true false false):=by
 refine returnsInHanded_of_change_sized (C:=Tryz.checked) (by kernel_rfl:ownKnob Tryz.prog.godebug=none) started (by kernel_rfl) Tryz.func12
  (ChangeSpec.witness6 (enc:=enc) (C:=Tryz.checked) false ⟨#[],#[.agg #[.slice none 0 0,.slice none 0 0],.slice none 0 0,.agg #[O U 0,O U 0,O U 0,O U 0,O U 0,O U 0,O U 0,O U 0,O U 0,.slice none 0 0],O U 0,.slice none 0 0,O U 0], []⟩ 8 (by kernel_rfl) (by kernel_rfl) (by kernel_rfl) (by kernel_rfl)) ?_
 intro W base args ds gs before hval0 hW _ hsz0 _
 have hsz:(DataW.weightsEach Tryz.prog (Tryz.f12.params.toList ++ Rows.motionArrivesSpec.plain.varTypes Tryz.prog) (ds ++ gs)).all (·≤reachBytes)=true:=hsz0
 clear hsz0
 have hval:∀(j:Nat) t v,Tryz.f12.params[j]? = some t→args[j]? = some v→Value.okWide Tryz.prog W .any base t v:=hval0
 have hW':=hW
 obtain⟨p,q,hA0,hV,rfl,hfz,_⟩:=hW
 have hA:DataW.TrodAll enc Tryz.prog W 0 (fun _=>true) true Tryz.f12.params.toList args.toList ds p:=hA0
 rw [Tryz.params12] at hA hval hsz
 obtain⟨v0,v1,v2,v3,v4,v5,d0,d1,d2,d3,d4,d5,p0,p1,p2,p3,p4,p5,rfl,rfl,rfl,h0,h1,h2,h3,h4,h5⟩:=trodAll_six hA
 obtain⟨rfl,rfl⟩:=trodVars_none hV
 obtain⟨cs0,rfl,hcs0⟩:=okWide_struct Tryz.underlying60 (hval 0 60 v0 rfl rfl)
 obtain⟨B1,len1,cap1,rfl⟩:=okWide_slice Tryz.underlying61 (hval 1 61 v1 rfl rfl)
 obtain⟨cs2,rfl,hcs2⟩:=okWide_struct Tryz.underlying24 (hval 2 24 v2 rfl rfl)
 obtain⟨r3,rfl,rfl,rfl,wr3⟩:=open_int Tryz.underlying3 (hval 3 3 v3 rfl rfl) h3
 obtain⟨B4,len4,cap4,rfl⟩:=okWide_slice Tryz.underlying22 (hval 4 22 v4 rfl rfl)
 obtain⟨r5,rfl,rfl,rfl,wr5⟩:=open_int Tryz.underlying3 (hval 5 3 v5 rfl rfl) h5
 have h0k:=h0
 have h1k:=h1
 have h2k:=h2
 have h4k:=h4
 obtain⟨fuel0,hf0⟩:=h0
 obtain⟨fuel1,hf1⟩:=h1
 obtain⟨fuel2,hf2⟩:=h2
 obtain⟨fuel4,hf4⟩:=h4
 clear hA0 hval0 hA
 simp only [List.append_nil] at hW' hsz
 have hlt:∀x∈p0 ++ p1 ++ p2 ++ p4,x.block<W.heap.size:=fun x hx=>hW'.lt x (by simpa using hx)
 obtain⟨pl,A,c,A2,c2,hq0,hP⟩:=read_Pl (enc:=enc) (w:=W) (x:=(d0,p0)) hf0 (fun n hn=>by
  have:=List.all_eq_true.1 hsz n (DataW.weights_mem_each (j:=0) (t:=60) (d:=d0) rfl rfl n hn)
  simpa using this)
 obtain⟨D1,l1,e1,hq1,hS1,hlc1,hcm1⟩:=read_Ms (enc:=enc) (w:=W) (x:=(d1,p1)) hf1 (fun n hn=>by
  have:=List.all_eq_true.1 hsz n (DataW.weights_mem_each (j:=1) (t:=61) (d:=d1) rfl rfl n hn)
  simpa using this)
 obtain⟨t2,A2t,ct2,hq2,hS2,hlc2,hcm2⟩:=read_Tr (enc:=enc) (w:=W) (x:=(d2,p2)) hf2 (fun n hn=>by
  have:=List.all_eq_true.1 hsz n (DataW.weights_mem_each (j:=2) (t:=24) (d:=d2) rfl rfl n hn)
  simpa using this)
 obtain⟨D4,l4,e4,hq4,hS4,hlc4,hcm4⟩:=read_Is (enc:=enc) (w:=W) (x:=(d4,p4)) hf4 (fun n hn=>by
  have:=List.all_eq_true.1 hsz n (DataW.weights_mem_each (j:=4) (t:=22) (d:=d4) rfl rfl n hn)
  simpa using this)
 obtain rfl:cs0=#[.slice A pl.nodes.length c,.slice A2 pl.rails.length c2]:=by
  apply Array.toList_inj.1
  simpa [Value.cells] using hq0
 obtain⟨rfl,rfl,rfl⟩:B1=D1∧len1=l1.length∧cap1=e1:=by simpa [Value.cells] using hq1
 obtain rfl:cs2=#[O U t2.mass,O U t2.len,O U t2.speed,O U t2.effort,O U t2.brake,O U t2.power,O U t2.resist,O U t2.rise,O U t2.back,.slice A2t t2.grip.length ct2]:=by
  apply Array.toList_inj.1
  simpa [Value.cells] using hq2
 obtain⟨rfl,rfl,rfl⟩:B4=D4∧len4=l4.length∧cap4=e4:=by simpa [Value.cells] using hq4
 refine (MotionArrives_any A A2 c c2 pl B1 cap1 l1.length l1 t2 A2t t2.grip.length ct2 r3 B4 l4.length cap4 l4 r5 W hP hS1 rfl rfl (by omega) hS2 rfl hlc4 hS4).mono fun e W' ⟨he,hb⟩=> ?_
 subst he
 have hs:W.Since W.heap.size W':=⟨hb.os,hb.tape,hb.output,hb.size,hb.block⟩
 have laid:laidOutB Tryz.prog=true:=by kernel_rfl
 have ha0:DataW.Trod enc Tryz.prog W' 0 (fun b=>decide (b<W.heap.size)) true 60 (.agg #[.slice A pl.nodes.length c,.slice A2 pl.rails.length c2]) d0 p0:=
  WideElems.Trod_stays laid (by kernel_rfl) (of_decide_eq_true (by kernel_rfl)) h0k (fun x hx=>hs.sameAt (hlt x (by simp [hx]))) (fun x hx=>by simpa using hlt x (by simp [hx]))
 have ha1:DataW.Trod enc Tryz.prog W' 0 (fun b=>decide (b<W.heap.size)) true 61 (.slice B1 l1.length cap1) d1 p1:=
  WideElems.Trod_stays laid (by kernel_rfl) (of_decide_eq_true (by kernel_rfl)) h1k (fun x hx=>hs.sameAt (hlt x (by simp [hx]))) (fun x hx=>by simpa using hlt x (by simp [hx]))
 have ha2:DataW.Trod enc Tryz.prog W' 0 (fun b=>decide (b<W.heap.size)) true 24 (.agg #[O U t2.mass,O U t2.len,O U t2.speed,O U t2.effort,O U t2.brake,O U t2.power,O U t2.resist,O U t2.rise,O U t2.back,.slice A2t t2.grip.length ct2]) d2 p2:=
  WideElems.Trod_stays laid (by kernel_rfl) (of_decide_eq_true (by kernel_rfl)) h2k (fun x hx=>hs.sameAt (hlt x (by simp [hx]))) (fun x hx=>by simpa using hlt x (by simp [hx]))
 have ha4:DataW.Trod enc Tryz.prog W' 0 (fun b=>decide (b<W.heap.size)) true 22 (.slice B4 l4.length cap4) d4 p4:=
  WideElems.Trod_stays laid (by kernel_rfl) (of_decide_eq_true (by kernel_rfl)) h4k (fun x hx=>hs.sameAt (hlt x (by simp [hx]))) (fun x hx=>by simpa using hlt x (by simp [hx]))
 exact⟨_,rfl,_,_,_, [],p0 ++ p1 ++ p2 ++ p4, [],hW',trodAll_mk1 (shut_bool Tryz.underlying4 true),by have:=trodAll_mk6 ha0 ha1 ha2 (shut_int (enc:=enc) (P:=Tryz.prog) (w:=W') (base:=0) (spare:=fun b=>decide (b<W.heap.size)) (held:=true) Tryz.underlying3 wr3) ha4 (shut_int (enc:=enc) (P:=Tryz.prog) (w:=W') (base:=0) (spare:=fun b=>decide (b<W.heap.size)) (held:=true) Tryz.underlying3 wr5);(try simp only [List.append_nil,List.nil_append,←List.append_assoc] at this);exact this,rfl,hs.frame _,fun h=>by cases h⟩
theorem motionArrives_holds:Rows.MotionArrivesSaid:=
 OpenClaim.holds_of_wide 12 Tryz.f12 rfl rfl rfl rfl rfl rfl rfl ⟨rfl,rfl,rfl,rfl,rfl⟩ rfl rfl rfl rfl rfl (by kernel_rfl) Tryz.func12 (by kernel_rfl)
  (of_decide_eq_true (by kernel_rfl)) (by unfold Func.isWrapper;rw [if_neg (of_decide_eq_false (by kernel_rfl))];exact⟨rfl,rfl⟩)
  (fun os started H enc _=>motionArrives_lifted os started H enc)
end row
end Go.Proofs.YtfhkbbjddjddmaaGreat
