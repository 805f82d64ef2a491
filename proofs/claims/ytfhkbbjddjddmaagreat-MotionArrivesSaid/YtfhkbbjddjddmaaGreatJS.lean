/- Texts So M35. -/
import Derived.Shelf.SortM.Plain
import Derived.Shelf.SortM.SortNone
import Derived.Ground.SlgmProg
import Derived.Sort.OwnSortedInts
import Derived.Test.YtfhkbbjddjddmaaGreatJD
import Derived.Shelf.Slices.CompactI
set_option linter.unusedVariables false
set_option linter.unusedSimpArgs false
namespace Go.Proofs.YtfhkbbjddjddmaaGreat
open Go.RowKit Go.Shelf Go.Sort
def Tryz.sortA_ren:Go.Shelf.Ren:=⟨fun|5=>83|8=>106|7=>105|19=>134|20=>135|10=>125|11=>126|12=>127|13=>128|14=>129|15=>130|16=>131|17=>132|18=>133|30=>145|31=>146|32=>147|33=>148|34=>149|35=>150|40=>155|n=>n,fun|23=>22|25=>3|3=>3|32=>180|22=>22|0=>0|44=>198|46=>200|4=>4|36=>192|35=>191|41=>50|5=>5|9=>9|53=>213|57=>217|63=>221|64=>45|n=>n,fun|n=>n⟩
theorem Tryz.sortA:Go.Proofs.SlLaysM.n5 Tryz.prog Tryz.sortA_ren:={
 mixed:=by kernel_rfl
 f5 := ⟨ "slices.Sort[[]int,int]", by decide, Tryz.func83.trans (congrArg some (by kernel_rfl))⟩
 f7 := ⟨ "slices.pdqsortOrdered[int]", by decide, Tryz.func105.trans (congrArg some (by kernel_rfl))⟩
 f8:=Tryz.func106.trans (congrArg some (by kernel_rfl))
 f10 := ⟨ "slices.insertionSortOrdered[int]", by decide, Tryz.func125.trans (congrArg some (by kernel_rfl))⟩
 f11 := ⟨ "slices.heapSortOrdered[int]", by decide, Tryz.func126.trans (congrArg some (by kernel_rfl))⟩
 f12 := ⟨ "slices.breakPatternsOrdered[int]", by decide, Tryz.func127.trans (congrArg some (by kernel_rfl))⟩
 f13 := ⟨ "slices.choosePivotOrdered[int]", by decide, Tryz.func128.trans (congrArg some (by kernel_rfl))⟩
 f14 := ⟨ "slices.reverseRangeOrdered[int]", by decide, Tryz.func129.trans (congrArg some (by kernel_rfl))⟩
 f15 := ⟨ "slices.partialInsertionSortOrdered[int]", by decide, Tryz.func130.trans (congrArg some (by kernel_rfl))⟩
 f16 := ⟨ "cmp.Less[int]", by decide, Tryz.func131.trans (congrArg some (by kernel_rfl))⟩
 f17 := ⟨ "slices.partitionEqualOrdered[int]", by decide, Tryz.func132.trans (congrArg some (by kernel_rfl))⟩
 f18 := ⟨ "slices.partitionOrdered[int]", by decide, Tryz.func133.trans (congrArg some (by kernel_rfl))⟩
 f19:=Tryz.func134.trans (congrArg some (by kernel_rfl))
 f20:=Tryz.func135.trans (congrArg some (by kernel_rfl))
 f30 := ⟨ "slices.siftDownOrdered[int]", by decide, Tryz.func145.trans (congrArg some (by kernel_rfl))⟩
 f31:=Tryz.func146.trans (congrArg some (by kernel_rfl))
 f32:=Tryz.func147.trans (congrArg some (by kernel_rfl))
 f33 := ⟨ "slices.medianAdjacentOrdered[int]", by decide, Tryz.func148.trans (congrArg some (by kernel_rfl))⟩
 f34 := ⟨ "slices.medianOrdered[int]", by decide, Tryz.func149.trans (congrArg some (by kernel_rfl))⟩
 f35 := ⟨ "cmp.isNaN[int]", by decide, Tryz.func150.trans (congrArg some (by kernel_rfl))⟩
 f40 := ⟨ "slices.order2Ordered[int]", by decide, Tryz.func155.trans (congrArg some (by kernel_rfl))⟩
 t0:=Tryz.underlying0
 a0:=Tryz.isAgg0
 z0:=Tryz.sizeOf0
 v0:=Tryz.zeroValue0
 t3:=Tryz.underlying3
 a3:=Tryz.isAgg3
 z3:=Tryz.sizeOf3
 v3:=Tryz.zeroValue3
 t4:=Tryz.underlying4
 a4:=Tryz.isAgg4
 z4:=Tryz.sizeOf4
 v4:=Tryz.zeroValue4
 t5:=Tryz.underlying5
 a5:=Tryz.isAgg5
 z5:=Tryz.sizeOf5
 v5:=Tryz.zeroValue5
 t9:=Tryz.underlying9
 a9:=Tryz.isAgg9
 z9:=Tryz.sizeOf9
 v9:=Tryz.zeroValue9
 t22:=Tryz.underlying22
 a22:=Tryz.isAgg22
 z22:=Tryz.sizeOf22
 v22:=Tryz.zeroValue22
 t23:=Tryz.underlying22
 a23:=Tryz.isAgg22
 z23:=Tryz.sizeOf22
 v23:=Tryz.zeroValue22
 t25:=Tryz.underlying3
 a25:=Tryz.isAgg3
 z25:=Tryz.sizeOf3
 v25:=Tryz.zeroValue3
 t32:=Tryz.underlying180
 a32:=Tryz.isAgg180
 z32:=Tryz.sizeOf180
 v32:=Tryz.zeroValue180
 t35:=Tryz.underlying191
 a35:=Tryz.isAgg191
 z35:=Tryz.sizeOf191
 v35:=Tryz.zeroValue191
 t36:=Tryz.underlying192
 a36:=Tryz.isAgg192
 z36:=Tryz.sizeOf192
 v36:=Tryz.zeroValue192
 t41:=Tryz.underlying50
 a41:=Tryz.isAgg50
 z41:=Tryz.sizeOf50
 v41:=Tryz.zeroValue50
 t44:=Tryz.underlying198
 a44:=Tryz.isAgg198
 z44:=Tryz.sizeOf198
 v44:=Tryz.zeroValue198
 t46:=Tryz.underlying200
 a46:=Tryz.isAgg200
 z46:=Tryz.sizeOf200
 v46:=Tryz.zeroValue200
 t53:=Tryz.underlying213
 a53:=Tryz.isAgg213
 z53:=Tryz.sizeOf213
 v53:=Tryz.zeroValue213
 t57:=Tryz.underlying217
 a57:=Tryz.isAgg217
 z57:=Tryz.sizeOf217
 v57:=Tryz.zeroValue217
 t63:=Tryz.underlying221
 a63:=Tryz.isAgg221
 z63:=Tryz.sizeOf221
 v63:=Tryz.zeroValue221
 t64:=Tryz.underlying45
 a64:=Tryz.isAgg45
 z64:=Tryz.sizeOf45
 v64:=Tryz.zeroValue45}
theorem flat_fI (l:List Int):l.flatMap fI=l.map (Value.int .i64):=by
 induction l with
 | nil=>rfl
 | cons x l ih=>rw [List.flatMap_cons,ih];rfl
theorem sort_any {base:Nat} {v:Value} {l:List Int} (w:World) (h:Own w base 3 1 fI v l) (hl:l.length≤1000) :
  Calls Tryz.prog 83 #[v] w fun e w'=>e= .returned (.tuple #[])∧w.grownBy w' v.ownBlock∧Own w' base 3 1 fI v (l.mergeSort fun x y=>decide (x≤y)):=by
 rcases h.2 with⟨rfl,hn⟩|⟨g,cap,cur,rfl,hb,hg,h1,h2,h3,h4⟩
 ·obtain rfl:=List.eq_nil_of_length_eq_zero hn
  refine (AnyM.slices_Sort_int_none Tryz.sortA none 0 w).mono ?_
  rintro e w' ⟨rfl,rfl⟩
  exact⟨rfl,World.grownBy.refl _ _,by simpa using Own.nil _ _ _ _ _⟩
 ·have hH:Holds (Value.int .i64) w g 0 l.toArray:=holds_of_blockI hg (by rw [←flat_fI];simpa using h4)
  refine (AnyM.slices_Sort_int Tryz.sortA g 0 cap l w hH (Array.getElem?_eq_some_iff.1 hg).1 (by omega)).mono ?_
  rintro e w' ⟨rfl,n,os,rfl⟩
  refine⟨rfl,grownBy_sortedI _, ?_⟩
  have:=ownsRow_sortedI (w:=w) (n:=n) (e:=3) (os:=os) (cur:=cur) (ss:=l) (ts:=l.mergeSort fun x y=>decide (x≤y)) (List.length_mergeSort l) hb hg h1 h2 h3
  unfold Own
  rw [flat_fI,List.length_mergeSort]
  exact this
open Go.RowKit Go.Shelf Go.Sort
def Tryz.compA_ren:Go.Shelf.Ren:=⟨fun|20=>84|n=>n,fun n=>n,fun n=>n⟩
theorem Tryz.compA:Lays2.n20 Tryz.prog Tryz.compA_ren where
 mixed:=by kernel_rfl
 f20:=Tryz.func84.trans (congrArg some (by kernel_rfl))
 t0:=Tryz.underlying0
 a0:=Tryz.isAgg0
 z0:=Tryz.sizeOf0
 v0:=Tryz.zeroValue0
 t3:=Tryz.underlying3
 a3:=Tryz.isAgg3
 z3:=Tryz.sizeOf3
 v3:=Tryz.zeroValue3
 t4:=Tryz.underlying4
 a4:=Tryz.isAgg4
 z4:=Tryz.sizeOf4
 v4:=Tryz.zeroValue4
 t22:=Tryz.underlying22
 a22:=Tryz.isAgg22
 z22:=Tryz.sizeOf22
 v22:=Tryz.zeroValue22
 i3:=by kernel_rfl
theorem sort_more {base:Nat} {v:Value} {l:List Int} (w:World) (h:Own w base 3 1 fI v l) (hl:l.length≤100000) :
  Calls Tryz.prog 83 #[v] w fun e w'=>e= .returned (.tuple #[])∧w.grownBy w' v.ownBlock∧Own w' base 3 1 fI v (l.mergeSort fun x y=>decide (x≤y)):=by
 rcases h.2 with⟨rfl,hn⟩|⟨g,cap,cur,rfl,hb,hg,h1,h2,h3,h4⟩
 ·obtain rfl:=List.eq_nil_of_length_eq_zero hn
  refine (AnyM.slices_Sort_int_none Tryz.sortA none 0 w).mono ?_
  rintro e w' ⟨rfl,rfl⟩
  exact⟨rfl,World.grownBy.refl _ _,by simpa using Own.nil _ _ _ _ _⟩
 ·have hH:Holds (Value.int .i64) w g 0 l.toArray:=holds_of_blockI hg (by rw [←flat_fI];simpa using h4)
  refine (AnyM.slices_Sort_int Tryz.sortA g 0 cap l w hH (Array.getElem?_eq_some_iff.1 hg).1 (by omega)).mono ?_
  rintro e w' ⟨rfl,n,os,rfl⟩
  refine⟨rfl,grownBy_sortedI _, ?_⟩
  have:=ownsRow_sortedI (w:=w) (n:=n) (e:=3) (os:=os) (cur:=cur) (ss:=l) (ts:=l.mergeSort fun x y=>decide (x≤y)) (List.length_mergeSort l) hb hg h1 h2 h3
  unfold Own
  rw [flat_fI,List.length_mergeSort]
  exact this
theorem compact_le (l:List Int):(Lib.compact l).length≤l.length:=by
 unfold Lib.compact Lib.compactUpTo
 rw [List.length_map]
 exact Nat.le_trans (List.length_filter_le _ _) (by simp)
theorem Sl.prefix {α : Type} {w:World} {B size:Nat} {C: α→List Value→Prop} {A:Option Addr} {l m:List α} (h:Sl w B size C A (l ++ m)):Sl w B size C A l:=by
 intro hl
 obtain⟨b,off,e,hb,hc⟩:=h (by intro e;exact hl (List.append_eq_nil_iff.1 e).1)
 refine⟨b,off,e,hb,fun i x hx=> ?_⟩
 exact hc i x (by rw [List.getElem?_append_left (by have:=(List.getElem?_eq_some_iff.1 hx).1;exact this)];exact hx)
theorem compact_any {base:Nat} {v:Value} {l:List Int} (w:World) (h:Own w base 3 1 fI v l) (hl:l.length≤100000) :
  Calls Tryz.prog 84 #[v] w fun e w'=>∃A c,e= .returned (.slice A (Lib.compact l).length c)∧w.grownBy w' v.ownBlock∧Sl w' w'.heap.size 1 CI A (Lib.compact l)∧(Lib.compact l).length≤c:=by
 rcases h.2 with⟨rfl,hn⟩|⟨g,cap,cur,rfl,hb,hg,h1,h2,h3,h4⟩
 ·obtain rfl:=List.eq_nil_of_length_eq_zero hn
  refine (Any.slices_Compact_int_empty Tryz.compA none 0 w).mono ?_
  rintro e w' ⟨rfl,rfl⟩
  exact⟨none,0,rfl,World.grownBy.refl _ _,by intro h;exact absurd rfl h,Nat.le_refl _⟩
 ·have hH:Holds (Value.int .i64) w g 0 l.toArray:=holds_of_blockI hg (by rw [←flat_fI];simpa using h4)
  refine (Any.slices_Compact_int Tryz.compA g 0 cap l w hH (by omega) (by omega)).mono ?_
  rintro e w' ⟨rfl,n,rfl⟩
  have hlen:(Lib.compact l ++ List.replicate (l.length - (Lib.compact l).length) (0:Int)).length=l.length:=by
   have:=compact_le l
   rw [List.length_append,List.length_replicate];omega
  have ho:=ownsRow_sortedI (w:=w) (n:=n) (e:=3) (os:=#[]) (cur:=cur) (ss:=l) (ts:=Lib.compact l ++ List.replicate (l.length - (Lib.compact l).length) (0:Int)) hlen hb hg h1 h2 h3
  have hgr:=grownBy_sortedI (w:=w) (g:=g) (n:=n) (os:=#[]) (Lib.compact l ++ List.replicate (l.length - (Lib.compact l).length) (0:Int)).toArray
  rw [grow_empty] at ho hgr
  have ho':Own (putRow (Value.int .i64) (Sort.ahead w n) g 0 (Lib.compact l ++ List.replicate (l.length - (Lib.compact l).length) (0:Int)).toArray) base 3 1 fI (.slice (some ⟨g,0,none⟩) l.length cap) (Lib.compact l ++ List.replicate (l.length - (Lib.compact l).length) (0:Int)):=by
   unfold Own
   rw [flat_fI,hlen]
   exact ho
  refine⟨some ⟨g,0,none⟩,cap,rfl,hgr, ?_,by have:=compact_le l;omega⟩
  exact Sl.prefix ((ho'.sl fI_len (by rw [hlen])).more (fun x cs h=>h) (Nat.le_refl _))
end Go.Proofs.YtfhkbbjddjddmaaGreat
