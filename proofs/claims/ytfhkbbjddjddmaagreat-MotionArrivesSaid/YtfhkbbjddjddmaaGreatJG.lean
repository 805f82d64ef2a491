/- Texts Nw G1 S1 S2 G2 G3 G4 G5. -/
import Derived.Test.YtfhkbbjddjddmaaGreatJD
import Derived.Test.YtfhkbbjddjddmaaGreatF2
import Derived.Test.YtfhkbbjddjddmaaGreatMem
import Derived.Test.YtfhkbbjddjddmaaGreatProg
import Derived.WalkKit
import Derived.Lib.Hide
import Derived.Outline
import Derived.BigQuiet
import Derived.Deep.QuietTactic
import Derived.Deep.LoopGhost
import Derived.Test.YtfhkbbjddjddmaaGreatOwn
import Derived.Deep.DeepMust
import Derived.RegionTactic
import Derived.Test.YtfhkbbjddjddmaaGreatJC
import Derived.Deep.RegionHeld3
set_option linter.unusedVariables false
set_option linter.unusedSimpArgs false
open Go.Value renaming int→O
open Go.IntKind renaming i64→U
open Go.Lib renaming hid→Z
namespace Go.Proofs.YtfhkbbjddjddmaaGreat
open Go.RowKit
def SlRow (w:World) (B b M:Nat) (f:Nat→List Int):Prop:=
  b<B∧∀x,x<M→∃A c,w.cell? ⟨b,x,none⟩=some (.slice A (f x).length c)∧(f x).length≤c∧c≤maxLen∧Sl w B 1 CI A (f x)
theorem SlRow.below {w w':World} {B b M:Nat} {f:Nat→List Int} (h:SlRow w B b M f) (hb:Below B w w'):SlRow w' B b M f:=
  ⟨h.1,fun x hx=>by
    obtain⟨A,c,h1,h2,h3,h4⟩:=h.2 x hx
    exact⟨A,c,(hb.cell (p:=⟨b,x,none⟩) h.1).trans h1,h2,h3,h4.below hb⟩⟩
theorem SlRow.more {w:World} {B B' b M:Nat} {f:Nat→List Int} (h:SlRow w B b M f) (hb:B≤B'):SlRow w B' b M f:=
  ⟨Nat.lt_of_lt_of_le h.1 hb,fun x hx=>by
    obtain⟨A,c,h1,h2,h3,h4⟩:=h.2 x hx
    exact⟨A,c,h1,h2,h3,h4.more (fun _ _ h=>h) hb⟩⟩
theorem fI_CI {w:World} {B:Nat} {A:Option Addr} {l:List Int} (h:Sl w B 1 (fun x cs=>cs=fI x) A l):Sl w B 1 CI A l:=h.more (fun _ _ h=>h) (Nat.le_refl _)
theorem SlRow.of {w:World} {b base M B:Nat} {vs:List Value} {f:Nat→List Int} (hv:VRow w b vs) (hl:vs.length=M) (hB:w.heap.size≤B)
    (hf:∀(j:Nat) (v:Value),vs[j]? = some v→Own w base 3 1 fI v (f j)):SlRow w B b M f:=by
  refine⟨Nat.lt_of_lt_of_le hv.lt hB,fun x hx=> ?_⟩
  obtain⟨v,hv1⟩:∃v,vs[x]? = some v:=⟨_,List.getElem?_eq_getElem (by omega)⟩
  have ho:=hf x v hv1
  obtain⟨A,c,rfl,h1,h2,_⟩:=ho.form
  exact⟨A,c,(hv.cell x).trans hv1,h1,h2,(fI_CI (ho.sl fI_len rfl)).more (fun _ _ h=>h) hB⟩
structure Nw (w:World) (B g:Nat) (p:Pl):Prop where
  v:Vld p
  gB:g<B
  net:∃(A:Option Addr) (c:Nat) (A2:Option Addr) (c2 lb sb nb bb:Nat),
    Net w g A c A2 c2 p (.slice (some ⟨lb,0,none⟩) p.rails.length p.rails.length) (.slice (some ⟨sb,0,none⟩) (2 * p.rails.length) (2 * p.rails.length)) (.slice (some ⟨nb,0,none⟩) (2 * p.rails.length) (2 * p.rails.length)) (.slice (some ⟨bb,0,none⟩) (2 * p.rails.length) (2 * p.rails.length))∧
    lb<B∧sb<B∧IRow w lb (lensOf p)∧IRow w sb (slotsOf p)∧SlRow w B nb (2 * p.rails.length) (nextL p)∧SlRow w B bb (2 * p.rails.length) (befL p (2 * p.rails.length))
theorem Nw.below {w w':World} {B g:Nat} {p:Pl} (h:Nw w B g p) (hb:Below B w w'):Nw w' B g p:=by
  obtain⟨A,c,A2,c2,lb,sb,nb,bb,hN,h1,h2,h3,h4,h5,h6⟩:=h.net
  exact⟨h.v,h.gB,A,c,A2,c2,lb,sb,nb,bb,hN.below hb h.gB,h1,h2,h3.below hb h1,h4.below hb h2,h5.below hb,h6.below hb⟩
theorem Nw.more {w:World} {B B' g:Nat} {p:Pl} (h:Nw w B g p) (hb:B≤B'):Nw w B' g p:=by
  obtain⟨A,c,A2,c2,lb,sb,nb,bb,hN,h1,h2,h3,h4,h5,h6⟩:=h.net
  exact⟨h.v,Nat.lt_of_lt_of_le h.gB hb,A,c,A2,c2,lb,sb,nb,bb,hN,by omega,by omega,h3,h4,h5.more hb,h6.more hb⟩
open Go.RowKit
structure SurvPost (p:Pl) (w:World) (e:Ending) (w':World):Prop where
  be:Below w.heap.size w w'
  res:(¬Vld p∧e= .returned (.tuple #[.pointer none,.bool false]))∨(Vld p∧∃g,e= .returned (.tuple #[.pointer (some ⟨g,0,none⟩),.bool true])∧w.heap.size≤g∧Nw w' w'.heap.size g p)
theorem Gr.row {g b:Nat} {w w':World} {l:List Int} (h:Gr g w w') (hr:IRow w b l) (hb:b≠g):IRow w' b l:=
  hr.of (h.block b hr.lt (by intro e;exact hb (Option.some.inj e)))
set_option maxRecDepth 100000 in
set_option maxHeartbeats 4000000 in
theorem survey_any (A A2:Option Addr) (c c2:Nat) (p:Pl) (w:World) (hP:PlAt w w.heap.size A c A2 c2 p) :
    Calls Tryz.prog 98 #[.agg #[.slice A p.nodes.length c,.slice A2 p.rails.length c2]] w (SurvPost p w):=by
  have HN:=Z (show Net ((w.alloc (.cells #[.slice A p.nodes.length c,.slice A2 p.rails.length c2] 60)).alloc (.cells #[.slice A p.nodes.length c,.slice A2 p.rails.length c2,.slice none 0 0,.slice none 0 0,.slice none 0 0,.slice none 0 0] 171)) (w.heap.size+1) A c A2 c2 p (.slice none 0 0) (.slice none 0 0) (.slice none 0 0) (.slice none 0 0) from
    ⟨by have:=heap_alloc_new (w.alloc (.cells #[.slice A p.nodes.length c,.slice A2 p.rails.length c2] 60)) (.cells #[.slice A p.nodes.length c,.slice A2 p.rails.length c2,.slice none 0 0,.slice none 0 0,.slice none 0 0,.slice none 0 0] 171);simpa using this,
     (hP.below (((Below.refl _ w).alloc (Nat.le_refl _) _).alloc (by simp) _)).more (by omega)⟩)
  have hb0:Below w.heap.size w ((w.alloc (.cells #[.slice A p.nodes.length c,.slice A2 p.rails.length c2] 60)).alloc (.cells #[.slice A p.nodes.length c,.slice A2 p.rails.length c2,.slice none 0 0,.slice none 0 0,.slice none 0 0,.slice none 0 0] 171)):=
    ((Below.refl _ w).alloc (Nat.le_refl _) _).alloc (by simp) _
  have HB0:=Z hb0
  clear hb0 hP
  obtain⟨W1,hW1⟩:∃W1,((w.alloc (.cells #[.slice A p.nodes.length c,.slice A2 p.rails.length c2] 60)).alloc (.cells #[.slice A p.nodes.length c,.slice A2 p.rails.length c2,.slice none 0 0,.slice none 0 0,.slice none 0 0,.slice none 0 0] 171))=W1:=⟨_,rfl⟩
  go_enter Tryz.func98,Tryz.ntmps98
  go_wp2_with fail
  rw [hW1] at HN HB0
  clear hW1
  refine (sizesRight_any _ A A2 c c2 p _ _ _ _ _ HN.out).mono ?_
  rintro e w1 ⟨rfl,hb1⟩
  have HN1:=Z (HN.out.below hb1 HN.out.lt)
  have HB1:=Z (HB0.out.trans (hb1.mono HB0.out.size))
  clear hb1 HN HB0
  cases hs:sizesB p
  · have HV:=Z (show ¬Vld p from fun h=>by have:=h.sizes;rw [hs] at this;cases this)
    go_wp2
    go_ret2
    exact⟨HB1.out,.inl ⟨HV.out,rfl⟩⟩
  have HS:=Z hs;clear hs
  go_wp2_with fail
  refine (nodesRight_any _ A A2 c c2 p _ _ _ _ _ HN1.out).mono ?_
  rintro e w2 ⟨rfl,hb2⟩
  have HN2:=Z (HN1.out.below hb2 HN1.out.lt)
  have HB2:=Z (HB1.out.trans (hb2.mono HB1.out.size))
  clear hb2 HN1 HB1
  cases hn:p.nodes.all nodeB
  · have HV:=Z (show ¬Vld p from fun h=>by have:=h.nodes;rw [hn] at this;cases this)
    go_wp2
    go_ret2
    exact⟨HB2.out,.inl ⟨HV.out,rfl⟩⟩
  have HNo:=Z hn;clear hn
  have hm400:p.rails.length≤400:=by have:=of_decide_eq_true HS.out;omega
  have hn300:p.nodes.length≤300:=by have:=of_decide_eq_true HS.out;omega
  go_wp2_with fail
  refine (railsRight_any _ A A2 c c2 p _ _ _ _ _ HN2.out (spots_ok HNo.out) hm400).mono ?_
  rintro e w3 ⟨rfl,hg3,lb,hlb,hN3,hR3⟩
  have HB3:=Z (HB2.out.trans (hg3.toBelow (by have:=HN2.out.lt;omega) |>.mono (by omega)))
  have hgl:w.heap.size+1<w2.heap.size:=HN2.out.lt
  have HG3:=Z hg3
  cases hr:railsB p
  · have HV:=Z (show ¬Vld p from fun h=>by have:=h.rails;rw [hr] at this;cases this)
    clear hR3 hN3 hg3
    go_wp2
    go_ret2
    exact⟨HB3.out,.inl ⟨HV.out,rfl⟩⟩
  have HR3:=Z (hR3 hr)
  have HRr:=Z hr
  have HN3:=Z hN3
  clear hr hR3 hN3 hg3
  go_wp2_with fail
  refine (endsRight_any _ A A2 c c2 p _ _ _ _ _ HN3.out (ends_le4 HNo.out) hm400 hn300).mono ?_
  rintro e w4 ⟨⟨r,rfl,hrk,sb,hsb,hN4,hS4⟩,hg4⟩
  have hz3:w2.heap.size≤w3.heap.size:=HG3.out.size
  have HB4:=Z (HB3.out.trans ((hg4.toBelow (by omega)).mono (by omega)))
  have hlb2:w.heap.size+1≠lb:=by omega
  have HR4:=Z (hg4.row HR3.out (by omega))
  have HG4:=Z hg4
  clear hg4
  cases r
  · have HV:=Z (show ¬Vld p from fun h=>by have:=hrk.2 h.ends;cases this)
    clear hrk hS4 hN4
    go_wp2
    go_ret2
    exact⟨HB4.out,.inl ⟨HV.out,rfl⟩⟩
  have HV:=Z (show Vld p from⟨HS.out,HNo.out,HRr.out,hrk.1 rfl⟩)
  have HS4:=Z (hS4 rfl)
  have HN4:=Z hN4
  clear hrk hS4 hN4
  go_wp2_with fail
  refine (link_any _ sb A A2 c c2 p _ _ _ _ HV.out HN4.out HS4.out (by omega)).mono ?_
  rintro e w5 ⟨rfl,hg5,vs,us,hrw,hN5⟩
  have hz4:w3.heap.size≤w4.heap.size:=HG4.out.size
  have hz5:w4.heap.size≤w5.heap.size:=hg5.size
  have HB5:=Z (HB4.out.trans ((hg5.toBelow (by omega)).mono (by omega)))
  have HQ:=Z (show Nw w5 w5.heap.size (w.heap.size+1) p from
    ⟨HV.out,by omega,A,c,A2,c2,lb,sb,_,_,hN5,Nat.lt_of_lt_of_le HR4.out.lt hz5,Nat.lt_of_lt_of_le HS4.out.lt hz5,hg5.row HR4.out (by omega),hg5.row HS4.out (by omega),SlRow.of hrw.nk hrw.nl (Nat.le_refl _) hrw.fo,SlRow.of hrw.bk hrw.bl (Nat.le_refl _) hrw.ho⟩)
  clear hg5 hrw hN5
  go_wp2
  go_ret2
  exact⟨HB5.out,.inr ⟨HV.out,_,rfl,by omega,HQ.out⟩⟩
open Go.RowKit
open Go.RowKit
theorem not_mem_next {l:List Int} {k:Nat} {v:Int} (hl:k<l.length) (h:v ∉ l.take k) (hne:v≠l[k]):v ∉ l.take (k+1):=by
  rw [List.take_succ_eq_append_getElem hl]
  simp only [List.mem_append,List.mem_singleton,not_or]
  exact⟨h,hne⟩
set_option maxHeartbeats 1000000 in
theorem index_any (A:Option Addr) (l:List Int) (c:Nat) (v:Int) (w:World) (hA:Sl w w.heap.size 1 CI A l) (hl:l.length≤140737488351232) :
    Calls Tryz.prog 154 #[.slice A l.length c,O U v] w fun e w'=>(∃i:Int,e= .returned (O U i)∧(0≤i ↔ v∈l))∧w=w':=by
  go_enter Tryz.func154,Tryz.ntmps154
  go_wp2
  go_loop [8] (fun i=>∃k:Nat,k≤l.length∧i=O U k∧v ∉ l.take k) (fun i=>l.length - (intOf i).toNat)
  case atStart=>exact⟨0,Nat.zero_le _,rfl,by simp⟩
  case round=>
    obtain⟨k,hk,rfl,hn⟩:=hrel
    have HN:=Z hn;clear hn
    by_cases hlt:k<l.length
    · obtain⟨b1,o1,e1,g1,q1⟩:=int_at hA hlt
      obtain⟨x,hx⟩:∃x,l[k]=x:=⟨_,rfl⟩
      rw [hx] at q1
      have HX:=Z hx
      subst e1
      clear hx
      by_cases hxy:v=x
      · have HM:=Z (show v∈l by rw [hxy,←HX.out];exact List.getElem_mem hlt)
        have n1:(v == x)=true:=by simpa using hxy
        clear hxy
        go_wp2
        go_ret
        exact⟨⟨_,rfl,fun _=>HM.out,fun _=>by omega⟩,rfl⟩
      · have HM:=Z (not_mem_next hlt HN.out (by rw [HX.out];exact hxy))
        have n1:(v == x)=false:=by simpa using hxy
        clear hxy
        go_wp2
        go_round
        case rel=>exact⟨k+1,by omega,by go_num,HM.out⟩
        case measure=>simp [intOf];omega
    · obtain rfl:k=l.length:=by omega
      have HQ:=Z (show v ∉ l by have:=HN.out;rwa [List.take_length] at this)
      go_wp2
      go_ret
      exact⟨⟨_,rfl,fun h=>absurd h (by omega),fun h=>absurd h HQ.out⟩,rfl⟩
set_option maxHeartbeats 1000000 in
theorem contains_any (A:Option Addr) (l:List Int) (c:Nat) (v:Int) (w:World) (hA:Sl w w.heap.size 1 CI A l) (hl:l.length≤140737488351232) :
    Calls Tryz.prog 144 #[.slice A l.length c,O U v] w fun e w'=>e= .returned (.bool (decide (v∈l)))∧w=w':=by
  go_enter Tryz.func144,Tryz.ntmps144
  go_wp2_with fail
  refine (index_any A l c v _ hA hl).mono ?_
  rintro e w1 ⟨⟨i,rfl,hi⟩,rfl⟩
  by_cases h:0≤i
  · have HD:=Z (show decide (v∈l)=true by simpa using hi.1 h)
    clear hi
    go_wp2
    go_ret
    exact⟨by rw [HD.out];rfl,rfl⟩
  · have HD:=Z (show decide (v∈l)=false by simpa using fun hm=>h (hi.2 hm))
    have hd:decide (0≤i)=false:=by simpa using h
    clear hi
    go_wp2
    go_ret
    exact⟨by rw [HD.out];rfl,rfl⟩
open Go.RowKit
def railIn (p:Pl) (r:Int):Bool:=decide (0≤r∧r<p.rails.length)
theorem Nw.sizes {w:World} {B g:Nat} {p:Pl} (h:Nw w B g p):1≤p.nodes.length∧p.nodes.length≤300∧1≤p.rails.length∧p.rails.length≤400:=by
  have:=of_decide_eq_true h.v.sizes;omega
set_option maxHeartbeats 1000000 in
theorem hasRail_any (B g:Nat) (p:Pl) (r:Int) (w:World) (h:Nw w B g p) :
    Calls Tryz.prog 121 #[.pointer (some ⟨g,0,none⟩),O U r] w fun e w'=>e= .returned (.bool (railIn p r))∧w=w':=by
  obtain⟨A,c,A2,c2,lb,sb,nb,bb,hN,h1,h2,h3,h4,h5,h6⟩:=h.net
  obtain⟨c0,c1,_,_,_,_⟩:=hN.cell
  have hrc:=hN.pl.rc;have hrm:=hN.pl.rm
  by_cases g0:0≤r
  · by_cases g1:r<p.rails.length
    · have HD:=Z (show railIn p r=true by simp [railIn,g0,g1])
      have d0:decide (0≤r)=true:=by simpa using g0
      have d1:decide (r<(p.rails.length:Int))=true:=by simpa using g1
      clear hN h h3 h4 h5 h6
      go_enter Tryz.func121,Tryz.ntmps121
      go_wp2
      go_ret
      exact⟨by rw [HD.out];rfl,rfl⟩
    · have HD:=Z (show railIn p r=false by simp [railIn,g1])
      have d0:decide (0≤r)=true:=by simpa using g0
      have d1:decide (r<(p.rails.length:Int))=false:=by simpa using g1
      clear hN h h3 h4 h5 h6
      go_enter Tryz.func121,Tryz.ntmps121
      go_wp2
      go_ret
      exact⟨by rw [HD.out];rfl,rfl⟩
  · have HD:=Z (show railIn p r=false by simp [railIn,g0])
    have d0:decide (0≤r)=false:=by simpa using g0
    clear hN h h3 h4 h5 h6
    go_enter Tryz.func121,Tryz.ntmps121
    go_wp2
    go_ret
    exact⟨by rw [HD.out];rfl,rfl⟩
theorem nextL_len (p:Pl) (x:Nat):(nextL p x).length≤2:=by
  unfold nextL;rw [List.length_mergeSort];exact leaveL_le2 p x
def folB (p:Pl) (m:Nat) (n:Int):Bool:=decide (n∈nextL p m)
theorem folB_iff (p:Pl) (m:Nat) (n:Int):folB p m n=true ↔ n∈nextL p m:=by simp [folB]
set_option maxHeartbeats 1000000 in
theorem follows_any (B g:Nat) (p:Pl) (m:Nat) (n:Int) (w:World) (h:Nw w B g p) (hB:B≤w.heap.size) (hm:m<2 * p.rails.length) :
    Calls Tryz.prog 122 #[.pointer (some ⟨g,0,none⟩),O U (m:Int),O U n] w fun e w'=>e= .returned (.bool (folB p m n))∧w=w':=by
  have hsz:=h.sizes
  obtain⟨A,c,A2,c2,lb,sb,nb,bb,hN,h1,h2,h3,h4,h5,h6⟩:=h.net
  obtain⟨_,_,_,_,c4,_⟩:=hN.cell
  obtain⟨An,cn,k0,k1,k2,k3⟩:=h5.2 m hm
  have hl:=nextL_len p m
  have hS:Sl w w.heap.size 1 CI An (nextL p m):=k3.more (fun _ _ h=>h) hB
  have HS:=Z hS
  clear hN h h3 h4 h5 h6 hS k3
  go_enter Tryz.func122,Tryz.ntmps122
  go_wp2_with fail
  refine (contains_any An (nextL p m) cn n _ HS.out (by omega)).mono ?_
  rintro e w1 ⟨rfl,rfl⟩
  rw [show decide (n∈nextL p m)=folB p m n from rfl]
  go_wp2
  go_ret
  exact⟨rfl,rfl⟩
theorem atN_eq {p:Pl} {x k:Nat} (h:nodeAtZ p (x:Int)=(k:Int)) (hk:k<p.nodes.length):atN p x=p.nodes[k]:=by
  simp [atN,h,hk]
theorem slAt_eq {p:Pl} {x:Nat} (hx:x<(slotsOf p).length):(slotsOf p)[x]=slAt p x:=by simp [slAt,hx]
open Go.RowKit
theorem PlAt.box {w:World} {A A2:Option Addr} {c c2:Nat} {p:Pl} (h:PlAt w w.heap.size A c A2 c2 p) (o:Obj):PlAt (w.alloc o) (w.alloc o).heap.size A c A2 c2 p:=
  (h.below ((Below.refl _ _).alloc (Nat.le_refl _) _)).more (by simp)
theorem cell_keep1G {w:World} {b i:Nat} {o:Obj} {v:Option Value} (h:w.cell? ⟨b,i,none⟩=v) (hb:b<w.heap.size):(w.alloc o).cell? ⟨b,i,none⟩=v:=
  (((Below.refl w.heap.size w).alloc (Nat.le_refl _) o).cell (p:=⟨b,i,none⟩) hb).trans h
theorem cell_new1G (w:World) (cs:Array Value) (t:TypeId) (i:Nat):(w.alloc (.cells cs t)).cell? ⟨w.heap.size,i,none⟩=cs[i]? :=
  cell_of_row _ w.heap.size i _ t (0,0) (heap_alloc_new w _)
theorem box_cells3 (w:World) (a b c:Array Value) (t1 t2 t3:TypeId) (i:Nat) :
    (((w.alloc (.cells a t1)).alloc (.cells b t2)).alloc (.cells c t3)).cell? ⟨w.heap.size+1,i,none⟩=b[i]?∧(((w.alloc (.cells a t1)).alloc (.cells b t2)).alloc (.cells c t3)).cell? ⟨w.heap.size+1+1,i,none⟩=c[i]?:=by
  have h1:=cell_new1G (w.alloc (.cells a t1)) b t2 i
  have h2:=cell_new1G ((w.alloc (.cells a t1)).alloc (.cells b t2)) c t3 i
  rw [show (w.alloc (.cells a t1)).heap.size=w.heap.size+1 by simp] at h1
  rw [show ((w.alloc (.cells a t1)).alloc (.cells b t2)).heap.size=w.heap.size+1+1 by simp] at h2
  exact⟨cell_keep1G h1 (by simp),h2⟩
theorem cell_alloc_ltG (w:World) (o:Obj) {b i:Nat} (hb:b<w.heap.size):(w.alloc o).cell? ⟨b,i,none⟩=w.cell? ⟨b,i,none⟩:=
  ((Below.refl w.heap.size w).alloc (Nat.le_refl _) o).cell (p:=⟨b,i,none⟩) hb
theorem row2 {w:World} {K:Nat} {x y:Value} {t:TypeId} (h:w.heap[K]? = some (.cells #[x,y] t)) :
    w.cell? ⟨K,0,none⟩=some x∧w.cell? ⟨K,1,none⟩=some y∧w.frozen? ⟨K,0,none⟩=false∧w.frozen? ⟨K,1,none⟩=false:=
  ⟨cell_of_row _ _ 0 _ _ _ h,cell_of_row _ _ 1 _ _ _ h,by unfold World.frozen?;rw [h];simp,by unfold World.frozen?;rw [h];simp⟩
def lenAt (p:Pl) (r:Int):Int:=((lensOf p)[r.toNat]?).getD 0
theorem lens_len (p:Pl):(lensOf p).length=p.rails.length:=by simp [lensOf]
def R0:R:=⟨0,0, [],0,0⟩
theorem Vld.rail {p:Pl} (h:Vld p) {k:Nat} (hk:k<p.rails.length):railB p.nodes.length p.rails[k]=true∧okL (lineOf p p.rails[k])=true:=by
  have:=List.all_eq_true.1 h.rails _ (List.getElem_mem hk)
  simpa [railOk] using this
theorem key_lt {p:Pl} {m:E} (h:railIn p m.rail=true):((keyE m:Nat):Int)=endNo m∧keyE m<2 * p.rails.length:=by
  have h2:=of_decide_eq_true h
  unfold keyE endNo
  split <;> omega
theorem number_gen (r:Int) (b:Bool) (w:World) (h0:0≤r) (h1:r≤1000000) :
    Calls Tryz.prog 123 #[.agg #[O U r,.bool b]] w fun e w'=>e= .returned (O U (endNo ⟨r,b⟩))∧Below w.heap.size w w':=number_any ⟨r,b⟩ w h0 h1
open Go.RowKit
def wlen (p:Pl) (l:List Int):Int:=(l.map fun x=>lenAt p (x / 2)).sum
theorem wlen_succ (p:Pl) (l:List Int) {k:Nat} (h:k<l.length):wlen p (l.take (k+1))=wlen p (l.take k)+lenAt p (l[k] / 2):=by
  unfold wlen;rw [List.take_succ_eq_append_getElem h,List.map_append,List.sum_append];simp
theorem lenOf_le (L:List S):lenOf L≤L.length * 33554432:=by
  exact Nat.le_trans (lenTo_le L (L.length - 1)) (Nat.mul_le_mul_right _ (Nat.sub_le _ _))
theorem lenAt_bd {p:Pl} (hV:Vld p) (r:Int):0≤lenAt p r∧lenAt p r≤1107296256:=by
  unfold lenAt
  by_cases h:r.toNat<(lensOf p).length
  · rw [List.getElem?_eq_getElem h]
    have hl:r.toNat<p.rails.length:=by rw [←lens_len p];exact h
    have:(lensOf p)[r.toNat]=lenZ p p.rails[r.toNat]:=by simp [lensOf]
    simp only [Option.getD_some,this,lenZ]
    have h1:=lenOf_le (lineOf p p.rails[r.toNat])
    have h2:=(railB_ix (hV.rail hl).1).2.2
    have h3:(lineOf p p.rails[r.toNat]).length≤33:=by simp [lineOf];omega
    have h4:(lineOf p p.rails[r.toNat]).length * 33554432≤33 * 33554432:=Nat.mul_le_mul_right _ h3
    omega
  · rw [List.getElem?_eq_none (by omega)];simp
theorem wlen_bd {p:Pl} (hV:Vld p) (l:List Int):0≤wlen p l∧wlen p l≤l.length * 1107296256:=by
  induction l with
  | nil=>simp [wlen]
  | cons x l ih=>
    have:=lenAt_bd hV (x / 2)
    simp only [wlen,List.map_cons,List.sum_cons,List.length_cons] at ih ⊢
    push_cast
    omega
theorem lens_get {p:Pl} {k:Nat} (hk:k<p.rails.length):(lensOf p)[k]'(by rw [lens_len];exact hk)=lenAt p (k:Int):=by simp [lenAt,lens_len,hk]
set_option maxHeartbeats 1000000 in
theorem wayLength_any (B g:Nat) (p:Pl) (A:Option Addr) (l:List Int) (c:Nat) (w:World) (h:Nw w B g p) (hA:Sl w w.heap.size 1 CI A l) (hl:l.length≤100000) (hr:∀x∈l,0≤x∧x<2 * (p.rails.length:Int)) :
    Calls Tryz.prog 68 #[.pointer (some ⟨g,0,none⟩),.slice A l.length c] w fun e w'=>e= .returned (O U (wlen p l))∧w=w':=by
  have hsz:=h.sizes
  obtain⟨A1,c1,A2,c2,lb,sb,nb,bb,hN,h1,h2,h3,h4,h5,h6⟩:=h.net
  obtain⟨_,_,q2,_,_,_⟩:=hN.cell
  have HV:=Z h.v
  have HR:=Z hr
  have H3:=Z h3
  clear hN h h3 h4 h5 h6 hr
  go_enter Tryz.func68,Tryz.ntmps68
  go_wp2
  go_loop [5,10] (fun s i=>∃k:Nat,k≤l.length∧i=O U k∧s=O U (wlen p (l.take k))) (fun _ i=>l.length - (intOf i).toNat)
  case atStart=>exact⟨0,Nat.zero_le _,rfl,by simp [wlen]⟩
  case round=>
    obtain⟨k,hk,rfl,rfl⟩:=hrel
    by_cases hlt:k<l.length
    · obtain⟨b1,o1,e1,g1,q1⟩:=int_at hA hlt
      obtain⟨x,hx⟩:∃x,l[k]=x:=⟨_,rfl⟩
      have hx01:=HR.out x (by rw [←hx];exact List.getElem_mem hlt)
      obtain⟨hx0,hx1⟩:=hx01
      obtain⟨n,rfl⟩:=Int.eq_ofNat_of_zero_le hx0
      rw [hx] at q1
      have hn:n / 2<p.rails.length:=by omega
      have z:=H3.out.cell (i:=n / 2) (by rw [lens_len];exact hn)
      rw [lens_get hn] at z
      have HX:=Z (show wlen p (l.take (k+1))=wlen p (l.take k)+lenAt p ((n / 2:Nat):Int) by rw [wlen_succ p l hlt,hx];congr 2)
      have hb1:=lenAt_bd HV.out ((n / 2:Nat):Int)
      obtain⟨y,hy⟩:∃y,lenAt p ((n / 2:Nat):Int)=y:=⟨_,rfl⟩
      rw [hy] at z hb1
      obtain⟨s,hs⟩:∃s,wlen p (l.take k)=s:=⟨_,rfl⟩
      have hb2:=wlen_bd HV.out (l.take k)
      rw [hs] at hb2
      have hlk:(l.take k).length≤k:=List.length_take_le _ _
      have hs2:s≤110729625600000:=by omega
      rw [hs]
      have HX2:=Z (show wlen p (l.take (k+1))=s+y by rw [HX.out,hs,hy])
      obtain⟨hy0,hy1⟩:=hb1
      obtain⟨hs0,_⟩:=hb2
      subst e1
      clear hx hy hs HX hlk
      go_wp2
      go_round
      case rel=>exact⟨k+1,by omega,by go_num,by rw [HX2.out]⟩
      case measure=>simp [intOf];omega
    · obtain rfl:k=l.length:=by omega
      have HQ:=Z (show wlen p (l.take l.length)=wlen p l by rw [List.take_length])
      go_wp2
      go_ret
      exact⟨by rw [←HQ.out];rfl,rfl⟩
def E1' (l:List E) (k:Nat):E:=(l[k]?).getD E0
def wayTo (p:Pl) (l:List E) (k:Nat):Prop:=∀j,j<k→railIn p (E1' l j).rail=true∧(0<j→folB p (keyE (E1' l (j - 1))) (endNo (E1' l j))=true)
def wayOk (p:Pl) (l:List E):Prop:=1≤l.length∧l.length≤2000∧wayTo p l l.length
theorem E1_eq {l:List E} {k:Nat} (h:k<l.length):E1' l k=l[k]:=by simp [E1',h]
theorem wayTo.step {p:Pl} {l:List E} {k:Nat} (h:wayTo p l k) (h1:railIn p (E1' l k).rail=true) (h2:0<k→folB p (keyE (E1' l (k - 1))) (endNo (E1' l k))=true):wayTo p l (k+1):=fun j hj=>by
  by_cases e:j=k
  · subst e;exact⟨h1,h2⟩
  · exact h j (by omega)
theorem map_take_succ {α β : Type} {l:List α} {f: α→β} {k:Nat} (h:k<l.length):(l.take (k+1)).map f=(l.take k).map f ++ [f l[k]]:=by
  rw [List.take_succ_eq_append_getElem h,List.map_append];rfl
def WayPost (p:Pl) (l:List E) (w:World) (e:Ending) (w':World):Prop:=
  ((wayOk p l∧∃v,e= .returned (.tuple #[v,.bool true])∧Own w' w.heap.size 3 1 fI v (l.map endNo))∨(¬wayOk p l∧e= .returned (.tuple #[.slice none 0 0,.bool false])))∧Below w.heap.size w w'
set_option maxRecDepth 100000 in
set_option maxHeartbeats 4000000 in
theorem way_any (B g:Nat) (p:Pl) (A:Option Addr) (l:List E) (c:Nat) (w:World) (h:Nw w B g p) (hB:B≤w.heap.size) (hA:Sl w w.heap.size 2 CE A l) (hl:l.length≤140737488351232) :
    Calls Tryz.prog 99 #[.pointer (some ⟨g,0,none⟩),.slice A l.length c] w (WayPost p l w):=by
  have hsz:=h.sizes
  have HN:=Z h
  clear h
  by_cases l1:l.length<1
  · have d1:decide ((l.length:Int)<1)=true:=by simp;omega
    have d2:decide (l.length<1)=true:=by rw [decide_eq_true_iff];exact l1
    have HW:=Z (show ¬wayOk p l from fun h=>by have:=h.1;omega)
    clear l1
    go_enter Tryz.func99,Tryz.ntmps99
    go_wp2
    go_ret2
    exact⟨.inr ⟨HW.out,rfl⟩,Below.refl _ _⟩
  have d1:decide ((l.length:Int)<1)=false:=by simp;omega
  by_cases l2:2000<l.length
  · have d2:decide (2000<(l.length:Int))=true:=by simp;omega
    have HW:=Z (show ¬wayOk p l from fun h=>by have:=h.2.1;omega)
    go_enter Tryz.func99,Tryz.ntmps99
    go_wp2
    go_ret2
    exact⟨.inr ⟨HW.out,rfl⟩,Below.refl _ _⟩
  have d2:decide (2000<(l.length:Int))=false:=by simp;omega
  obtain⟨i0,hi,hz0,hz1,hz2⟩:=info_parts info3
  have hmk:=fun W:World=>run_mk (P:=Tryz.prog) 22 3 i0 _ 1 Tryz.underlying22 hi hz0 hz1 0 (l.length:Int) 0 l.length rfl rfl (by omega) (by rw [hz2];omega) (by omega) W
  have HO:=Z (show Own (w.alloc (.cells (madeCells #[O U 0] (l.length * 1)) 3)) w.heap.size 3 1 fI (.slice (some ⟨w.heap.size,0,none⟩) 0 l.length) [] from
    Own.made w _ _ (Nat.le_refl _) (by simp [maxLen];omega) (by simp [madeCells]))
  go_enter Tryz.func99,Tryz.ntmps99
  go_wp2
  clear hmk
  go_loopw [6,22] (fun v i wr=>∃k:Nat,k≤l.length∧i=O U k∧wayTo p l k∧Own wr w.heap.size 3 1 fI v ((l.take k).map endNo)∧Below w.heap.size w wr) (fun _ i _=>l.length - (intOf i).toNat)
  case atStart=>exact⟨0,Nat.zero_le _,rfl,fun j hj=>absurd hj (by omega),by simpa using HO.out,(Below.refl _ _).alloc (Nat.le_refl _) _⟩
  case round=>
    obtain⟨k,hk,rfl,hw,ho,hb⟩:=hrel
    clear HO
    have HW:=Z hw
    clear hw
    by_cases hlt:k<l.length
    · obtain⟨b1,o1,e1,g1,q0,q1⟩:=end_at (hA.below hb) hlt
      obtain⟨⟨mr,ml⟩,hx⟩:∃x,l[k]=x:=⟨_,rfl⟩
      have HX:=Z (show E1' l k=⟨mr,ml⟩ by rw [E1_eq hlt];exact hx)
      rw [hx] at q0 q1
      have HT:=Z (show (l.take (k+1)).map endNo=(l.take k).map endNo ++ [endNo ⟨mr,ml⟩] by rw [map_take_succ hlt,hx])
      subst e1
      have hzw:=hb.size
      have HB:=Z hb;have HO:=Z ho
      have HNr:=Z (show Nw wr B g p from HN.out.below (hb.mono hB))
      clear hx hb ho
      go_wp2_with fail
      refine (hasRail_any B g p mr _ (HNr.out.below ((Below.refl B wr).alloc (Nat.le_trans hB hzw) _))).mono ?_
      rintro e w2 ⟨rfl,rfl⟩
      cases hr:railIn p mr
      · have HR:=Z (show ¬wayOk p l from fun h=>by have:=(h.2.2 k hlt).1;rw [HX.out] at this;rw [hr] at this;cases this)
        go_wp2
        go_ret2
        exact⟨.inr ⟨HR.out,rfl⟩,HB.out.alloc (by omega) _⟩
      have HR:=Z hr
      have hr2:=of_decide_eq_true hr
      have hr0:=hr2.1
      have hr1:mr≤1000000:=by omega
      have hlen:((l.take k).map endNo).length≤k:=by simp;omega
      clear hr hr2
      have y0:=cell_new1G wr #[O U mr,.bool ml] 77 0
      have y1:=cell_new1G wr #[O U mr,.bool ml] 77 1
      simp only [List.getElem?_toArray,List.getElem?_cons_zero,List.getElem?_cons_succ] at y0 y1
      rcases k with _|j
      · have HW2:=Z (HW.out.step (by rw [HX.out];exact HR.out) (fun h=>absurd h (by omega)))
        have d3:decide ((0:Int)<((0:Nat):Int))=false:=by simp
        go_wp2
        go_quiet (fail)
        go_wp2_with fail
        refine (number_gen mr ml _ hr0 hr1).mono ?_
        rintro e w3 ⟨rfl,hb3⟩
        have HBX:=Z (((Below.refl wr.heap.size wr).alloc (Nat.le_refl _) (.cells #[O U mr,.bool ml] 77)).trans ((bDrewN (Below.refl _ _) nq).trans hb3 |>.mono (by simp)))
        have hz3:wr.heap.size≤w3.heap.size:=HBX.out.size
        have HO1:=Z (HO.out.below HBX.out (Nat.le_refl _))
        clear hb3
        go_wp2_with (at_builtin;go_must (refine wpList_app _ rfl (.tmp 46) (.tmp 49) _ rfl w.heap.size 3 i0 _ 1 8 Tryz.underlying22 hi hz0 hz1 hz2 rfl (by omega) fI_len fI_one u6 _ rfl (HO1.out.alloc _) _ _ [endNo ⟨mr,ml⟩] 1 rfl (Sl.new _ _ (endNo ⟨mr,ml⟩) _ rfl) (by unfold maxLen;simp only [List.length_cons,List.length_nil];omega) (by simp only [List.length_cons,List.length_nil];omega) (by simp;omega) (fun _=> .inr ⟨_,rfl⟩) ?_);intro v2 w4 o2 gr2 at2 ne2)
        go_roundw
        case rel=>exact⟨0+1,by omega,by go_num,HW2.out,by rw [HT.out];exact o2,(((HB.out.trans (HBX.out.mono hzw)).alloc (by omega) _).grown gr2 (by simp;omega) (fun k hk=>(HO1.out.lt k hk).1))⟩
        case measure=>simp [intOf];omega
      · have HKK:=Z (show E1' l j=l[j]'(by omega) from E1_eq (by omega))
        have hjl:j<((l.take (j+1)).map endNo).length:=by simp;omega
        obtain⟨Au,cu,rfl,hu1,hu2,hu3⟩:=HO.out.form
        obtain⟨b3,o3,e3,g3,q3⟩:=int_at (fI_CI (HO.out.sl fI_len rfl)) hjl
        have hq3:((l.take (j+1)).map endNo)[j]=endNo (E1' l j):=by rw [HKK.out];simp
        rw [hq3] at q3
        obtain⟨kk,kl⟩:=key_lt (HW.out j (by omega)).1
        rw [←kk] at q3
        obtain⟨P,hP⟩:∃P,keyE (E1' l j)=P:=⟨_,rfl⟩
        rw [hP] at q3 kl
        have HPP:=Z hP
        subst e3
        clear kk hP hq3 hu3
        have d3:decide ((0:Int)<((j+1:Nat):Int))=true:=by first|(simp;done)|(simp;omega)
        have d4:decide ((0:Int)<(j:Int)+1)=true:=by rw [decide_eq_true_iff];omega
        have hj0:(0:Int)≤(j:Int):=by omega
        have hj1:(j:Int)<(((l.take (j+1)).map endNo).length:Int):=by omega
        have q4:=(cell_alloc_ltG wr (.cells #[O U mr,.bool ml] 77) g3).trans q3
        have hbw:Below (wr.alloc (.cells #[O U mr,.bool ml] 77)).heap.size (wr.alloc (.cells #[O U mr,.bool ml] 77)) (wr.alloc (.cells #[O U mr,.bool ml] 77)).drew:=(Below.refl _ _).drew
        have hwr1:IntKind.i64.wrap ((j:Int)+1 - 1)=(j:Int):=by rw [IntKind.wrap_i64];omega
        have hwr2:IntKind.i64.wrap (j:Int)=(j:Int):=by rw [IntKind.wrap_i64];omega
        have hjs:(j:Int)<(j:Int)+1:=by omega
        go_wp2
        go_region_held3 (fun w'=>w'.cell? ⟨wr.heap.size,0,none⟩=some (O U mr)∧w'.cell? ⟨wr.heap.size,1,none⟩=some (.bool ml)∧w'.cell? ⟨b3,o3+j,none⟩=some (O U (P:Int)))
          (exact⟨(hbw.cell (p:=⟨wr.heap.size,0,none⟩) (by simp)).trans y0,(hbw.cell (p:=⟨wr.heap.size,1,none⟩) (by simp)).trans y1,(hbw.cell (p:=⟨b3,o3+j,none⟩) (by simp;omega)).trans q4⟩)
          ((first
            | (go_at_call 123;refine (number_gen _ _ _ hr0 hr1).mono ?_;rintro e w2 ⟨rfl,hb2⟩;replace hbw:=hbw.trans (hb2.mono hbw.size))
            | (go_at_call 122;refine (follows_any B g p P _ _ ((HNr.out.below ((Below.refl B wr).alloc (Nat.le_trans hB hzw) _)).below (hbw.mono (by simp;omega))) (by have:=hbw.size;simp at this;omega) kl).mono ?_;rintro e w3 ⟨rfl,rfl⟩)))
        have hlj:((l.take (j+1)).map endNo).length=j+1:=by simp;omega
        have HOv:=Z (show Own wr w.heap.size 3 1 fI (.slice (some ⟨b3,o3,none⟩) (j+1) cu) ((l.take (j+1)).map endNo) by have:=HO.out;rw [hlj] at this;exact this)
        have HBX:=Z ((((Below.refl wr.heap.size wr).alloc (Nat.le_refl _) (.cells #[O U mr,.bool ml] 77))).trans (hbw.mono (by simp)))
        have z0:=(hbw.cell (p:=⟨wr.heap.size,0,none⟩) (by simp)).trans y0
        have z1:=(hbw.cell (p:=⟨wr.heap.size,1,none⟩) (by simp)).trans y1
        clear hwr1 hwr2 hbw y0 y1 q3 q4 hlj
        cases hf:folB p P (endNo ⟨mr,ml⟩)
        · have HR:=Z (show ¬wayOk p l from fun h=>by have:=(h.2.2 (j+1) hlt).2 (by omega);rw [HX.out,show j+1 - 1=j by omega,HPP.out] at this;rw [hf] at this;cases this)
          go_wp2
          go_ret2
          exact⟨.inr ⟨HR.out,rfl⟩,HB.out.trans (HBX.out.mono hzw)⟩
        · have HW2:=Z (HW.out.step (by rw [HX.out];exact HR.out) (fun _=>by rw [HX.out,show j+1 - 1=j by omega,HPP.out];exact hf))
          have hzq:wr.heap.size≤w2.heap.size:=HBX.out.size
          go_wp2_with fail
          refine (number_gen mr ml _ hr0 hr1).mono ?_
          rintro e w3 ⟨rfl,hb3⟩
          have HBY:=Z (HBX.out.trans (hb3.mono hzq))
          have hz3:w2.heap.size≤w3.heap.size:=hb3.size
          have HO1:=Z (HOv.out.below HBY.out (Nat.le_refl _))
          clear hb3 hf
          go_wp2_with (at_builtin;go_must (refine wpList_app _ rfl (.tmp 46) (.tmp 49) _ rfl w.heap.size 3 i0 _ 1 8 Tryz.underlying22 hi hz0 hz1 hz2 rfl (by omega) fI_len fI_one (.slice (some ⟨b3,o3,none⟩) (j+1) cu) _ rfl (HO1.out.alloc _) _ _ [endNo ⟨mr,ml⟩] 1 rfl (Sl.new _ _ (endNo ⟨mr,ml⟩) _ rfl) (by unfold maxLen;simp only [List.length_cons,List.length_nil];omega) (by simp only [List.length_cons,List.length_nil];omega) (by simp;omega) (fun _=> .inr ⟨_,rfl⟩) ?_);intro v2 w4 o2 gr2 at2 ne2)
          go_roundw
          case rel=>exact⟨j+1+1,by omega,by go_num,HW2.out,by rw [HT.out];exact o2,(((HB.out.trans (HBY.out.mono hzw)).alloc (by omega) _).grown gr2 (by simp;omega) (fun k hk=>(HO1.out.lt k hk).1))⟩
          case measure=>simp [intOf];omega
    · obtain rfl:k=l.length:=by omega
      have HQ:=Z (show Own wr w.heap.size 3 1 fI u6 (l.map endNo) by rwa [List.take_length] at ho)
      have HY:=Z (show wayOk p l from⟨by omega,by omega,HW.out⟩)
      clear ho
      go_wp2
      go_ret2
      exact⟨.inl ⟨HY.out,_,rfl,HQ.out⟩,hb⟩
open Go.RowKit
def SWPost (p:Pl) (l:List E) (w:World) (e:Ending) (w':World):Prop:=
  ((Vld p∧wayOk p l∧∃g v,e= .returned (.tuple #[.pointer (some ⟨g,0,none⟩),v,.bool true])∧Nw w' w'.heap.size g p∧Own w' w.heap.size 3 1 fI v (l.map endNo))∨
   (¬(Vld p∧wayOk p l)∧∃x,e= .returned (.tuple #[.pointer x,.slice none 0 0,.bool false])))∧Below w.heap.size w w'
set_option maxRecDepth 100000 in
set_option maxHeartbeats 1000000 in
theorem surveyWay_any (A0 A20 A:Option Addr) (c0 c20 c:Nat) (p:Pl) (l:List E) (w:World) (hP:PlAt w w.heap.size A0 c0 A20 c20 p) (hA:Sl w w.heap.size 2 CE A l) (hl:l.length≤140737488351232) :
    Calls Tryz.prog 67 #[.agg #[.slice A0 p.nodes.length c0,.slice A20 p.rails.length c20],.slice A l.length c] w (SWPost p l w):=by
  have HP:=Z (hP.box (.cells #[.slice A0 p.nodes.length c0,.slice A20 p.rails.length c20] 60))
  have HB0:=Z ((Below.refl w.heap.size w).alloc (Nat.le_refl _) (.cells #[.slice A0 p.nodes.length c0,.slice A20 p.rails.length c20] 60))
  have HA:=Z hA
  clear hP hA
  go_enter Tryz.func67,Tryz.ntmps67
  go_wp2_with fail
  refine (survey_any A0 A20 c0 c20 p _ HP.out).mono ?_
  rintro e w1 ⟨hb,⟨hv,rfl⟩|⟨hv,g,rfl,hg,hN⟩⟩
  · have HV:=Z hv;have HB:=Z (HB0.out.trans (hb.mono (by simp)));clear hv hb
    go_wp2
    go_ret3
    exact⟨.inr ⟨fun h=>HV.out h.1,_,rfl⟩,HB.out⟩
  · have HV:=Z hv;have HB:=Z (HB0.out.trans (hb.mono (by simp)));have HN:=Z hN
    have hz:w.heap.size≤w1.heap.size:=HB.out.size
    clear hv hb hN
    go_wp2_with fail
    refine (way_any _ g p A l c _ HN.out (Nat.le_refl _) ((HA.out.below HB.out).more (fun _ _ h=>h) hz) hl).mono ?_
    rintro e w2 ⟨⟨hw,v,rfl,ho⟩|⟨hw,rfl⟩,hb2⟩
    · have HW:=Z hw;have HO:=Z ho
      have hz2:w1.heap.size≤w2.heap.size:=hb2.size
      have HN2:=Z ((HN.out.below hb2).more hz2)
      have HB2:=Z (HB.out.trans (hb2.mono hz))
      clear hw ho hb2
      go_wp2
      go_ret3
      exact⟨.inl ⟨HV.out,HW.out,g,v,rfl,HN2.out,HO.out.lower hz⟩,HB2.out⟩
    · have HW:=Z hw
      have HB2:=Z (HB.out.trans (hb2.mono hz))
      clear hw hb2
      go_wp2
      go_ret3
      exact⟨.inr ⟨fun h=>HW.out h.2,_,rfl⟩,HB2.out⟩
end Go.Proofs.YtfhkbbjddjddmaaGreat
