/- Texts D1 Leave Iter E1 F1 Lk. -/
import Derived.Test.YtfhkbbjddjddmaaGreatJC
import Derived.Laws.EntriesVeiled
import Derived.RangeFuncNested
import Derived.RangeFuncBound
import Derived.RangeFuncCalls
import Derived.RangeFuncLeaves
import Derived.Shelf.Abstract
import Derived.Shelf.RegionOpen
import Derived.OwnWalkIn
import Derived.TacticsInMore
import Derived.LoopNIn
import Derived.LoopIn
import Derived.Deep.RegionHeld3
import Derived.Lib.Zigzag
import Derived.Outline
set_option linter.unusedVariables false
set_option linter.unusedSimpArgs false
open Go.Value renaming int→O
open Go.IntKind renaming i64→U
open Go.Lib renaming hid→Z
namespace Go.Proofs.YtfhkbbjddjddmaaGreat
open Go.RowKit
theorem Own.builtL {α : Type} {f: α→List Value} {size:Nat} (w:World) (base:Nat) (e:TypeId) (l:List α) (cs:Array Value) (h:cs=(l.flatMap f).toArray) (hf:∀x,(f x).length=size) (hb:base≤w.heap.size) (hm:l.length≤maxLen) :
    Own (w.alloc (.cells cs e)) base e size f (.slice (some ⟨w.heap.size,0,none⟩) l.length l.length) l:=by
  subst h
  refine⟨flat_len hf l,.inr ⟨w.heap.size,l.length,_,rfl,hb,heap_alloc_new w _,Nat.le_refl _,hm,by simp [flat_len hf], ?_⟩⟩
  rw [List.take_of_length_le (by simp [flat_len hf])]
def thru (k nm a:Int):List Int:=
  if k=1 then [] else if k=2 then [1 - a] else if k=3 then [(a+2) % 4] else if k=4 then (if a=0 then [1,2] else [0])
  else if k=5 then (if a=0 then [nm] else [0]) else (if a=0 then [nm] else if a=nm then [0] else [])
def ThruPost (l:List Int) (w:World) (e:Ending) (w':World):Prop:=∃v,e= .returned v∧Own w' w.heap.size 3 1 fI v l∧Below w.heap.size w w'
theorem thru_one (w:World) (x:Int) (o:Obj):ThruPost [x] w (.returned (.slice (some ⟨w.heap.size+1,0,none⟩) 1 1)) ((w.alloc o).alloc (.cells #[O U x] 3)):=by
  refine⟨_,rfl, ?_,((Below.refl _ _).alloc (Nat.le_refl _) _).alloc (by simp) _⟩
  have:=Own.built (f:=fI) (size:=1) (w.alloc o) w.heap.size 3 x #[O U x] rfl fI_len (by simp)
  simpa using this
theorem thru_two (w:World) (x y:Int) (o:Obj):ThruPost [x,y] w (.returned (.slice (some ⟨w.heap.size+1,0,none⟩) 2 2)) ((w.alloc o).alloc (.cells #[O U x,O U y] 3)):=by
  refine⟨_,rfl, ?_,((Below.refl _ _).alloc (Nat.le_refl _) _).alloc (by simp) _⟩
  have:=Own.builtL (f:=fI) (size:=1) (w.alloc o) w.heap.size 3 [x,y] #[O U x,O U y] rfl fI_len (by simp) (by simp [maxLen])
  simpa using this
theorem thru_nil (w:World) (o:Obj):ThruPost [] w (.returned (.slice none 0 0)) (w.alloc o):=
  ⟨_,rfl,Own.nil _ _ _ _ _,(Below.refl _ _).alloc (Nat.le_refl _) _⟩
theorem nowhere_any (a nm:Int) (w:World):Calls Tryz.prog 156 #[.agg #[O U a,O U nm]] w (ThruPost [] w):=by
  go_enter Tryz.func156,Tryz.ntmps156
  go_wp2
  go_ret
  exact thru_nil w _
theorem straight_any (a nm:Int) (w:World) (h0:0≤a) (h1:a≤4):Calls Tryz.prog 157 #[.agg #[O U a,O U nm]] w (ThruPost [1 - a] w):=by
  go_enter Tryz.func157,Tryz.ntmps157
  go_wp2
  go_ret
  exact thru_one w _ _
theorem across_any (a nm:Int) (w:World) (h0:0≤a) (h1:a≤4):Calls Tryz.prog 158 #[.agg #[O U a,O U nm]] w (ThruPost [(a+2) % 4] w):=by
  go_enter Tryz.func158,Tryz.ntmps158
  go_wp2
  go_ret
  exact thru_one w _ _
theorem anyLeg_any (a nm:Int) (w:World):Calls Tryz.prog 159 #[.agg #[O U a,O U nm]] w (ThruPost (if a=0 then [1,2] else [0]) w):=by
  by_cases h:a=0
  · rw [if_pos h]
    have h':(a == 0)=true:=by simpa using h
    clear h
    go_enter Tryz.func159,Tryz.ntmps159
    go_wp2
    go_ret
    exact thru_two w _ _ _
  · rw [if_neg h]
    have h':(a == 0)=false:=by simpa using h
    clear h
    go_enter Tryz.func159,Tryz.ntmps159
    go_wp2
    go_ret
    exact thru_one w _ _
theorem normalLeg_any (a nm:Int) (w:World):Calls Tryz.prog 160 #[.agg #[O U a,O U nm]] w (ThruPost (if a=0 then [nm] else [0]) w):=by
  by_cases h:a=0
  · rw [if_pos h]
    have h':(a == 0)=true:=by simpa using h
    clear h
    go_enter Tryz.func160,Tryz.ntmps160
    go_wp2
    go_ret
    exact thru_one w _ _
  · rw [if_neg h]
    have h':(a == 0)=false:=by simpa using h
    clear h
    go_enter Tryz.func160,Tryz.ntmps160
    go_wp2
    go_ret
    exact thru_one w _ _
theorem onlyNormalLeg_any (a nm:Int) (w:World):Calls Tryz.prog 161 #[.agg #[O U a,O U nm]] w (ThruPost (if a=0 then [nm] else if a=nm then [0] else []) w):=by
  by_cases h:a=0
  · rw [if_pos h]
    have h':(a == 0)=true:=by simpa using h
    clear h
    go_enter Tryz.func161,Tryz.ntmps161
    go_wp2
    go_ret
    exact thru_one w _ _
  · rw [if_neg h]
    have h':(a == 0)=false:=by simpa using h
    clear h
    by_cases h:a=nm
    · rw [if_pos h]
      have h2:(a == nm)=true:=by simpa using h
      clear h
      go_enter Tryz.func161,Tryz.ntmps161
      go_wp2
      go_ret
      exact thru_one w _ _
    · rw [if_neg h]
      have h2:(a == nm)=false:=by simpa using h
      clear h
      go_enter Tryz.func161,Tryz.ntmps161
      go_wp2
      go_ret
      exact thru_nil w _
set_option maxRecDepth 100000 in
set_option maxHeartbeats 4000000 in
theorem through_any (nd:N) (A:Option Addr) (c:Nat) (a:Int) (w:World) (hk1:1≤nd.kind) (hk6:nd.kind≤6) (h0:0≤a) (h4:a≤4) :
    Calls Tryz.prog 153 #[.agg #[O U nd.spot.x,O U nd.spot.y,O U nd.kind,.slice A nd.ends.length c,O U nd.normal],O U a] w (ThruPost (thru nd.kind nd.normal a) w):=by
  obtain⟨⟨x,y⟩,k,ends,nm⟩:=nd
  obtain⟨n,hn⟩:∃n,ends.length=n:=⟨_,rfl⟩
  simp only at hk1 hk6 ⊢
  rw [hn]
  clear hn
  rcases (show k=1∨k=2∨k=3∨k=4∨k=5∨k=6 by omega) with h|h|h|h|h|h
  · subst h
    have hS0:((w.alloc (.cells #[O U x,O U y,O U 1,.slice A n c,O U nm] 131)).alloc (.cells #[.nilFunc,.func (.func 156) #[] #[],.func (.func 157) #[] #[],.func (.func 158) #[] #[],.func (.func 159) #[] #[],.func (.func 160) #[] #[],.func (.func 161) #[] #[]] 228)).cell? ⟨w.heap.size,2,none⟩=some (O U 1)∧((w.alloc (.cells #[O U x,O U y,O U 1,.slice A n c,O U nm] 131)).alloc (.cells #[.nilFunc,.func (.func 156) #[] #[],.func (.func 157) #[] #[],.func (.func 158) #[] #[],.func (.func 159) #[] #[],.func (.func 160) #[] #[],.func (.func 161) #[] #[]] 228)).cell? ⟨w.heap.size+1,1,none⟩=some (.func (.func 156) #[] #[])∧((w.alloc (.cells #[O U x,O U y,O U 1,.slice A n c,O U nm] 131)).alloc (.cells #[.nilFunc,.func (.func 156) #[] #[],.func (.func 157) #[] #[],.func (.func 158) #[] #[],.func (.func 159) #[] #[],.func (.func 160) #[] #[],.func (.func 161) #[] #[]] 228)).cell? ⟨w.heap.size,4,none⟩=some (O U nm):=by
      refine⟨by go_keep,by go_keep,by go_keep⟩
    have hB0:Below w.heap.size w ((w.alloc (.cells #[O U x,O U y,O U 1,.slice A n c,O U nm] 131)).alloc (.cells #[.nilFunc,.func (.func 156) #[] #[],.func (.func 157) #[] #[],.func (.func 158) #[] #[],.func (.func 159) #[] #[],.func (.func 160) #[] #[],.func (.func 161) #[] #[]] 228)):=((Below.refl _ _).alloc (Nat.le_refl _) _).alloc (by simp) _
    have HS:=Z hS0;have HB:=Z hB0;clear hS0 hB0
    go_enter Tryz.func153,Tryz.ntmps153
    go_wp2_with fail
    go_region_held3 (fun w'=>w'.cell? ⟨w.heap.size,2,none⟩=some (O U 1)∧w'.cell? ⟨w.heap.size+1,1,none⟩=some (.func (.func 156) #[] #[])∧w'.cell? ⟨w.heap.size,4,none⟩=some (O U nm))
      (first|go_keep|exact⟨(hb.cell (p:=⟨w.heap.size,2,none⟩) (by simp;omega)).trans HS.out.1,(hb.cell (p:=⟨w.heap.size+1,1,none⟩) (by simp)).trans HS.out.2.1,(hb.cell (p:=⟨w.heap.size,4,none⟩) (by simp;omega)).trans HS.out.2.2⟩)
      ((go_at_call 156;refine (nowhere_any a nm _).mono ?_;rintro e w2 ⟨v,rfl,ho,hb⟩))
    go_wp2
    go_ret
    have hb':Below w.heap.size ((w.alloc (.cells #[O U x,O U y,O U 1,.slice A n c,O U nm] 131)).alloc (.cells #[.nilFunc,.func (.func 156) #[] #[],.func (.func 157) #[] #[],.func (.func 158) #[] #[],.func (.func 159) #[] #[],.func (.func 160) #[] #[],.func (.func 161) #[] #[]] 228)) w2:=(Below.refl _ _).drew.trans (hb.mono (by simp;omega))
    exact⟨v,rfl,(ho.lower (by simp;omega)),HB.out.trans hb'⟩
  · subst h
    have hS0:((w.alloc (.cells #[O U x,O U y,O U 2,.slice A n c,O U nm] 131)).alloc (.cells #[.nilFunc,.func (.func 156) #[] #[],.func (.func 157) #[] #[],.func (.func 158) #[] #[],.func (.func 159) #[] #[],.func (.func 160) #[] #[],.func (.func 161) #[] #[]] 228)).cell? ⟨w.heap.size,2,none⟩=some (O U 2)∧((w.alloc (.cells #[O U x,O U y,O U 2,.slice A n c,O U nm] 131)).alloc (.cells #[.nilFunc,.func (.func 156) #[] #[],.func (.func 157) #[] #[],.func (.func 158) #[] #[],.func (.func 159) #[] #[],.func (.func 160) #[] #[],.func (.func 161) #[] #[]] 228)).cell? ⟨w.heap.size+1,2,none⟩=some (.func (.func 157) #[] #[])∧((w.alloc (.cells #[O U x,O U y,O U 2,.slice A n c,O U nm] 131)).alloc (.cells #[.nilFunc,.func (.func 156) #[] #[],.func (.func 157) #[] #[],.func (.func 158) #[] #[],.func (.func 159) #[] #[],.func (.func 160) #[] #[],.func (.func 161) #[] #[]] 228)).cell? ⟨w.heap.size,4,none⟩=some (O U nm):=by
      refine⟨by go_keep,by go_keep,by go_keep⟩
    have hB0:Below w.heap.size w ((w.alloc (.cells #[O U x,O U y,O U 2,.slice A n c,O U nm] 131)).alloc (.cells #[.nilFunc,.func (.func 156) #[] #[],.func (.func 157) #[] #[],.func (.func 158) #[] #[],.func (.func 159) #[] #[],.func (.func 160) #[] #[],.func (.func 161) #[] #[]] 228)):=((Below.refl _ _).alloc (Nat.le_refl _) _).alloc (by simp) _
    have HS:=Z hS0;have HB:=Z hB0;clear hS0 hB0
    go_enter Tryz.func153,Tryz.ntmps153
    go_wp2_with fail
    go_region_held3 (fun w'=>w'.cell? ⟨w.heap.size,2,none⟩=some (O U 2)∧w'.cell? ⟨w.heap.size+1,2,none⟩=some (.func (.func 157) #[] #[])∧w'.cell? ⟨w.heap.size,4,none⟩=some (O U nm))
      (first|go_keep|exact⟨(hb.cell (p:=⟨w.heap.size,2,none⟩) (by simp;omega)).trans HS.out.1,(hb.cell (p:=⟨w.heap.size+1,2,none⟩) (by simp)).trans HS.out.2.1,(hb.cell (p:=⟨w.heap.size,4,none⟩) (by simp;omega)).trans HS.out.2.2⟩)
      ((go_at_call 157;refine (straight_any a nm _ h0 h4).mono ?_;rintro e w2 ⟨v,rfl,ho,hb⟩))
    go_wp2
    go_ret
    have hb':Below w.heap.size ((w.alloc (.cells #[O U x,O U y,O U 2,.slice A n c,O U nm] 131)).alloc (.cells #[.nilFunc,.func (.func 156) #[] #[],.func (.func 157) #[] #[],.func (.func 158) #[] #[],.func (.func 159) #[] #[],.func (.func 160) #[] #[],.func (.func 161) #[] #[]] 228)) w2:=(Below.refl _ _).drew.trans (hb.mono (by simp;omega))
    exact⟨v,rfl,(ho.lower (by simp;omega)),HB.out.trans hb'⟩
  · subst h
    have hS0:((w.alloc (.cells #[O U x,O U y,O U 3,.slice A n c,O U nm] 131)).alloc (.cells #[.nilFunc,.func (.func 156) #[] #[],.func (.func 157) #[] #[],.func (.func 158) #[] #[],.func (.func 159) #[] #[],.func (.func 160) #[] #[],.func (.func 161) #[] #[]] 228)).cell? ⟨w.heap.size,2,none⟩=some (O U 3)∧((w.alloc (.cells #[O U x,O U y,O U 3,.slice A n c,O U nm] 131)).alloc (.cells #[.nilFunc,.func (.func 156) #[] #[],.func (.func 157) #[] #[],.func (.func 158) #[] #[],.func (.func 159) #[] #[],.func (.func 160) #[] #[],.func (.func 161) #[] #[]] 228)).cell? ⟨w.heap.size+1,3,none⟩=some (.func (.func 158) #[] #[])∧((w.alloc (.cells #[O U x,O U y,O U 3,.slice A n c,O U nm] 131)).alloc (.cells #[.nilFunc,.func (.func 156) #[] #[],.func (.func 157) #[] #[],.func (.func 158) #[] #[],.func (.func 159) #[] #[],.func (.func 160) #[] #[],.func (.func 161) #[] #[]] 228)).cell? ⟨w.heap.size,4,none⟩=some (O U nm):=by
      refine⟨by go_keep,by go_keep,by go_keep⟩
    have hB0:Below w.heap.size w ((w.alloc (.cells #[O U x,O U y,O U 3,.slice A n c,O U nm] 131)).alloc (.cells #[.nilFunc,.func (.func 156) #[] #[],.func (.func 157) #[] #[],.func (.func 158) #[] #[],.func (.func 159) #[] #[],.func (.func 160) #[] #[],.func (.func 161) #[] #[]] 228)):=((Below.refl _ _).alloc (Nat.le_refl _) _).alloc (by simp) _
    have HS:=Z hS0;have HB:=Z hB0;clear hS0 hB0
    go_enter Tryz.func153,Tryz.ntmps153
    go_wp2_with fail
    go_region_held3 (fun w'=>w'.cell? ⟨w.heap.size,2,none⟩=some (O U 3)∧w'.cell? ⟨w.heap.size+1,3,none⟩=some (.func (.func 158) #[] #[])∧w'.cell? ⟨w.heap.size,4,none⟩=some (O U nm))
      (first|go_keep|exact⟨(hb.cell (p:=⟨w.heap.size,2,none⟩) (by simp;omega)).trans HS.out.1,(hb.cell (p:=⟨w.heap.size+1,3,none⟩) (by simp)).trans HS.out.2.1,(hb.cell (p:=⟨w.heap.size,4,none⟩) (by simp;omega)).trans HS.out.2.2⟩)
      ((go_at_call 158;refine (across_any a nm _ h0 h4).mono ?_;rintro e w2 ⟨v,rfl,ho,hb⟩))
    go_wp2
    go_ret
    have hb':Below w.heap.size ((w.alloc (.cells #[O U x,O U y,O U 3,.slice A n c,O U nm] 131)).alloc (.cells #[.nilFunc,.func (.func 156) #[] #[],.func (.func 157) #[] #[],.func (.func 158) #[] #[],.func (.func 159) #[] #[],.func (.func 160) #[] #[],.func (.func 161) #[] #[]] 228)) w2:=(Below.refl _ _).drew.trans (hb.mono (by simp;omega))
    exact⟨v,rfl,(ho.lower (by simp;omega)),HB.out.trans hb'⟩
  · subst h
    have hS0:((w.alloc (.cells #[O U x,O U y,O U 4,.slice A n c,O U nm] 131)).alloc (.cells #[.nilFunc,.func (.func 156) #[] #[],.func (.func 157) #[] #[],.func (.func 158) #[] #[],.func (.func 159) #[] #[],.func (.func 160) #[] #[],.func (.func 161) #[] #[]] 228)).cell? ⟨w.heap.size,2,none⟩=some (O U 4)∧((w.alloc (.cells #[O U x,O U y,O U 4,.slice A n c,O U nm] 131)).alloc (.cells #[.nilFunc,.func (.func 156) #[] #[],.func (.func 157) #[] #[],.func (.func 158) #[] #[],.func (.func 159) #[] #[],.func (.func 160) #[] #[],.func (.func 161) #[] #[]] 228)).cell? ⟨w.heap.size+1,4,none⟩=some (.func (.func 159) #[] #[])∧((w.alloc (.cells #[O U x,O U y,O U 4,.slice A n c,O U nm] 131)).alloc (.cells #[.nilFunc,.func (.func 156) #[] #[],.func (.func 157) #[] #[],.func (.func 158) #[] #[],.func (.func 159) #[] #[],.func (.func 160) #[] #[],.func (.func 161) #[] #[]] 228)).cell? ⟨w.heap.size,4,none⟩=some (O U nm):=by
      refine⟨by go_keep,by go_keep,by go_keep⟩
    have hB0:Below w.heap.size w ((w.alloc (.cells #[O U x,O U y,O U 4,.slice A n c,O U nm] 131)).alloc (.cells #[.nilFunc,.func (.func 156) #[] #[],.func (.func 157) #[] #[],.func (.func 158) #[] #[],.func (.func 159) #[] #[],.func (.func 160) #[] #[],.func (.func 161) #[] #[]] 228)):=((Below.refl _ _).alloc (Nat.le_refl _) _).alloc (by simp) _
    have HS:=Z hS0;have HB:=Z hB0;clear hS0 hB0
    go_enter Tryz.func153,Tryz.ntmps153
    go_wp2_with fail
    go_region_held3 (fun w'=>w'.cell? ⟨w.heap.size,2,none⟩=some (O U 4)∧w'.cell? ⟨w.heap.size+1,4,none⟩=some (.func (.func 159) #[] #[])∧w'.cell? ⟨w.heap.size,4,none⟩=some (O U nm))
      (first|go_keep|exact⟨(hb.cell (p:=⟨w.heap.size,2,none⟩) (by simp;omega)).trans HS.out.1,(hb.cell (p:=⟨w.heap.size+1,4,none⟩) (by simp)).trans HS.out.2.1,(hb.cell (p:=⟨w.heap.size,4,none⟩) (by simp;omega)).trans HS.out.2.2⟩)
      ((go_at_call 159;refine (anyLeg_any a nm _).mono ?_;rintro e w2 ⟨v,rfl,ho,hb⟩))
    go_wp2
    go_ret
    have hb':Below w.heap.size ((w.alloc (.cells #[O U x,O U y,O U 4,.slice A n c,O U nm] 131)).alloc (.cells #[.nilFunc,.func (.func 156) #[] #[],.func (.func 157) #[] #[],.func (.func 158) #[] #[],.func (.func 159) #[] #[],.func (.func 160) #[] #[],.func (.func 161) #[] #[]] 228)) w2:=(Below.refl _ _).drew.trans (hb.mono (by simp;omega))
    exact⟨v,rfl,(ho.lower (by simp;omega)),HB.out.trans hb'⟩
  · subst h
    have hS0:((w.alloc (.cells #[O U x,O U y,O U 5,.slice A n c,O U nm] 131)).alloc (.cells #[.nilFunc,.func (.func 156) #[] #[],.func (.func 157) #[] #[],.func (.func 158) #[] #[],.func (.func 159) #[] #[],.func (.func 160) #[] #[],.func (.func 161) #[] #[]] 228)).cell? ⟨w.heap.size,2,none⟩=some (O U 5)∧((w.alloc (.cells #[O U x,O U y,O U 5,.slice A n c,O U nm] 131)).alloc (.cells #[.nilFunc,.func (.func 156) #[] #[],.func (.func 157) #[] #[],.func (.func 158) #[] #[],.func (.func 159) #[] #[],.func (.func 160) #[] #[],.func (.func 161) #[] #[]] 228)).cell? ⟨w.heap.size+1,5,none⟩=some (.func (.func 160) #[] #[])∧((w.alloc (.cells #[O U x,O U y,O U 5,.slice A n c,O U nm] 131)).alloc (.cells #[.nilFunc,.func (.func 156) #[] #[],.func (.func 157) #[] #[],.func (.func 158) #[] #[],.func (.func 159) #[] #[],.func (.func 160) #[] #[],.func (.func 161) #[] #[]] 228)).cell? ⟨w.heap.size,4,none⟩=some (O U nm):=by
      refine⟨by go_keep,by go_keep,by go_keep⟩
    have hB0:Below w.heap.size w ((w.alloc (.cells #[O U x,O U y,O U 5,.slice A n c,O U nm] 131)).alloc (.cells #[.nilFunc,.func (.func 156) #[] #[],.func (.func 157) #[] #[],.func (.func 158) #[] #[],.func (.func 159) #[] #[],.func (.func 160) #[] #[],.func (.func 161) #[] #[]] 228)):=((Below.refl _ _).alloc (Nat.le_refl _) _).alloc (by simp) _
    have HS:=Z hS0;have HB:=Z hB0;clear hS0 hB0
    go_enter Tryz.func153,Tryz.ntmps153
    go_wp2_with fail
    go_region_held3 (fun w'=>w'.cell? ⟨w.heap.size,2,none⟩=some (O U 5)∧w'.cell? ⟨w.heap.size+1,5,none⟩=some (.func (.func 160) #[] #[])∧w'.cell? ⟨w.heap.size,4,none⟩=some (O U nm))
      (first|go_keep|exact⟨(hb.cell (p:=⟨w.heap.size,2,none⟩) (by simp;omega)).trans HS.out.1,(hb.cell (p:=⟨w.heap.size+1,5,none⟩) (by simp)).trans HS.out.2.1,(hb.cell (p:=⟨w.heap.size,4,none⟩) (by simp;omega)).trans HS.out.2.2⟩)
      ((go_at_call 160;refine (normalLeg_any a nm _).mono ?_;rintro e w2 ⟨v,rfl,ho,hb⟩))
    go_wp2
    go_ret
    have hb':Below w.heap.size ((w.alloc (.cells #[O U x,O U y,O U 5,.slice A n c,O U nm] 131)).alloc (.cells #[.nilFunc,.func (.func 156) #[] #[],.func (.func 157) #[] #[],.func (.func 158) #[] #[],.func (.func 159) #[] #[],.func (.func 160) #[] #[],.func (.func 161) #[] #[]] 228)) w2:=(Below.refl _ _).drew.trans (hb.mono (by simp;omega))
    exact⟨v,rfl,(ho.lower (by simp;omega)),HB.out.trans hb'⟩
  · subst h
    have hS0:((w.alloc (.cells #[O U x,O U y,O U 6,.slice A n c,O U nm] 131)).alloc (.cells #[.nilFunc,.func (.func 156) #[] #[],.func (.func 157) #[] #[],.func (.func 158) #[] #[],.func (.func 159) #[] #[],.func (.func 160) #[] #[],.func (.func 161) #[] #[]] 228)).cell? ⟨w.heap.size,2,none⟩=some (O U 6)∧((w.alloc (.cells #[O U x,O U y,O U 6,.slice A n c,O U nm] 131)).alloc (.cells #[.nilFunc,.func (.func 156) #[] #[],.func (.func 157) #[] #[],.func (.func 158) #[] #[],.func (.func 159) #[] #[],.func (.func 160) #[] #[],.func (.func 161) #[] #[]] 228)).cell? ⟨w.heap.size+1,6,none⟩=some (.func (.func 161) #[] #[])∧((w.alloc (.cells #[O U x,O U y,O U 6,.slice A n c,O U nm] 131)).alloc (.cells #[.nilFunc,.func (.func 156) #[] #[],.func (.func 157) #[] #[],.func (.func 158) #[] #[],.func (.func 159) #[] #[],.func (.func 160) #[] #[],.func (.func 161) #[] #[]] 228)).cell? ⟨w.heap.size,4,none⟩=some (O U nm):=by
      refine⟨by go_keep,by go_keep,by go_keep⟩
    have hB0:Below w.heap.size w ((w.alloc (.cells #[O U x,O U y,O U 6,.slice A n c,O U nm] 131)).alloc (.cells #[.nilFunc,.func (.func 156) #[] #[],.func (.func 157) #[] #[],.func (.func 158) #[] #[],.func (.func 159) #[] #[],.func (.func 160) #[] #[],.func (.func 161) #[] #[]] 228)):=((Below.refl _ _).alloc (Nat.le_refl _) _).alloc (by simp) _
    have HS:=Z hS0;have HB:=Z hB0;clear hS0 hB0
    go_enter Tryz.func153,Tryz.ntmps153
    go_wp2_with fail
    go_region_held3 (fun w'=>w'.cell? ⟨w.heap.size,2,none⟩=some (O U 6)∧w'.cell? ⟨w.heap.size+1,6,none⟩=some (.func (.func 161) #[] #[])∧w'.cell? ⟨w.heap.size,4,none⟩=some (O U nm))
      (first|go_keep|exact⟨(hb.cell (p:=⟨w.heap.size,2,none⟩) (by simp;omega)).trans HS.out.1,(hb.cell (p:=⟨w.heap.size+1,6,none⟩) (by simp)).trans HS.out.2.1,(hb.cell (p:=⟨w.heap.size,4,none⟩) (by simp;omega)).trans HS.out.2.2⟩)
      ((go_at_call 161;refine (onlyNormalLeg_any a nm _).mono ?_;rintro e w2 ⟨v,rfl,ho,hb⟩))
    go_wp2
    go_ret
    have hb':Below w.heap.size ((w.alloc (.cells #[O U x,O U y,O U 6,.slice A n c,O U nm] 131)).alloc (.cells #[.nilFunc,.func (.func 156) #[] #[],.func (.func 157) #[] #[],.func (.func 158) #[] #[],.func (.func 159) #[] #[],.func (.func 160) #[] #[],.func (.func 161) #[] #[]] 228)) w2:=(Below.refl _ _).drew.trans (hb.mono (by simp;omega))
    exact⟨v,rfl,(ho.lower (by simp;omega)),HB.out.trans hb'⟩
structure Vld (p:Pl):Prop where
  sizes:sizesB p=true
  nodes:p.nodes.all nodeB=true
  rails:railsB p=true
  ends : okEnds p
def keyE (e:E):Nat:=(endNo e).toNat
theorem keys_nodup {p:Pl} (h:okEnds p):((flatE p).map keyE).Nodup:=by
  have hv:∀e∈flatE p,0≤e.rail:=by
    intro e he
    obtain⟨nd,hnd,he⟩:=List.mem_flatMap.1 he
    obtain⟨i,hi,rfl⟩:=List.getElem_of_mem hnd
    exact (h.1 i hi e he).1
  have hn:=h.2.1
  unfold List.Nodup at *
  rw [List.pairwise_map]
  exact hn.imp_of_mem fun {a b} ha hb hab he=>hab (endNo_inj (hv a ha) (hv b hb) he)
theorem key_all {p:Pl} (h:okEnds p) {x:Nat} (hx:x<2 * p.rails.length):∃e∈flatE p,keyE e=x:=by
  have hk:=keys_nodup h
  by_cases hm:x∈(flatE p).map keyE
  · obtain⟨e,he,hh⟩:=List.mem_map.1 hm
    exact⟨e,he,hh⟩
  · exfalso
    have h1:(x :: (flatE p).map keyE).Nodup:=List.nodup_cons.2 ⟨hm,hk⟩
    have h2:(x :: (flatE p).map keyE) ⊆ List.range (2 * p.rails.length):=by
      intro y hy
      rw [List.mem_range]
      rcases List.mem_cons.1 hy with rfl|hy
      · exact hx
      · obtain⟨e,he,rfl⟩:=List.mem_map.1 hy
        obtain⟨nd,hnd,he⟩:=List.mem_flatMap.1 he
        obtain⟨i,hi,rfl⟩:=List.getElem_of_mem hnd
        have:=endNo_bd (h.1 i hi e he)
        unfold keyE;omega
    have:=h1.length_le_of_subset h2
    simp only [List.length_cons,List.length_map,List.length_range,h.2.2] at this
    omega
theorem fillS_get (m2:Nat):∀(n:Nat) (q:List (E × Nat)),q.length=n→(q.map fun x=>keyE x.1).Nodup→∀x∈q,∀(hl:keyE x.1<(fillS m2 q).length),(fillS m2 q)[keyE x.1]=(x.2:Int):=by
  intro n
  induction n with
  | zero=>intro q hq _ x hx;rw [List.eq_nil_of_length_eq_zero hq] at hx;cases hx
  | succ n ih=>
    intro q hq hn x hx hl
    rcases List.eq_nil_or_concat q with rfl|⟨r,y,rfl⟩
    · cases hx
    · simp only [List.concat_eq_append] at *
      simp only [fillS_snoc,List.getElem_set]
      rw [List.map_append,List.nodup_append] at hn
      rcases List.mem_append.1 hx with hx|hx
      · have hne:keyE y.1≠keyE x.1:=fun e=>hn.2.2 (keyE x.1) (List.mem_map.2 ⟨x,hx,rfl⟩) (keyE y.1) (by simp) e.symm
        rw [if_neg (show ¬(endNo y.1).toNat=keyE x.1 from hne)]
        exact ih r (by simp at hq;exact hq) hn.1 x hx (by rw [fillS_len] at hl ⊢;exact hl)
      · obtain rfl:x=y:=by simpa using hx
        rw [if_pos (show (endNo x.1).toNat=keyE x.1 from rfl)]
theorem allQ_fst (p:Pl):(allQ p).map (·.1)=flatE p:=by rw [←befQ_all,befQ_fst,befE_all]
theorem slots_len (p:Pl):(slotsOf p).length=2 * p.rails.length:=fillS_len _ _
theorem slots_spec {p:Pl} (h:okEnds p) {x:Nat} (hx:x<2 * p.rails.length) :
    ∃(i:Nat) (hi:i<p.nodes.length) (k:Nat) (hk:k<p.nodes[i].ends.length),(endNo p.nodes[i].ends[k]).toNat=x∧nodeAtZ p (x:Int)=i∧∀(hl:x<(slotsOf p).length),(slotsOf p)[x]=(k:Int):=by
  obtain⟨e,he,rfl⟩:=key_all h hx
  rw [←allQ_fst] at he
  obtain⟨q,hq,rfl⟩:=List.mem_map.1 he
  have hq':=hq
  obtain⟨nd,hnd,hz⟩:=List.mem_flatMap.1 hq
  obtain⟨i,hi,rfl⟩:=List.getElem_of_mem hnd
  rw [List.mem_zipIdx_iff_getElem?] at hz
  obtain⟨hk,he⟩:=List.getElem?_eq_some_iff.1 hz
  have hok:=h.1 i hi q.1 (by rw [←he];exact List.getElem_mem hk)
  refine⟨i,hi,q.2,hk,by rw [he];rfl, ?_,fun hl=> ?_⟩
  · have h0:=endNo_bd hok
    rw [show ((keyE q.1:Nat):Int)=endNo q.1 by unfold keyE;omega,nodeAtZ_end p _ hok.1,hok.2.2]
  · refine fillS_get (2 * p.rails.length) _ (allQ p) rfl ?_ q hq' hl
    have:=keys_nodup h
    rw [←allQ_fst,List.map_map] at this
    exact this
def flip (m:Nat):Nat:=if m % 2=0 then m+1 else m - 1
theorem flip_lt {m n:Nat} (h:m<2 * n):flip m<2 * n:=by unfold flip;split <;> omega
def N0:N:=⟨⟨0,0⟩,0, [],0⟩
def E0:E:=⟨0,false⟩
def atN (p:Pl) (x:Nat):N:=(p.nodes[(nodeAtZ p (x:Int)).toNat]?).getD N0
def slAt (p:Pl) (x:Nat):Int:=((slotsOf p)[x]?).getD 0
def endAt (nd:N) (s:Int):E:=(nd.ends[s.toNat]?).getD E0
def leaveL (p:Pl) (m:Nat):List Int:=(thru (atN p (flip m)).kind (atN p (flip m)).normal (slAt p (flip m))).map fun s=>endNo (endAt (atN p (flip m)) s)
theorem nodeB_parts {nd:N} (h:nodeB nd=true):1≤nd.kind∧nd.kind≤6∧(nd.ends.length:Int)=endsZ nd.kind∧normB nd=true∧spotB nd.spot=true:=by
  simp only [nodeB,kindB,Bool.and_eq_true,decide_eq_true_eq] at h
  obtain⟨h0,⟨h1,h2⟩,h3⟩:=h
  unfold endsZ at h1
  refine⟨?_, ?_,h2,h3,h0⟩ <;> (repeat' split at h1) <;> omega
theorem ends_le4 {p:Pl} (h:p.nodes.all nodeB=true):∀j (hj:j<p.nodes.length),p.nodes[j].ends.length≤4:=by
  intro j hj
  rw [List.all_eq_true] at h
  have:=(nodeB_parts (h _ (List.getElem_mem hj))).2.2.1
  unfold endsZ at this
  (repeat' split at this) <;> omega
theorem spots_ok {p:Pl} (h:p.nodes.all nodeB=true):∀j (hj:j<p.nodes.length),spotB p.nodes[j].spot=true:=by
  intro j hj
  rw [List.all_eq_true] at h
  exact (nodeB_parts (h _ (List.getElem_mem hj))).2.2.2.2
theorem thru_lt {nd:N} (h:nodeB nd=true) {a:Nat} (ha:a<nd.ends.length):∀s∈thru nd.kind nd.normal (a:Int),0≤s∧s<nd.ends.length:=by
  obtain⟨h1,h6,h2,h3,_⟩:=nodeB_parts h
  intro s hs
  unfold normB at h3
  rcases (show nd.kind=1∨nd.kind=2∨nd.kind=3∨nd.kind=4∨nd.kind=5∨nd.kind=6 by omega) with e|e|e|e|e|e <;>
    (rw [e] at h2 h3 hs;simp only [endsZ,thru] at h2 hs)
  · simp at hs
  · simp at hs h2;omega
  · simp at hs h2;omega
  · simp at h2
    by_cases h0:a=0
    · simp [h0] at hs;omega
    · simp [h0] at hs;omega
  · simp at h2 h3
    by_cases h0:a=0
    · simp [h0] at hs;omega
    · simp [h0] at hs;omega
  · simp at h2 h3
    by_cases h0:a=0
    · simp [h0] at hs;omega
    · by_cases h9:(a:Int)=nd.normal
      · have h10:nd.normal≠0:=by omega
        simp [h0,h9,h10] at hs;omega
      · simp [h0,h9] at hs
theorem thru_le2 (k nm a:Int):(thru k nm a).length≤2:=by
  unfold thru
  (repeat' split) <;> simp
open Go.RowKit
def Tch (nb bb:Nat) (W:World) (k:Nat):Prop:=k=nb∨k=bb∨∃(b i:Nat) (v:Value),(b=nb∨b=bb)∧W.cell? ⟨b,i,none⟩=some v∧v.ownBlock=some k
structure KT (nb bb:Nat) (W W':World):Prop where
  size:W.heap.size≤W'.heap.size
  same:∀(k:Nat) (c:Array Value) (t:TypeId) (f:Nat × Nat),W.heap[k]? = some (.cells c t f)→¬Tch nb bb W k→W'.heap[k]? = some (.cells c t f)
  tch:∀k,Tch nb bb W' k→Tch nb bb W k∨W.heap.size≤k
  bd:(∀k,Tch nb bb W k→k<W.heap.size)→∀k,Tch nb bb W' k→k<W'.heap.size
section
variable {nb bb:Nat} {W W' W'':World}
theorem KT.trans (h:KT nb bb W W') (k:KT nb bb W' W''):KT nb bb W W'' where
  size:=Nat.le_trans h.size k.size
  same:=fun j c t f hj hn=>k.same j c t f (h.same j c t f hj hn) fun ht=>by
    rcases h.tch j ht with h1|h1
    · exact hn h1
    · have:=(Array.getElem?_eq_some_iff.1 hj).1;omega
  tch:=fun j ht=>by
    rcases k.tch j ht with h1|h1
    · exact h.tch j h1
    · have:=h.size;exact .inr (by omega)
  bd:=fun hb=>k.bd (h.bd hb)
theorem Tch.of_cells (h:∀i,W'.cell? ⟨nb,i,none⟩=W.cell? ⟨nb,i,none⟩) (h':∀i,W'.cell? ⟨bb,i,none⟩=W.cell? ⟨bb,i,none⟩) {k:Nat} (ht:Tch nb bb W' k):Tch nb bb W k:=by
  rcases ht with e|e|⟨b,i,v,e,hc,hv⟩
  · exact .inl e
  · exact .inr (.inl e)
  · rcases e with rfl|rfl
    · exact .inr (.inr ⟨b,i,v,.inl rfl,by rw [←h];exact hc,hv⟩)
    · exact .inr (.inr ⟨b,i,v,.inr rfl,by rw [←h'];exact hc,hv⟩)
theorem KT.of_below {B:Nat} (hb:Below B W W') (hB:W.heap.size≤B) (h1:nb<W.heap.size) (h2:bb<W.heap.size):KT nb bb W W' where
  size:=hb.size
  same:=fun k c t f hk _=>(hb.block k (by have:=(Array.getElem?_eq_some_iff.1 hk).1;omega)).trans hk
  tch:=fun k ht=> .inl (Tch.of_cells (fun i=>hb.cell (p:=⟨nb,i,none⟩) (by simp;omega)) (fun i=>hb.cell (p:=⟨bb,i,none⟩) (by simp;omega)) ht)
  bd:=fun hbd k ht=>by
    have:=hbd k (Tch.of_cells (fun i=>hb.cell (p:=⟨nb,i,none⟩) (by simp;omega)) (fun i=>hb.cell (p:=⟨bb,i,none⟩) (by simp;omega)) ht)
    have:=hb.size;omega
theorem kt_t {A B C:World} (h:KT nb bb A B) (k:KT nb bb B C):KT nb bb A C:=h.trans k
theorem kt_b {w:World} (h1:nb<w.heap.size) (h2:bb<w.heap.size) (W:World) (l:Nat) (o o':Obj) (hl:w.heap.size≤l) (h:W.heap[l]? = some o) (hc:o.isCells=false) (_:o.isWalk=false):KT nb bb W (W.putObj l o'):=by
  have hother:∀k,k≠l→(W.putObj l o').heap[k]? = W.heap[k]?:=fun k hk=>World.putObj_heap_other hk
  have c1:∀i,(W.putObj l o').cell? ⟨nb,i,none⟩=W.cell? ⟨nb,i,none⟩:=fun i=>World.cell?_of_block (hother nb (by omega))
  have c2:∀i,(W.putObj l o').cell? ⟨bb,i,none⟩=W.cell? ⟨bb,i,none⟩:=fun i=>World.cell?_of_block (hother bb (by omega))
  refine⟨by simp,fun k c t f hk _=> ?_,fun k ht=> .inl (Tch.of_cells c1 c2 ht),fun hbd k ht=> ?_⟩
  · by_cases e:k=l
    · subst e;rw [h] at hk;cases hk;simp [Obj.isCells] at hc
    · exact (hother k e).trans hk
  · have:=hbd k (Tch.of_cells c1 c2 ht)
    simp;omega
theorem KT.cell (h:KT nb bb W W') {q:Addr} {v:Value} (hq:W.cell? q=some v) (hn:¬Tch nb bb W q.block):W'.cell? q=some v:=by
  unfold World.cell? at hq ⊢
  cases ho:W.heap[q.block]? with
  | none=>rw [ho] at hq;cases hq
  | some o=>
    rw [ho] at hq
    cases o with
    | cells c t f=>rw [h.same _ c t f ho hn];exact hq
    | _=>simp at hq
theorem KT.keepsN (h:KT nb bb W W') {k:Nat} (hk:k<W.heap.size) (hn:¬Tch nb bb W k):¬Tch nb bb W' k:=fun ht=>by
  rcases h.tch k ht with h1|h1
  · exact hn h1
  · omega
end
section
variable {α : Type} {w w':World} {B size:Nat} {C C': α→List Value→Prop} {A:Option Addr} {l:List α}
theorem Sl.keepS (h:Sl w B size C A l) (hC:∀x cs,C x cs→C' x cs) (hk:∀(p:Addr) (v:Value),p.block<B→w.cell? p=some v→w'.cell? p=some v):Sl w' B size C' A l:=by
  intro hl
  obtain⟨b,off,e,hb,hc⟩:=h hl
  refine⟨b,off,e,hb,fun i x hx=> ?_⟩
  obtain⟨cs,h1,h2⟩:=hc i x hx
  exact⟨cs,hC _ _ h1,fun j u hu=>hk _ _ hb (h2 j u hu)⟩
end
theorem PlAt.keepS {w w':World} {B:Nat} {A A2:Option Addr} {c c2:Nat} {p:Pl} (h:PlAt w B A c A2 c2 p) (hk:∀(q:Addr) (v:Value),q.block<B→w.cell? q=some v→w'.cell? q=some v):PlAt w' B A c A2 c2 p:=
  ⟨h.ns.keepS (fun _ _ ⟨A,c,h1,h2,h3⟩=>⟨A,c,h1,h2.keepS (fun _ _ h=>h) hk,h3⟩) hk,h.nc,h.nm,h.rs.keepS (fun _ _ ⟨A,c,h1,h2,h3⟩=>⟨A,c,h1,h2.keepS (fun _ _ h=>h) hk,h3⟩) hk,h.rc,h.rm⟩
structure LvAt (nb bb b1 b2 g sb:Nat) (A:Option Addr) (c:Nat) (A2:Option Addr) (c2:Nat) (p:Pl) (Lv Nv Bv:Value) (m:Nat) (W:World):Prop where
  x1:W.cell? ⟨b1,0,none⟩=some (.pointer (some ⟨g,0,none⟩))
  x2:W.cell? ⟨b2,0,none⟩=some (O U (m:Int))
  net:Net W g A c A2 c2 p Lv (.slice (some ⟨sb,0,none⟩) (2 * p.rails.length) (2 * p.rails.length)) Nv Bv
  row:IRow W sb (slotsOf p)
  n1:¬Tch nb bb W b1
  n2:¬Tch nb bb W b2
  ns:¬Tch nb bb W sb
  ng:∀k,k≤g→¬Tch nb bb W k
  bd:∀k,Tch nb bb W k→k<W.heap.size
section
variable {nb bb b1 b2 g sb:Nat} {A A2:Option Addr} {c c2:Nat} {p:Pl} {Lv Nv Bv:Value} {m:Nat} {W W':World}
theorem LvAt.lt (h:LvAt nb bb b1 b2 g sb A c A2 c2 p Lv Nv Bv m W):b1<W.heap.size∧b2<W.heap.size∧sb<W.heap.size∧g<W.heap.size∧nb<W.heap.size∧bb<W.heap.size:=
  ⟨World.block_lt_of_cell? W _ h.x1,World.block_lt_of_cell? W _ h.x2,h.row.lt,h.net.lt,h.bd nb (.inl rfl),h.bd bb (.inr (.inl rfl))⟩
theorem LvAt.keep (h:LvAt nb bb b1 b2 g sb A c A2 c2 p Lv Nv Bv m W) (k:KT nb bb W W'):LvAt nb bb b1 b2 g sb A c A2 c2 p Lv Nv Bv m W' where
  x1:=k.cell h.x1 h.n1
  x2:=k.cell h.x2 h.n2
  net:=⟨k.same g _ _ _ h.net.blk (h.ng g (Nat.le_refl _)),h.net.pl.keepS fun q v hq hv=>k.cell hv (h.ng _ (Nat.le_of_lt hq))⟩
  row:=k.same sb _ _ _ h.row h.ns
  n1:=k.keepsN h.lt.1 h.n1
  n2:=k.keepsN h.lt.2.1 h.n2
  ns:=k.keepsN h.lt.2.2.1 h.ns
  ng:=fun j hj=>k.keepsN (by have:=h.lt.2.2.2.1;omega) (h.ng j hj)
  bd:=k.bd h.bd
theorem LvAt.below {B:Nat} (h:LvAt nb bb b1 b2 g sb A c A2 c2 p Lv Nv Bv m W) (k:Below B W W') (hB:W.heap.size≤B):LvAt nb bb b1 b2 g sb A c A2 c2 p Lv Nv Bv m W':=
  h.keep (KT.of_below k hB h.lt.2.2.2.2.1 h.lt.2.2.2.2.2)
end
open Go.RowKit Go.Shelf Go.Lib
attribute [local go_sem] Oper.semAt_some
theorem xor_one (m:Nat):(m ^^^ 1)=flip m:=by
  unfold flip
  have h:((m ^^^ 1) % 2=1) ↔ ¬((m % 2=1) ↔ (1 % 2=1)):=Nat.xor_mod_two_eq_one
  have h2:(m ^^^ 1) / 2=m / 2:=by rw [Nat.xor_div_two];simp
  have h3:=Nat.mod_two_eq_zero_or_one (m ^^^ 1)
  split
  · have:(m ^^^ 1) % 2=1:=h.2 (fun k=>by have:=k.2 rfl;omega)
    omega
  · have:(m ^^^ 1) % 2=0:=h3.resolve_right fun k=>h.1 k ⟨fun _=>rfl,fun _=>by omega⟩
    omega
theorem bits_xor_one (m:Nat) (hm:m<1000):bits .xor .i64 (m:Int) 1=(flip m:Nat):=by
  show IntKind.i64.wrap ((BitVec.ofInt 64 (m:Int) ^^^ BitVec.ofInt 64 1).toNat:Int)=_
  have h1:(BitVec.ofInt 64 1).toNat=1:=by decide
  have h2:(BitVec.ofInt 64 (m:Int)).toNat=m:=by
    rw [BitVec.ofInt_natCast,BitVec.toNat_ofNat];exact Nat.mod_eq_of_lt (by omega)
  have h3:flip m<2000:=by unfold flip;split <;> omega
  rw [BitVec.toNat_xor,h1,h2,xor_one,IntKind.wrap_i64]
  omega
theorem jbelow {β : Type} {J: β→World→Prop} {B:Nat} (hJ:AbidesFrom B J) {s: β} {W W':World} (h:J s W) (hb:Below W.heap.size W W'):J s W':=
  hJ s W W' none h ⟨hb.os,hb.tape,hb.output,hb.size,fun k hk _=>hb.block k hk⟩ (fun r e=>by cases e)
def Held (nb bb:Nat) (W:World) (A:Option Addr) (L:List Int):Prop:=
  ∀(j:Nat) (hj:j<L.length),∃tb off,A=some ⟨tb,off,none⟩∧W.cell? ⟨tb,off+j,none⟩=some (O U L[j])∧¬Tch nb bb W tb
structure LFix (nb bb b1 b2 g sb:Nat) (A:Option Addr) (c:Nat) (A2:Option Addr) (c2:Nat) (p:Pl) (Lv Nv Bv:Value) (m:Nat) (An:Option Addr) (nd:N) (cn x:Nat) (At:Option Addr) (L:List Int) (W:World):Prop where
  lv:LvAt nb bb b1 b2 g sb A c A2 c2 p Lv Nv Bv m W
  en:Sl W g 2 CE An nd.ends
  bx:W.cell? ⟨x,3,none⟩=some (.slice An nd.ends.length cn)
  nx:¬Tch nb bb W x
  hd:Held nb bb W At L
section
variable {nb bb b1 b2 g sb:Nat} {A A2:Option Addr} {c c2:Nat} {p:Pl} {Lv Nv Bv:Value} {m:Nat} {An:Option Addr} {nd:N} {cn x:Nat} {At:Option Addr} {L:List Int} {W W':World}
theorem LFix.keep (h:LFix nb bb b1 b2 g sb A c A2 c2 p Lv Nv Bv m An nd cn x At L W) (k:KT nb bb W W'):LFix nb bb b1 b2 g sb A c A2 c2 p Lv Nv Bv m An nd cn x At L W' where
  lv:=h.lv.keep k
  en:=h.en.keepS (fun _ _ h=>h) fun q v hq hv=>k.cell hv (h.lv.ng _ (by omega))
  bx:=k.cell h.bx h.nx
  nx:=k.keepsN (World.block_lt_of_cell? W _ h.bx) h.nx
  hd:=fun j hj=>by
    obtain⟨tb,off,e,hc,hn⟩:=h.hd j hj
    exact⟨tb,off,e,k.cell hc hn,k.keepsN (World.block_lt_of_cell? W _ hc) hn⟩
theorem LFix.below {B:Nat} (h:LFix nb bb b1 b2 g sb A c A2 c2 p Lv Nv Bv m An nd cn x At L W) (k:Below B W W') (hB:W.heap.size≤B):LFix nb bb b1 b2 g sb A c A2 c2 p Lv Nv Bv m An nd cn x At L W':=
  h.keep (KT.of_below k hB h.lv.lt.2.2.2.2.1 h.lv.lt.2.2.2.2.2)
end
theorem Own.held {nb bb:Nat} {W:World} {base:Nat} {At:Option Addr} {L:List Int} {ct:Nat} (h:Own W base 3 1 fI (.slice At L.length ct) L) (hn:∀k,base≤k→¬Tch nb bb W k):Held nb bb W At L:=fun j hj=>by
  have hs:Sl W W.heap.size 1 CI At L:=h.sl fI_len rfl
  obtain⟨tb,off,e,hb,hc⟩:=int_at hs hj
  subst e
  exact⟨tb,off,rfl,hc,hn _ (h.lt tb rfl).1⟩
theorem leaveL_eq {p:Pl} {m i k:Nat} {nd:N} (hat:nodeAtZ p (flip m:Nat)=i) (hi:i<p.nodes.length) (hnd:p.nodes[i]=nd) (hx:flip m<(slotsOf p).length) (hs:(slotsOf p)[flip m]=(k:Int)) :
    leaveL p m=(thru nd.kind nd.normal (k:Int)).map fun s=>endNo (endAt nd s):=by
  have h1:atN p (flip m)=nd:=by unfold atN;rw [hat];simp [hi,hnd]
  have h2:slAt p (flip m)=k:=by unfold slAt;simp [hx,hs]
  unfold leaveL
  rw [h1,h2]
theorem endAt_nat {nd:N} {s:Nat} (h:s<nd.ends.length):endAt nd (s:Int)=nd.ends[s]:=by simp [endAt,h]
theorem leaving_any (g m:Nat) (w:World) :
    Calls Tryz.prog 143 #[.pointer (some ⟨g,0,none⟩),O U (m:Int)] w fun e w'=>
      e= .returned (.func (.func 152) #[] #[.pointer (some ⟨w.heap.size,0,none⟩),.pointer (some ⟨w.heap.size+1,0,none⟩)])∧
      (w.alloc (.cells #[.pointer (some ⟨g,0,none⟩)] 119)).alloc (.cells #[O U (m:Int)] 3)=w':=by
  go_enter Tryz.func143,Tryz.ntmps143
  go_wp2
  go_ret
  exact⟨rfl,rfl⟩
abbrev Mv (M:Nat):={x:Int // 0≤x∧x<M}
set_option maxRecDepth 100000 in
set_option maxHeartbeats 4000000 in
theorem leaving_stops (n:Nat) (hn:3≤n) (nb bb b1 b2 g sb:Nat) (A:Option Addr) (c:Nat) (A2:Option Addr) (c2:Nat) (p:Pl) (Lv Nv Bv:Value) (m:Nat) (w:World) (hV:Vld p) (hm:m<2 * p.rails.length)
    (hL:LvAt nb bb b1 b2 g sb A c A2 c2 p Lv Nv Bv m w) :
    SeqStopsK Fence.wide n Tryz.prog 152 #[.pointer (some ⟨b1,0,none⟩),.pointer (some ⟨b2,0,none⟩)] (fun x:Mv (2 * p.rails.length)=>#[O U x.1]) (KT nb bb) (fun xs=>xs.map (·.1)=leaveL p m) (fun _=>True) (leaveL p m).length w:=by
  intro l J Jx W hW hJ hJx hY h0
  dsimp only at hY
  have hLW:=hL.below hW (Nat.le_refl _)
  clear hL
  obtain⟨i,hi,k,hk,hkey,hat,hsl⟩:=slots_spec hV.ends (flip_lt hm)
  have hx:=flip_lt hm
  have hsx:(slotsOf p)[flip m]'(by rw [slots_len];exact hx)=(k:Int):=hsl (by rw [slots_len];exact hx)
  refine callsIn_of_wp Tryz.func152 rfl trivial ?_ rfl
  simp only [Tryz.ntmps152,List.size_toArray,List.length_cons,List.length_nil,Nat.reduceAdd,Nat.reduceSub,Array.replicate_succ,Array.replicate_zero,List.push_toArray,List.append_toArray,List.nil_append,List.cons_append]
  obtain⟨nd,hnd⟩:∃nd,p.nodes[i]=nd:=⟨_,rfl⟩
  obtain⟨b,off,An,cn,hA,hb,hE,hc1,hc2,k0,k1,k2,k3,k4⟩:=hLW.net.pl.node hi
  subst hA
  simp only [hnd] at hE hc1 hc2 k0 k1 k2 k3 k4 hk
  obtain⟨c0,c1,_,c3,_,_⟩:=hLW.net.cell
  have hszs:p.nodes.length≤300∧p.rails.length≤400:=by have:=of_decide_eq_true hV.sizes;omega
  have HX:=Z (bits_xor_one m (by omega))
  have x1:=hLW.x1;have x2:=hLW.x2
  have hi0:(0:Int)≤(i:Int):=by omega
  have hi1:(i:Int)<(p.nodes.length:Int):=by omega
  have hgl:=hLW.net.lt
  have HN1:=Z (hLW.net.below ((Below.refl (g+1) W).drew) (Nat.lt_succ_self g))
  have HN2:=Z (hLW.net.below (((Below.refl (g+1) W).alloc (by omega) (.cells #[O U 0,O U 0,O U 0,.slice none 0 0,O U 0] 131)).drew) (Nat.lt_succ_self g))
  obtain⟨W1,hW1⟩:∃W1,(W.alloc (.cells #[O U nd.spot.x,O U nd.spot.y,O U nd.kind,.slice An nd.ends.length cn,O U nd.normal] 131)).drew=W1:=⟨_,rfl⟩
  have hb1:Below W.heap.size W W1:=by rw [←hW1];exact ((Below.refl _ _).alloc (Nat.le_refl _) _).drew
  have hL1:=hLW.below hb1 (Nat.le_refl _)
  have hbx:W1.cell? ⟨W.heap.size,0,none⟩=some (O U nd.spot.x)∧W1.cell? ⟨W.heap.size,1,none⟩=some (O U nd.spot.y)∧W1.cell? ⟨W.heap.size,2,none⟩=some (O U nd.kind)∧W1.cell? ⟨W.heap.size,3,none⟩=some (.slice An nd.ends.length cn)∧W1.cell? ⟨W.heap.size,4,none⟩=some (O U nd.normal):=by
    rw [←hW1];refine⟨?_, ?_, ?_, ?_, ?_⟩ <;> (change (W.alloc (.cells _ 131)).cell? _=_;go_keep)
  have hnx:¬Tch nb bb W1 W.heap.size:=fun h=>by
    have:=hLW.bd _ (Tch.of_cells (fun i=>hb1.cell (p:=⟨nb,i,none⟩) hLW.lt.2.2.2.2.1) (fun i=>hb1.cell (p:=⟨bb,i,none⟩) hLW.lt.2.2.2.2.2) h)
    omega
  have hE1:Sl W1 g 2 CE An nd.ends:=hE.keepS (fun _ _ h=>h) fun q v hq hv=>(hb1.cell (by omega)).trans hv
  have hJ1:J [] W1:=jbelow hJ h0 hb1
  have hx1:W.heap.size<W1.heap.size:=by rw [←hW1];simp
  have H:=Z (And.intro hW1 (And.intro hL1 (And.intro hbx (And.intro hnx (And.intro hE1 (And.intro hJ1 hx1))))))
  clear hW1 hL1 hbx hnx hE1 hJ1 hx1 hb1
  gi_wp2
  refine wpIn_wide.2 ?_
  go_region_held3 (fun w'=>w'.cell? ⟨b1,0,none⟩=some (.pointer (some ⟨g,0,none⟩))∧w'.cell? ⟨b2,0,none⟩=some (O U (m:Int))∧w'.cell? ⟨g,0,none⟩=some (.slice (some ⟨b,off,none⟩) p.nodes.length c)∧w'.cell? ⟨b,off+i * 5,none⟩=some (O U nd.spot.x)∧w'.cell? ⟨b,off+i * 5+1,none⟩=some (O U nd.spot.y)∧w'.cell? ⟨b,off+i * 5+2,none⟩=some (O U nd.kind)∧w'.cell? ⟨b,off+i * 5+3,none⟩=some (.slice An nd.ends.length cn)∧w'.cell? ⟨b,off+i * 5+4,none⟩=some (O U nd.normal))
    (first|go_keep|go_goals)
    ((go_at_call 142;rw [HX.out];refine (nodeAt_any g _ A2 c c2 p Lv _ Nv Bv (flip m) _ (by first|exact HN1.out|exact HN2.out) hx).mono ?_;rintro e w2 ⟨rfl,rfl⟩;rw [hat]))
  all_goals
    obtain⟨hW1,hL1,hbx,hnx,hE1,hJ1,hx1⟩:=H.out
    obtain⟨l1,l2,l3,l4,l5,l6⟩:=hL1.lt
    gi_wp2
    rw [hW1]
    clear hW1 HN1 HN2 x1 x2 k0 k1 k2 k3 k4 c0 c1 c3
    have hX:=HX.out
    have x1:=hL1.x1;have x2:=hL1.x2
    obtain⟨_,_,_,c3,_,_⟩:=hL1.net.cell
    obtain⟨y0,y1,y2,y3,y4⟩:=hbx
    have z:=hL1.row.cell (i:=flip m) (by rw [slots_len];exact hx)
    rw [hsx] at z
    have f0:(0:Int)≤((flip m:Nat):Int):=by omega
    have f1:((flip m:Nat):Int)<2 * (p.rails.length:Int):=by omega
    obtain⟨hkd1,hkd6,hkl,_,_⟩:=nodeB_parts (List.all_eq_true.1 hV.nodes _ (hnd ▸ List.getElem_mem hi))
    have he4:nd.ends.length≤4:=by have:=ends_le4 hV.nodes i hi;rw [hnd] at this;exact this
    obtain⟨L,hLe⟩:∃L,thru nd.kind nd.normal (k:Int)=L:=⟨_,rfl⟩
    have hT:∀W',Calls Tryz.prog 153 #[.agg #[O U nd.spot.x,O U nd.spot.y,O U nd.kind,.slice An nd.ends.length cn,O U nd.normal],O U (k:Int)] W' (ThruPost L W'):=fun W'=>by
      rw [←hLe];exact through_any nd An cn (k:Int) W' hkd1 hkd6 (by omega) (by omega)
    have HLe:=Z hLe;have HT:=Z hT
    have HF:=Z (And.intro hL1 (And.intro hE1 (And.intro y3 (And.intro hnx hJ1))))
    clear hLe hT hkd1 hkd6 hkl hL1 hE1 hnx hJ1 H HX
    refine wpIn_wide.2 ?_
    go_region_held3 (fun w'=>w'.cell? ⟨b1,0,none⟩=some (.pointer (some ⟨g,0,none⟩))∧w'.cell? ⟨b2,0,none⟩=some (O U (m:Int))∧w'.cell? ⟨g,3,none⟩=some (.slice (some ⟨sb,0,none⟩) (2 * p.rails.length) (2 * p.rails.length))∧w'.cell? ⟨sb,flip m,none⟩=some (O U (k:Int))∧w'.cell? ⟨W.heap.size,0,none⟩=some (O U nd.spot.x)∧w'.cell? ⟨W.heap.size,1,none⟩=some (O U nd.spot.y)∧w'.cell? ⟨W.heap.size,2,none⟩=some (O U nd.kind)∧w'.cell? ⟨W.heap.size,3,none⟩=some (.slice An nd.ends.length cn)∧w'.cell? ⟨W.heap.size,4,none⟩=some (O U nd.normal))
      (first|go_keep|exact⟨(hb2.cell (p:=⟨b1,0,none⟩) (by simp;omega)).trans x1,(hb2.cell (p:=⟨b2,0,none⟩) (by simp;omega)).trans x2,(hb2.cell (p:=⟨g,3,none⟩) (by simp;omega)).trans c3,(hb2.cell (p:=⟨sb,flip m,none⟩) (by simp;omega)).trans z,(hb2.cell (p:=⟨W.heap.size,0,none⟩) (by simp;omega)).trans y0,(hb2.cell (p:=⟨W.heap.size,1,none⟩) (by simp;omega)).trans y1,(hb2.cell (p:=⟨W.heap.size,2,none⟩) (by simp;omega)).trans y2,(hb2.cell (p:=⟨W.heap.size,3,none⟩) (by simp;omega)).trans y3,(hb2.cell (p:=⟨W.heap.size,4,none⟩) (by simp;omega)).trans y4⟩)
      ((go_at_call 153;refine (HT.out _).mono ?_;rintro e w2 ⟨v,rfl,ho,hb2⟩;obtain⟨At,ct,rfl,hct,hcm,_⟩:=ho.form))
    obtain⟨hL1,hE1,y3',hnx,hJ1⟩:=HF.out
    have hbw:Below W1.heap.size W1 w2:=(Below.refl _ _).drew.trans hb2
    have hntch:∀k,W1.heap.size≤k→¬Tch nb bb w2 k:=fun k hk h=>by
      have:=hL1.bd _ (Tch.of_cells (fun i=>hbw.cell (p:=⟨nb,i,none⟩) l5) (fun i=>hbw.cell (p:=⟨bb,i,none⟩) l6) h)
      omega
    have hkt:KT nb bb W1 w2:=KT.of_below hbw (Nat.le_refl _) l5 l6
    have hFx:LFix nb bb b1 b2 g sb (some ⟨b,off,none⟩) c A2 c2 p Lv Nv Bv m An nd cn W.heap.size At L w2:=
      ⟨hL1.keep hkt,hE1.keepS (fun _ _ h=>h) fun q v hq hv=>(hbw.cell (by omega)).trans hv,(hbw.cell (p:=⟨W.heap.size,3,none⟩) hx1).trans y3',hkt.keepsN hx1 hnx,ho.held hntch⟩
    have hJ2:J [] w2:=jbelow hJ hJ1 hbw
    have hlv:leaveL p m=L.map fun s=>endNo (endAt nd s):=by rw [←HLe.out];exact leaveL_eq hat hi hnd (by rw [slots_len];exact hx) hsx
    have hLb:∀s∈L,0≤s∧s<nd.ends.length:=by rw [←HLe.out];exact thru_lt (List.all_eq_true.1 hV.nodes _ (hnd ▸ List.getElem_mem hi)) hk
    have hok:∀e∈nd.ends,okE p i e:=by have:=hV.ends.1 i hi;rw [hnd] at this;exact this
    have hL2:L.length≤2:=by rw [←HLe.out];exact thru_le2 _ _ _
    have hll:(leaveL p m).length=L.length:=by rw [hlv,List.length_map]
    have hbd:∀z∈leaveL p m,0≤z∧z<((2 * p.rails.length:Nat):Int):=fun z hz=>by
      rw [hlv] at hz
      obtain⟨s,hs,rfl⟩:=List.mem_map.1 hz
      obtain⟨h1,h2⟩:=hLb s hs
      obtain⟨t,rfl⟩:=Int.eq_ofNat_of_zero_le h1
      rw [endAt_nat (show t<nd.ends.length by omega)]
      have:=endNo_bd (hok _ (List.getElem_mem (show t<nd.ends.length by omega)))
      exact⟨this.1,by have:=this.2;push_cast;exact this⟩
    obtain⟨LL,hLL⟩:∃LL:List (Mv (2 * p.rails.length)),LL.map (·.1)=leaveL p m:=⟨(leaveL p m).pmap Subtype.mk hbd,by simp [List.map_pmap]⟩
    have hLn:LL.length=L.length:=by rw [←hll,←hLL,List.length_map]
    have HQ:=Z (And.intro hFx (And.intro hJ2 (And.intro hlv (And.intro hLb (And.intro hok (And.intro hll (And.intro hLL hLn)))))))
    clear hL1 hE1 y3' hnx hJ1 HF hbw hntch hkt hFx hJ2 hlv hLb hok hbd hLL hLn hll hb2 ho x1 x2 c3 y0 y1 y2 y3 y4 z f0 f1 hX hk
    gi_wp2
    gi_loopw [29] (fun i wr=>∃j:Nat,j≤L.length∧i=O U (j:Int)∧J (LL.take j) wr∧LFix nb bb b1 b2 g sb (some ⟨b,off,none⟩) c A2 c2 p Lv Nv Bv m An nd cn W.heap.size At L wr) (fun i _=>L.length - (intOf i).toNat)
    case atStart=>exact⟨0,Nat.zero_le _,rfl,HQ.out.2.1,HQ.out.1⟩
    case round=>
      obtain⟨j,hj,rfl,hJj,hFx⟩:=hrel
      obtain⟨_,_,hlv,hLb,hok,hll,hLL,hLn⟩:=HQ.out
      by_cases hlt:j<L.length
      · obtain⟨tb,toff,hAt,hc,_⟩:=hFx.hd j hlt
        subst hAt
        obtain⟨s0,s1⟩:=hLb _ (List.getElem_mem hlt)
        obtain⟨s,hs⟩:=Int.eq_ofNat_of_zero_le s0
        rw [hs] at hc s1
        have hsl:s<nd.ends.length:=by omega
        obtain⟨b3,off3,hAn,hb3,m0,m1⟩:=end_at hFx.en hsl
        subst hAn
        obtain⟨e0,e1,_⟩:=hok _ (List.getElem_mem hsl)
        have bx:=hFx.bx
        have hjl:j<LL.length:=by rw [hLn];exact hlt
        have hval:(LL[j]).1=endNo nd.ends[s]:=by
          have:(LL.map (·.1))[j]? = some (endNo nd.ends[s]):=by rw [hLL,hlv];simp [hlt,hs,endAt_nat hsl]
          rw [List.getElem?_map,List.getElem?_eq_getElem hjl] at this
          exact Option.some.inj this
        have hstep:LL.take j ++ [LL[j]]=LL.take (j+1):=by simp [List.take_append_getElem,hjl]
        have hjlt:(LL.take j).length<(leaveL p m).length:=by rw [List.length_take];omega
        obtain⟨xj,hxj⟩:∃xj,LL[j]=xj:=⟨_,rfl⟩
        rw [hxj] at hval hstep
        have HS:=Z (And.intro hJj (And.intro hFx (And.intro hstep (And.intro hval hjlt))))
        clear hlv hLb hok hll hval hstep hJj hFx s0 hLL hLn hxj hjl hjlt
        gi_wp2
        refine⟨trivial,(fun h=>by cases h), ?_⟩
        refine CallsIn.mono (callsIn_wide.2 (endNumber_any nd.ends[s] _ e0 (by omega))) ?_
        rintro e w3 ⟨rfl,hb3⟩
        obtain⟨hJj,hFx,hstep,hval,hjlt⟩:=HS.out
        have hJ3:=jbelow hJ hJj hb3
        have hF3:=hFx.below hb3 (Nat.le_refl _)
        obtain⟨fn,tmps,assign,body,hy,hR⟩:=hY _ xj w3 hJ3 hjlt
        rw [hval] at hy
        rw [hstep] at hR
        have HR:=Z (And.intro hF3 hstep)
        clear hFx hstep hval hjlt hJ3 hF3 hJj bx m0 m1 hc
        gi_wp2
        refine⟨(fun h=>by cases h),hR.mono ?_⟩
        rintro e W3 (⟨rfl,hJ4,hk4⟩|⟨rfl,hJx3⟩)
        · gi_wp2
          go_roundw
          case rel=>exact⟨j+1,by omega,by go_num,hJ4,HR.out.1.keep hk4⟩
          case measure=>simp [intOf];omega
        · gi_wp2
          refine bodyPost_ret (results_none rfl _ _ _) rfl ?_
          exact⟨⟨_,rfl⟩,.inr ⟨_,trivial,hJx3⟩⟩
      · obtain rfl:j=L.length:=by omega
        gi_wp2
        go_end0
        exact⟨⟨_,rfl⟩,.inl ⟨LL,hLL,by rw [←hLn,List.take_length] at hJj;exact hJj⟩⟩
open Go.RowKit
def VRow (W:World) (b:Nat) (vs:List Value):Prop:=W.heap[b]? = some (.cells vs.toArray 22 (0,0))
section
variable {W W':World} {b:Nat} {vs:List Value}
theorem VRow.lt (h:VRow W b vs):b<W.heap.size:=(Array.getElem?_eq_some_iff.1 h).1
theorem VRow.cell (h:VRow W b vs) (i:Nat):W.cell? ⟨b,i,none⟩=vs[i]?:=by
  rw [cell_of_row _ b i _ 22 (0,0) h];simp
theorem VRow.frozen (h:VRow W b vs) (j:Nat):W.frozen? ⟨b,j,none⟩=false:=by
  unfold VRow at h
  simp [World.frozen?,h]
theorem VRow.set (h:VRow W b vs) (i:Nat) (u:Value):VRow (W.setCell ⟨b,i,none⟩ u) b (vs.set i u):=by
  unfold VRow
  rw [heap_set_sameG _ h]
  simp
end
structure Rws (nb bb base M:Nat) (vs us:List Value) (f h:Nat→List Int) (W:World):Prop where
  nk:VRow W nb vs
  bk:VRow W bb us
  nl:vs.length=M
  bl:us.length=M
  fo:∀(j:Nat) (v:Value),vs[j]? = some v→Own W base 3 1 fI v (f j)
  ho:∀(j:Nat) (v:Value),us[j]? = some v→Own W base 3 1 fI v (h j)
  dn:∀(i j:Nat) (v u:Value) (k:Nat),vs[i]? = some v→vs[j]? = some u→i≠j→v.ownBlock=some k→u.ownBlock≠some k
  db:∀(i j:Nat) (v u:Value) (k:Nat),us[i]? = some v→us[j]? = some u→i≠j→v.ownBlock=some k→u.ownBlock≠some k
  dx:∀(i j:Nat) (v u:Value) (k:Nat),vs[i]? = some v→us[j]? = some u→v.ownBlock=some k→u.ownBlock≠some k
  ne:nb≠bb
  b1:nb<base
  b2:bb<base
section
variable {nb bb base M:Nat} {vs us:List Value} {f h:Nat→List Int} {W W' W2:World}
theorem Rws.swap (R:Rws nb bb base M vs us f h W):Rws bb nb base M us vs h f W:=
  ⟨R.bk,R.nk,R.bl,R.nl,R.ho,R.fo,R.db,R.dn,fun i j v u k h1 h2 h3 h4=>R.dx j i u v k h2 h1 h4 h3,R.ne.symm,R.b2,R.b1⟩
theorem Tch.swap {k:Nat} (t:Tch nb bb W k):Tch bb nb W k:=by
  rcases t with e|e|⟨b,i,v,e,hc,hv⟩
  · exact .inr (.inl e)
  · exact .inl e
  · exact .inr (.inr ⟨b,i,v,e.symm,hc,hv⟩)
theorem KT.swap (k:KT nb bb W W'):KT bb nb W W':=
  ⟨k.size,fun j c t f hj hn=>k.same j c t f hj fun t=>hn t.swap,fun j t=>(k.tch j t.swap).imp Tch.swap id,fun hb j t=>k.bd (fun i ti=>hb i ti.swap) j t.swap⟩
theorem Rws.tch (R:Rws nb bb base M vs us f h W) {k:Nat} (t:Tch nb bb W k):k=nb∨k=bb∨(∃(i:Nat) (v:Value),vs[i]? = some v∧v.ownBlock=some k)∨∃(i:Nat) (v:Value),us[i]? = some v∧v.ownBlock=some k:=by
  rcases t with e|e|⟨b,i,v,e|e,hc,hv⟩
  · exact .inl e
  · exact .inr (.inl e)
  · subst e;rw [R.nk.cell] at hc;exact .inr (.inr (.inl ⟨i,v,hc,hv⟩))
  · subst e;rw [R.bk.cell] at hc;exact .inr (.inr (.inr ⟨i,v,hc,hv⟩))
theorem Rws.bd (R:Rws nb bb base M vs us f h W):∀k,Tch nb bb W k→k<W.heap.size:=fun k t=>by
  rcases R.tch t with rfl|rfl|⟨i,v,hv,e⟩|⟨i,v,hv,e⟩
  · exact R.nk.lt
  · exact R.bk.lt
  · exact ((R.fo i v hv).lt k e).2
  · exact ((R.ho i v hv).lt k e).2
theorem Rws.of_blocks (R:Rws nb bb base M vs us f h W) (hb:∀k,Tch nb bb W k→W'.heap[k]? = W.heap[k]?):Rws nb bb base M vs us f h W':=
  ⟨(hb nb (.inl rfl)).trans R.nk,(hb bb (.inr (.inl rfl))).trans R.bk,R.nl,R.bl,
   fun j v hv=>(R.fo j v hv).of_blocks fun k e=>hb k (.inr (.inr ⟨nb,j,v,.inl rfl,(R.nk.cell j).trans hv,e⟩)),
   fun j v hv=>(R.ho j v hv).of_blocks fun k e=>hb k (.inr (.inr ⟨bb,j,v,.inr rfl,(R.bk.cell j).trans hv,e⟩)),R.dn,R.db,R.dx,R.ne,R.b1,R.b2⟩
theorem Rws.below {B:Nat} (R:Rws nb bb base M vs us f h W) (hb:Below B W W') (hB:W.heap.size≤B):Rws nb bb base M vs us f h W':=
  R.of_blocks fun k t=>hb.block k (Nat.lt_of_lt_of_le (R.bd k t) hB)
theorem Rws.cells (R:Rws nb bb base M vs us f h W) {k:Nat} (t:Tch nb bb W k):∃c e,W.heap[k]? = some (.cells c e (0,0)):=by
  rcases R.tch t with rfl|rfl|⟨i,v,hv,e⟩|⟨i,v,hv,e⟩
  · exact⟨_,_,R.nk⟩
  · exact⟨_,_,R.bk⟩
  · rcases (R.fo i v hv).2 with⟨rfl,_⟩|⟨g,cap,cur,rfl,hb,hg,_⟩
    · cases e
    · cases e;exact⟨_,_,hg⟩
  · rcases (R.ho i v hv).2 with⟨rfl,_⟩|⟨g,cap,cur,rfl,hb,hg,_⟩
    · cases e
    · cases e;exact⟨_,_,hg⟩
theorem Rws.turn (R:Rws nb bb base M vs us f h W) {row:Option Nat} (hg:W.grownBy W' row) (hr:∀r,row=some r→∃o:Obj,W.heap[r]? = some o∧o.isCells=false):Rws nb bb base M vs us f h W':=
  R.of_blocks fun k t=>hg.block k (R.bd k t) fun e=>by
    obtain⟨o,h1,h2⟩:=hr k e.symm
    obtain⟨c,e',h3⟩:=R.cells t
    rw [h1] at h3;cases h3;simp [Obj.isCells] at h2
theorem Rws.put (R:Rws nb bb base M vs us f h W) {j:Nat} {v v':Value} {l:List Int} (hj:vs[j]? = some v) (hs:W.heap.size≤W2.heap.size)
    (hb:∀k,k<W.heap.size→k≠nb→some k≠v.ownBlock→W2.heap[k]? = W.heap[k]?) (hn:VRow W2 nb (vs.set j v')) (hown:Own W2 base 3 1 fI v' l)
    (hw:v'.ownBlock=v.ownBlock∨v'.ownBlock=some W.heap.size) :
    Rws nb bb base M (vs.set j v') us (fun i=>if i=j then l else f i) h W2∧KT nb bb W W2:=by
  have hjl:j<vs.length:=(List.getElem?_eq_some_iff.1 hj).1
  have hget:∀i u,(vs.set j v')[i]? = some u→(i=j∧u=v')∨(i≠j∧vs[i]? = some u):=fun i u hu=>by
    rw [List.getElem?_set] at hu
    by_cases e:j=i
    · subst e;rw [if_pos rfl,if_pos hjl] at hu;exact .inl ⟨rfl,(Option.some.inj hu).symm⟩
    · rw [if_neg e] at hu;exact .inr ⟨fun h=>e h.symm,hu⟩
  have hR:Rws nb bb base M (vs.set j v') us (fun i=>if i=j then l else f i) h W2:=by
    refine⟨hn, ?_,by rw [List.length_set];exact R.nl,R.bl, ?_, ?_, ?_,R.db, ?_,R.ne,R.b1,R.b2⟩
    · refine (hb bb R.bk.lt R.ne.symm fun e=> ?_).trans R.bk
      have:=((R.fo j v hj).lt bb e.symm).1;have:=R.b2;omega
    · intro i u hu
      rcases hget i u hu with⟨rfl,rfl⟩|⟨hne,hu⟩
      · simpa using hown
      · simp only [if_neg hne]
        exact (R.fo i u hu).of_blocks fun k e=>hb k ((R.fo i u hu).lt k e).2 (by have:=((R.fo i u hu).lt k e).1;have:=R.b1;omega) fun e'=>R.dn i j u v k hu hj hne e e'.symm
    · intro i u hu
      exact (R.ho i u hu).of_blocks fun k e=>hb k ((R.ho i u hu).lt k e).2 (by have:=((R.ho i u hu).lt k e).1;have:=R.b1;omega) fun e'=>R.dx j i v u k hj hu e'.symm e
    · intro i i' a u k ha hu hne hk hk'
      rcases hget i a ha with⟨rfl,rfl⟩|⟨hne1,ha2⟩ <;> rcases hget i' u hu with⟨rfl,rfl⟩|⟨hne2,hu2⟩
      · exact hne rfl
      · rcases hw with hw|hw
        · exact R.dn i i' v u k hj hu2 hne (hw ▸ hk) hk'
        · rw [hw] at hk;cases hk;have:=((R.fo i' u hu2).lt _ hk').2;omega
      · rcases hw with hw|hw
        · exact R.dn i i' a v k ha2 hj hne hk (hw ▸ hk')
        · rw [hw] at hk';cases hk';have:=((R.fo i a ha2).lt _ hk).2;omega
      · exact R.dn i i' a u k ha2 hu2 hne hk hk'
    · intro i i' a u k ha hu hk hk'
      rcases hget i a ha with⟨rfl,rfl⟩|⟨hne1,ha⟩
      · rcases hw with hw|hw
        · exact R.dx i i' v u k hj hu (hw ▸ hk) hk'
        · rw [hw] at hk;cases hk;have:=((R.ho i' u hu).lt _ hk').2;omega
      · exact R.dx i i' a u k ha hu hk hk'
  refine⟨hR,hs, ?_, ?_,fun _=>hR.bd⟩
  · intro k c t f' hk hn'
    refine (hb k (Array.getElem?_eq_some_iff.1 hk).1 (fun e=>hn' (.inl e)) fun e=>hn' (.inr (.inr ⟨nb,j,v,.inl rfl,(R.nk.cell j).trans hj,e.symm⟩))).trans hk
  · intro k t
    rcases hR.tch t with rfl|rfl|⟨i,u,hu,e⟩|⟨i,u,hu,e⟩
    · exact .inl (.inl rfl)
    · exact .inl (.inr (.inl rfl))
    · rcases hget i u hu with⟨rfl,rfl⟩|⟨hne,hu⟩
      · rcases hw with hw|hw
        · exact .inl (.inr (.inr ⟨nb,i,v,.inl rfl,(R.nk.cell i).trans hj,hw ▸ e⟩))
        · rw [hw] at e;cases e;exact .inr (Nat.le_refl _)
      · exact .inl (.inr (.inr ⟨nb,i,u,.inl rfl,(R.nk.cell i).trans hu,e⟩))
    · exact .inl (.inr (.inr ⟨bb,i,u,.inr rfl,(R.bk.cell i).trans hu,e⟩))
end
open Go.RowKit Go.Shelf
attribute [local go_sem] Oper.semAt_some
theorem info22:(Tryz.prog.info? 22).map (fun i=>(i.zero,i.size,i.bytes))=some (some (.slice none 0 0),1,24):=by kernel_rfl
def nextL (p:Pl) (x:Nat):List Int:=(leaveL p x).mergeSort fun x y=>decide (x≤y)
def befL (p:Pl) (k y:Nat):List Int:=(List.range k).flatMap fun x=>((leaveL p x).filter fun z=>z == (y:Int)).map fun _=>(x:Int)
theorem VRow.made (W:World) (m:Nat):VRow (W.alloc (.cells (madeCells #[.slice none 0 0] m) 22)) W.heap.size (List.replicate m (.slice none 0 0)):=by
  unfold VRow
  rw [heap_alloc_new]
  congr 2
  apply Array.ext
  · simp [madeCells]
  · intro i h1 h2
    simp [madeCells,Nat.mod_one]
theorem VRow.below {W W':World} {b B:Nat} {vs:List Value} (h:VRow W b vs) (hb:Below B W W') (hB:b<B):VRow W' b vs:=(hb.block b hB).trans h
theorem cell_made (W:World) (v:Value) (t:TypeId):(W.alloc (.cells #[v] t)).cell? ⟨W.heap.size,0,none⟩=some v:=by
  rw [cell_of_row _ _ 0 _ t (0,0) (heap_alloc_new W _)];rfl
theorem IRow.drew {W:World} {b:Nat} {l:List Int} (h:IRow W b l):IRow W.drew b l:=h
theorem VRow.drew {W:World} {b:Nat} {l:List Value} (h:VRow W b l):VRow W.drew b l:=h
theorem Rws.low {nb bb base M:Nat} {vs us:List Value} {f h:Nat→List Int} {W:World} (R:Rws nb bb base M vs us f h W) {k:Nat} (h1:k<base) (h2:k≠nb) (h3:k≠bb):¬Tch nb bb W k:=fun t=>by
  rcases R.tch t with e|e|⟨i,v,hv,e⟩|⟨i,v,hv,e⟩
  · exact h2 e
  · exact h3 e
  · have:=((R.fo i v hv).lt k e).1;omega
  · have:=((R.ho i v hv).lt k e).1;omega
def Mk (B:Nat) (ds:List Deferred) (W:World):Prop:=
  ∃Ds:List Nat,ds=Ds.map (fun D=>{target:= .collected D,args:=#[]})∧Ds.Nodup∧∀D∈Ds,B≤D∧W.heap[D]? = some (.deferred (some []))
theorem Mk.nil (B:Nat) (W:World):Mk B [] W:=⟨[],rfl,List.nodup_nil,fun _ h=>by cases h⟩
theorem Mk.lt {B:Nat} {Ds:List Nat} {W:World} (h:∀D∈Ds,B≤D∧W.heap[D]? = some (.deferred (some []))):∀D∈Ds,D<W.heap.size:=fun D hD=>(Array.getElem?_eq_some_iff.1 (h D hD).2).1
theorem Mk.keep {B:Nat} {ds:List Deferred} {W W':World} (h:Mk B ds W) (hk:∀D:Nat,W.heap[D]? = some (.deferred (some []))→W'.heap[D]? = some (.deferred (some []))):Mk B ds W':=by
  obtain⟨Ds,e,hn,h⟩:=h
  exact⟨Ds,e,hn,fun D hD=>⟨(h D hD).1,hk D (h D hD).2⟩⟩
theorem Mk.more {B D:Nat} {ds:List Deferred} {W W':World} (h:Mk B ds W) (hk:∀D:Nat,W.heap[D]? = some (.deferred (some []))→W'.heap[D]? = some (.deferred (some []))) (hD:W.heap.size≤D) (hB:B≤D) (hd:W'.heap[D]? = some (.deferred (some []))) :
    Mk B ({target:= .collected D,args:=#[]} :: ds) W':=by
  obtain⟨Ds,rfl,hn,h⟩:=h
  refine⟨D :: Ds,rfl,List.nodup_cons.2 ⟨fun hm=> ?_,hn⟩,fun E hE=> ?_⟩
  · have:=Mk.lt h D hm;omega
  · rcases List.mem_cons.1 hE with rfl|hE
    · exact⟨hB,hd⟩
    · exact⟨(h E hE).1,hk E (h E hE).2⟩
structure LK (nb bb B M:Nat) (p:Pl) (W2:World) (k:Nat) (W:World):Prop where
  be:Below B W2 W
  kt:KT nb bb W2 W
  rw:∃vs us,Rws nb bb (B+3) M vs us (fun j=>if j<k then nextL p j else []) (befL p k) W
theorem LK.start {B M:Nat} {p:Pl} {W2:World} (hv:VRow W2 (B+1) (List.replicate M (.slice none 0 0))) (hu:VRow W2 (B+2) (List.replicate M (.slice none 0 0))) (hz:W2.heap.size=B+3) :
    LK (B+1) (B+2) B M p W2 0 W2:=by
  refine⟨Below.refl _ _,KT.of_below (Below.refl W2.heap.size W2) (Nat.le_refl _) (by omega) (by omega),_,_,hv,hu,by simp,by simp, ?_, ?_, ?_, ?_, ?_,by omega,by omega,by omega⟩
  · intro j v h
    obtain⟨_,rfl⟩:=List.getElem?_replicate.symm.trans h |> fun e=>by simpa [List.getElem?_replicate] using h
    simpa using Own.nil W2 (B+3) 3 1 fI
  · intro j v h
    obtain⟨_,rfl⟩:=by simpa [List.getElem?_replicate] using h
    simpa [befL] using Own.nil W2 (B+3) 3 1 fI
  all_goals
    intro i j v u k h1 h2
    have h1':v= .slice none 0 0:=by have:=h1;simp [List.getElem?_replicate] at this;exact this.2.symm
    subst h1'
    intros
    simp_all [Value.ownBlock]
structure Hd (nb bb B g sb:Nat) (A:Option Addr) (c:Nat) (A2:Option Addr) (c2:Nat) (p:Pl) (Lv Nv Bv:Value) (W:World):Prop where
  x:W.cell? ⟨B,0,none⟩=some (.pointer (some ⟨g,0,none⟩))
  net:Net W g A c A2 c2 p Lv (.slice (some ⟨sb,0,none⟩) (2 * p.rails.length) (2 * p.rails.length)) Nv Bv
  row:IRow W sb (slotsOf p)
  lo:∀j,j≤B→¬Tch nb bb W j
  gl:g<B
  sl:sb<B
  bd:∀k,Tch nb bb W k→k<W.heap.size
section
variable {nb bb B g sb:Nat} {A A2:Option Addr} {c c2:Nat} {p:Pl} {Lv Nv Bv:Value} {W W':World}
theorem Hd.keep (h:Hd nb bb B g sb A c A2 c2 p Lv Nv Bv W) (k:KT nb bb W W'):Hd nb bb B g sb A c A2 c2 p Lv Nv Bv W' where
  x:=k.cell h.x (h.lo B (Nat.le_refl _))
  net:=⟨k.same g _ _ _ h.net.blk (h.lo g (Nat.le_of_lt h.gl)),h.net.pl.keepS fun q v hq hv=>k.cell hv (h.lo _ (by have:=h.gl;omega))⟩
  row:=k.same sb _ _ _ h.row (h.lo sb (Nat.le_of_lt h.sl))
  lo:=fun j hj=>k.keepsN (by have:=World.block_lt_of_cell? W _ h.x;simp at this;omega) (h.lo j hj)
  gl:=h.gl
  sl:=h.sl
  bd:=k.bd h.bd
theorem Hd.lv (h:Hd nb bb B g sb A c A2 c2 p Lv Nv Bv W) {b1 b2 m:Nat} (x1:W.cell? ⟨b1,0,none⟩=some (.pointer (some ⟨g,0,none⟩))) (x2:W.cell? ⟨b2,0,none⟩=some (O U (m:Int))) (n1:¬Tch nb bb W b1) (n2:¬Tch nb bb W b2) :
    LvAt nb bb b1 b2 g sb A c A2 c2 p Lv Nv Bv m W:=
  ⟨x1,x2,h.net,h.row,n1,n2,h.lo sb (Nat.le_of_lt h.sl),fun k hk=>h.lo k (by have:=h.gl;omega),h.bd⟩
end
structure LI (nb bb B M:Nat) (p:Pl) (W2:World) (k:Nat) (w3:World) (pre:List Int) (W:World):Prop where
  be:Below B W2 W
  kt:KT nb bb W2 W
  k3:KT nb bb w3 W
  dm:∀D:Nat,w3.heap[D]? = some (.deferred (some []))→W.heap[D]? = some (.deferred (some []))
  rw:∃vs us,Rws nb bb (B+3) M vs us (fun j=>if j<k then nextL p j else if j=k then pre else []) (fun y=>befL p k y ++ (pre.filter fun z=>z == (y:Int)).map fun _=>(k:Int)) W
section
variable {nb bb B M base:Nat} {p:Pl} {W2 W W' w3:World} {k:Nat} {vs us:List Value} {f h:Nat→List Int}
theorem Rws.ktTurn (R:Rws nb bb base M vs us f h W) {row:Option Nat} (hg:W.grownBy W' row) (hr:∀r,row=some r→∃o:Obj,W.heap[r]? = some o∧o.isCells=false):KT nb bb W W' where
  size:=hg.size
  same:=fun k c t f' hk _=>(hg.block k (Array.getElem?_eq_some_iff.1 hk).1 fun e=>by
    obtain⟨o,h1,h2⟩:=hr k e.symm
    rw [hk] at h1;cases h1;simp [Obj.isCells] at h2).trans hk
  tch:=fun k t=> .inl (by
    have R':=R.turn hg hr
    rcases R'.tch t with rfl|rfl|⟨i,u,hu,e⟩|⟨i,u,hu,e⟩
    · exact .inl rfl
    · exact .inr (.inl rfl)
    · exact .inr (.inr ⟨nb,i,u,.inl rfl,(R.nk.cell i).trans hu,e⟩)
    · exact .inr (.inr ⟨bb,i,u,.inr rfl,(R.bk.cell i).trans hu,e⟩))
  bd:=fun _=>(R.turn hg hr).bd
theorem LI.own (hB:B≤w3.heap.size) (hB2:B≤W2.heap.size):OwnFrom w3.heap.size (LI nb bb B M p W2 k w3):=fun pre W W' row hs hg hr=>by
  obtain⟨vs,us,R⟩:=hs.rw
  have hr':∀r,row=some r→∃o:Obj,W.heap[r]? = some o∧o.isCells=false:=fun r e=>(hr r e).2
  have hkt:=R.ktTurn hg hr'
  refine⟨hs.be.trans ⟨hg.os,hg.tape,hg.output,hg.size,fun i hi=>hg.block i (by have:=hs.be.size;omega) fun e=>by have:=(hr i e.symm).1;omega⟩,hs.kt.trans hkt,hs.k3.trans hkt,fun D hD=> ?_,vs,us,R.turn hg hr'⟩
  have h1:=hs.dm D hD
  have hl:=(Array.getElem?_eq_some_iff.1 hD).1
  exact (hg.block D (by have:=hs.k3.size;omega) fun e=>by have:=(hr D e.symm).1;omega).trans h1
theorem befL_succ (p:Pl) (k y:Nat):befL p (k+1) y=befL p k y ++ ((leaveL p k).filter fun z=>z == (y:Int)).map fun _=>(k:Int):=by
  unfold befL
  rw [List.range_succ,List.flatMap_append]
  simp
theorem LK.li (h:LK nb bb B M p W2 k W) (hk:KT nb bb W w3) (hb:Below W.heap.size W w3) (hB:B≤W.heap.size):LI nb bb B M p W2 k w3 [] w3:=by
  obtain⟨vs,us,R⟩:=h.rw
  refine⟨h.be.trans (hb.mono hB),h.kt.trans hk,⟨Nat.le_refl _,fun _ _ _ _ h _=>h,fun _ t=> .inl t,fun h=>h⟩,fun _ h=>h,vs,us, ?_⟩
  have R':=R.below hb (Nat.le_refl _)
  refine {R' with fo:=fun j v hv=> ?_,ho:=fun j v hv=> ?_}
  · have:=R'.fo j v hv
    rw [show (if j<k then nextL p j else if j=k then [] else [])=(if j<k then nextL p j else []) by split <;> simp]
    exact this
  · simpa using R'.ho j v hv
end
theorem three_cells (W:World) (x y z:Value) (t1 t2 t3:TypeId) :
    (((W.alloc (.cells #[x] t1)).alloc (.cells #[y] t2)).alloc (.cells #[z] t3)).cell? ⟨W.heap.size,0,none⟩=some x∧
    (((W.alloc (.cells #[x] t1)).alloc (.cells #[y] t2)).alloc (.cells #[z] t3)).cell? ⟨W.heap.size+1,0,none⟩=some y∧
    (((W.alloc (.cells #[x] t1)).alloc (.cells #[y] t2)).alloc (.cells #[z] t3)).cell? ⟨W.heap.size+2,0,none⟩=some z:=by
  have h1:=cell_made W x t1
  have h2:=cell_made (W.alloc (.cells #[x] t1)) y t2
  have h3:=cell_made ((W.alloc (.cells #[x] t1)).alloc (.cells #[y] t2)) z t3
  have b2:=(Below.refl (W.heap.size+2) ((W.alloc (.cells #[x] t1)).alloc (.cells #[y] t2))).alloc (by simp) (.cells #[z] t3)
  have b1:=(Below.refl (W.heap.size+1) (W.alloc (.cells #[x] t1))).alloc (by simp) (.cells #[y] t2)
  simp only [World.size_alloc] at h2 h3
  exact⟨(b2.cell (p:=⟨W.heap.size,0,none⟩) (by simp)).trans ((b1.cell (p:=⟨W.heap.size,0,none⟩) (by simp)).trans h1),(b2.cell (p:=⟨W.heap.size+1,0,none⟩) (by simp)).trans h2,h3⟩
theorem LI.done {nb bb B M:Nat} {p:Pl} {W2 W5 W6 w3:World} {k:Nat} {vs us:List Value} {v:Value} (hI:LI nb bb B M p W2 k w3 (leaveL p k) W5)
    (R:Rws nb bb (B+3) M vs us (fun j=>if j<k then nextL p j else if j=k then leaveL p k else []) (fun y=>befL p k y ++ ((leaveL p k).filter fun z=>z == (y:Int)).map fun _=>(k:Int)) W5)
    (hv:vs[k]? = some v) (hg:W5.grownBy W6 v.ownBlock) (ho:Own W6 (B+3) 3 1 fI v (nextL p k)) (hB:B≤W2.heap.size) :
    LK nb bb B M p W2 (k+1) W6∧∀D:Nat,W5.heap[D]? = some (.deferred (some []))→W6.heap[D]? = some (.deferred (some [])):=by
  have hset:vs.set k v=vs:=by
    apply List.ext_getElem?
    intro i
    rw [List.getElem?_set]
    by_cases e:k=i
    · subst e;rw [if_pos rfl,if_pos (List.getElem?_eq_some_iff.1 hv).1,hv]
    · rw [if_neg e]
  have hl:=(R.fo k v hv).lt
  have hput:=R.put (W2:=W6) (v':=v) (l:=nextL p k) hv hg.size (fun j hj _ hne=>hg.block j hj hne) (by rw [hset];exact (hg.block nb R.nk.lt fun e=>by have:=(hl nb e.symm).1;have:=R.b1;omega).trans R.nk) ho (.inl rfl)
  refine⟨⟨hI.be.trans ⟨hg.os,hg.tape,hg.output,hg.size,fun i hi=>hg.block i (by have:=hI.be.size;omega) fun e=>by have:=(hl i e.symm).1;omega⟩,hI.kt.trans hput.2,vs.set k v,us, ?_⟩,fun D hD=> ?_⟩
  · have R6:=hput.1
    have e1:(fun i=>if i=k then nextL p k else if i<k then nextL p i else if i=k then leaveL p k else [])=fun j=>if j<k+1 then nextL p j else []:=by
      funext j
      by_cases h1:j=k
      · subst h1;simp
      · by_cases h2:j<k
        · simp [h1,h2,show j<k+1 by omega]
        · simp [h1,h2,show ¬j<k+1 by omega]
    have e2:(fun y=>befL p k y ++ ((leaveL p k).filter fun z=>z == (y:Int)).map fun _=>(k:Int))=befL p (k+1):=by
      funext y;rw [befL_succ]
    rw [e1,e2] at R6
    exact R6
  · refine (hg.block D (Array.getElem?_eq_some_iff.1 hD).1 fun e=> ?_).trans hD
    obtain⟨c,e',h3⟩:=R.cells (.inr (.inr ⟨nb,k,v,.inl rfl,(R.nk.cell k).trans hv,e.symm⟩))
    rw [hD] at h3;cases h3
theorem leaves_marks {P:Program} {fn:Func} {tmps:Array Value} {R:Ending→World→Prop} {F:Fence} {n:Nat} {v:Value} (hres:fn.results.size=0) :
    ∀(Ds:List Nat) (W:World),Ds.Nodup→(∀D∈Ds,W.heap[D]? = some (.deferred (some [])))→
      (∀W',(∀k,(∀D∈Ds,k≠D)→W'.heap[k]? = W.heap[k]?)→W'.heap.size=W.heap.size→W'.os=W.os→W'.tape=W.tape→W'.output=W.output→LeavesInM F n P fn tmps R [] .returning W')→
      LeavesInM F n P fn tmps R (Ds.map fun D=>{target:= .collected D,args:=#[]}) .returning W:=by
  intro Ds
  induction Ds with
  | nil=>intro W _ _ h;exact h W (fun _ _=>rfl) rfl rfl rfl rfl
  | cons D Ds ih=>
    intro W hn hd h
    have hD:=hd D (by simp)
    rw [List.nodup_cons] at hn
    refine⟨by simp,.inl ⟨_,_,rfl,run_takeDeferred hD,ih _ hn.2 (fun E hE=> ?_) fun W' hb hs h1 h2 h3=> ?_⟩⟩
    · exact (World.putObj_heap_other (by rintro rfl;exact hn.1 hE)).trans (hd E (List.mem_cons_of_mem _ hE))
    · refine h W' (fun k hk=>(hb k fun E hE=>hk E (List.mem_cons_of_mem _ hE)).trans (World.putObj_heap_other (hk D (by simp)))) (by simpa using hs) h1 h2 h3
theorem Rws.push {nb bb base M B:Nat} {vs us:List Value} {f h:Nat→List Int} {W w':World} {j:Nat} {v v':Value} {l:List Int} (R:Rws nb bb base M vs us f h W) (hj:vs[j]? = some v) (hg:W.grownBy w' v.ownBlock)
    (ho:Own w' base 3 1 fI v' l) (hw:v'.ownBlock=v.ownBlock∨v'.ownBlock=some W.heap.size) (hB:B≤nb) :
    Rws nb bb base M (vs.set j v') us (fun i=>if i=j then l else f i) h (w'.setCell ⟨nb,j,none⟩ v')∧KT nb bb W (w'.setCell ⟨nb,j,none⟩ v')∧KeepsOthers W (w'.setCell ⟨nb,j,none⟩ v')∧Below B W (w'.setCell ⟨nb,j,none⟩ v'):=by
  have hl:=(R.fo j v hj).lt
  have hb1:=R.b1
  have hnb:w'.heap[nb]? = W.heap[nb]?:=hg.block nb R.nk.lt fun e=>by have:=(hl nb e.symm).1;omega
  have hother:∀k,k≠nb→(w'.setCell ⟨nb,j,none⟩ v').heap[k]? = w'.heap[k]?:=fun k hk=>Below.heap_setCell _ _ _ k hk
  have hsz:(w'.setCell ⟨nb,j,none⟩ v').heap.size=w'.heap.size:=World.size_setCell _ _ _
  have hput:=R.put (W2:=w'.setCell ⟨nb,j,none⟩ v') (v':=v') (l:=l) hj (by rw [hsz];exact hg.size) (fun k hk hne hr=>(hother k hne).trans (hg.block k hk hr)) (VRow.set (hnb.trans R.nk) j v')
    (ho.of_blocks fun k hk=>hother k (by have:=(ho.lt k hk).1;omega)) hw
  refine⟨hput.1,hput.2,⟨by rw [hsz];exact hg.size,fun k o hk hoc=> ?_⟩,⟨hg.os,hg.tape,hg.output,by rw [hsz];exact hg.size,fun k hk=>(hother k (by omega)).trans (hg.block k (by have:=R.nk.lt;omega) fun e=>by have:=(hl k e.symm).1;omega)⟩⟩
  have hkn:k≠nb:=by rintro rfl;rw [R.nk] at hk;cases hk;simp [Obj.isCells] at hoc
  refine (hother k hkn).trans ((hg.block k (Array.getElem?_eq_some_iff.1 hk).1 fun e=> ?_).trans hk)
  obtain⟨c,e',h3⟩:=R.cells (.inr (.inr ⟨nb,j,v,.inl rfl,(R.nk.cell j).trans hj,e.symm⟩))
  rw [hk] at h3;cases h3;simp [Obj.isCells] at hoc
theorem keepsOthers_below {W W':World} (hb:Below W.heap.size W W'):KeepsOthers W W':=⟨hb.size,fun k o hk _=>(hb.block k (Array.getElem?_eq_some_iff.1 hk).1).trans hk⟩
theorem LI.step {nb bb B M:Nat} {p:Pl} {W2 W5 We w3:World} {k y:Nat} {q:List Int} {vs us:List Value} (hI:LI nb bb B M p W2 k w3 q W5) (hkt:KT nb bb W5 We) (hko:KeepsOthers W5 We) (hbe:Below B W5 We)
    (R:Rws nb bb (B+3) M vs us (fun i=>if i=k then q ++ [(y:Int)] else if i<k then nextL p i else if i=k then q else [])
      (fun i=>if i=y then befL p k y ++ ((q.filter fun z=>z == (y:Int)).map fun _=>(k:Int)) ++ [(k:Int)] else befL p k i ++ ((q.filter fun z=>z == (i:Int)).map fun _=>(k:Int))) We) :
    KeepsFrom w3.heap.size W5 We∧KT nb bb W5 We∧LI nb bb B M p W2 k w3 (q ++ [(y:Int)]) We:=by
  refine⟨hko.from _,hkt,hI.be.trans hbe,hI.kt.trans hkt,hI.k3.trans hkt,fun D hD=>hko.same D _ (hI.dm D hD) rfl,vs,us, ?_⟩
  have e1:(fun i=>if i=k then q ++ [(y:Int)] else if i<k then nextL p i else if i=k then q else [])=fun j=>if j<k then nextL p j else if j=k then q ++ [(y:Int)] else []:=by
    funext j
    by_cases h1:j=k
    · subst h1;simp
    · simp [h1]
  have e2:(fun i=>if i=y then befL p k y ++ ((q.filter fun z=>z == (y:Int)).map fun _=>(k:Int)) ++ [(k:Int)] else befL p k i ++ ((q.filter fun z=>z == (i:Int)).map fun _=>(k:Int)))=fun i=>befL p k i ++ (((q ++ [(y:Int)]).filter fun z=>z == (i:Int)).map fun _=>(k:Int)):=by
    funext i
    rw [List.filter_append,List.map_append]
    by_cases h1:i=y
    · subst h1;simp
    · have:((y:Int) == (i:Int))=false:=by simp;omega
      simp [h1,this]
  rw [e1,e2] at R
  exact R
theorem leaveL_le2 (p:Pl) (m:Nat):(leaveL p m).length≤2:=by unfold leaveL;rw [List.length_map];exact thru_le2 _ _ _
theorem befL_len (p:Pl) (y:Nat):∀k,(befL p k y).length≤2 * k:=by
  intro k
  induction k with
  | zero=>simp [befL]
  | succ k ih=>
    rw [befL_succ,List.length_append,List.length_map]
    have h1:=List.length_filter_le (fun z=>z == (y:Int)) (leaveL p k)
    have h2:=leaveL_le2 p k
    omega
def LTm (g B s m M:Nat) (A2:Option Addr) (c2:Nat) (k:Nat) (u:Nat→Value):Array Value:=#[.pointer (some ⟨g,0,none⟩),.pointer (some ⟨B,0,none⟩),u 2,u 3,.pointer (some ⟨g,0,none⟩),.pointer (some ⟨g,0,none⟩),.pointer (some ⟨g,0,none⟩),.pointer (some ⟨g,0,none⟩),.pointer (some ⟨g,1,none⟩),.slice A2 m c2,O U (m:Int),O U (2 * (m:Int)),.slice (some ⟨B+1,0,none⟩) (2 * m) (2 * m),.pointer (some ⟨g,0,none⟩),.pointer (some ⟨g,4,none⟩),.pointer (some ⟨g,0,none⟩),.pointer (some ⟨g,0,none⟩),.pointer (some ⟨g,0,none⟩),.pointer (some ⟨g,0,none⟩),.pointer (some ⟨g,1,none⟩),.slice A2 m c2,O U (m:Int),O U (2 * (m:Int)),.slice (some ⟨s,0,none⟩) (2 * m) (2 * m),.pointer (some ⟨g,0,none⟩),.pointer (some ⟨g,5,none⟩),.pointer (some ⟨g,0,none⟩),.pointer (some ⟨g,0,none⟩),.pointer (some ⟨g,4,none⟩),.slice (some ⟨B+1,0,none⟩) M M,O U (M:Int),O U (k:Int),u 32,u 33,u 34,u 35,u 36,u 37,u 38,u 39,u 40,u 41,u 42,u 43,u 44,u 45,u 46,u 47,u 48,u 49,u 50,u 51,u 52,u 53,u 54,u 55,u 56,u 57,u 58,u 59,u 60,u 61,u 62,u 63,u 64,u 65,u 66,u 67,u 68,u 69,u 70,u 71,u 72,u 73,u 74,u 75,u 76,u 77,u 78]
end Go.Proofs.YtfhkbbjddjddmaaGreat
