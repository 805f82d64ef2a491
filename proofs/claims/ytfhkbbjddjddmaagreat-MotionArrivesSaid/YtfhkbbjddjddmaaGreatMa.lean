/- Texts M1 M2 M3 M4. -/
import Derived.Test.YtfhkbbjddjddmaaGreatKt
import Derived.Test.YtfhkbbjddjddmaaGreatProg
import Derived.Laws.EntriesVeiled
set_option linter.unusedVariables false
set_option linter.unusedSimpArgs false
open Go.Value renaming int→O
open Go.IntKind renaming i64→U
open Go.Lib renaming hid→Z
namespace Go.Proofs.YtfhkbbjddjddmaaGreat
open Go.RowKit
structure Tr where
 mass:Int
 len:Int
 speed:Int
 effort:Int
 brake:Int
 power:Int
 resist:Int
 rise:Int
 back:Int
 grip:List Int
def inB (x lo hi:Int):Bool:=decide (lo≤x) && decide (x≤hi)
def fitsB (t:Tr):Bool:=inB t.mass 1000 80000 && (inB t.len 1 60000 && (inB t.effort 1 200000 && (inB t.brake 1 200000 && (inB t.power 1 2000000 && (inB t.resist 0 100000 && inB t.rise 0 10000)))))
def gripsB (l:List Int):Bool:=l.all (fun g=>inB g 1 1000) && inB (l.length:Int) 1 8
def rightB (t:Tr):Bool:=fitsB t && (inB t.back 0 100 && (inB t.speed 1 25000 && gripsB t.grip))
set_option maxRecDepth 100000 in
set_option maxHeartbeats 4000000 in
theorem within_any (x lo hi:Int) (w:World):Calls Tryz.prog 54 #[O U x,O U lo,O U hi] w fun e w'=>e= .returned (.bool (inB x lo hi))∧w=w':=by
 by_cases h1:lo≤x
 ·have HE:=Z (show inB x lo hi=decide (x≤hi) by unfold inB;rw [decide_eq_true h1,Bool.true_and])
  go_enter Tryz.func54,Tryz.ntmps54
  go_wp2
  go_ret
  exact⟨by rw [HE.out];first|done|rfl|simp,rfl⟩
 ·have HE:=Z (show inB x lo hi=false by unfold inB;rw [decide_eq_false h1,Bool.false_and])
  go_enter Tryz.func54,Tryz.ntmps54
  go_wp2
  go_ret
  exact⟨by rw [HE.out];first|done|rfl|simp,rfl⟩
set_option maxRecDepth 100000 in
set_option maxHeartbeats 4000000 in
theorem in_any (x lo hi:Int) (w:World):Calls Tryz.prog 42 #[O U x,O U lo,O U hi] w fun e w'=>e= .returned (.bool (inB x lo hi))∧w=w':=by
 by_cases h1:lo≤x
 ·have HE:=Z (show inB x lo hi=decide (x≤hi) by unfold inB;rw [decide_eq_true h1,Bool.true_and])
  go_enter Tryz.func42,Tryz.ntmps42
  go_wp2
  go_ret
  exact⟨by rw [HE.out];first|done|rfl|simp,rfl⟩
 ·have HE:=Z (show inB x lo hi=false by unfold inB;rw [decide_eq_false h1,Bool.false_and])
  go_enter Tryz.func42,Tryz.ntmps42
  go_wp2
  go_ret
  exact⟨by rw [HE.out];first|done|rfl|simp,rfl⟩
set_option maxRecDepth 100000 in
set_option maxHeartbeats 4000000 in
theorem gripsRight_any (A:Option Addr) (c n:Nat) (l:List Int) (w:World) (hn:l.length=n) (hn2:n≤140737488351232) (hS:Sl w w.heap.size 1 CI A l) :
  Calls Tryz.prog 70 #[.slice A n c] w fun e w'=>e= .returned (.bool (gripsB l))∧w=w':=by
 have HS:=Z hS;have HN:=Z hn
 have HW:=Z (fun x lo hi=>within_any x lo hi w)
 clear hS hn
 go_enter Tryz.func70,Tryz.ntmps70
 go_wp2
 go_loopw [7] (fun s7 wr=>∃i:Nat,i≤n∧s7=O U (i:Int)∧(l.take i).all (fun g=>inB g 1 1000)=true∧w=wr) (fun s7 _=>n - (intOf s7).toNat)
 case atStart=>exact⟨0,Nat.zero_le _,rfl,rfl,rfl⟩
 case round=>
  obtain⟨i,hi,rfl,ht,rfl⟩:=hrel
  have HT:=Z ht
  clear ht
  by_cases hin:i<n
  ·have hii:(i:Int)<(n:Int):=by omega
   have hi0:(0:Int)≤(i:Int):=by omega
   have hil:i<l.length:=by have:=HN.out;omega
   obtain⟨b,o,rfl,gb,c0⟩:=int_at HS.out hil
   obtain⟨g,hg⟩:∃g,l[i]=g:=⟨_,rfl⟩
   rw [hg] at c0
   obtain⟨r,hr⟩:∃r,inB g 1 1000=r:=⟨_,rfl⟩
   have HC:=Z (HW.out g 1 1000)
   rw [hr] at HC
   have HNX:=Z (show (l.take (i+1)).all (fun g=>inB g 1 1000)=r from by
    rw [List.take_succ_eq_append_getElem hil,List.all_append,HT.out,hg];simp [hr])
   have HAL:=Z (show r=true∨gripsB l=false from by
    by_cases h:r=true
    ·exact .inl h
    right
    unfold gripsB
    rw [show l.all (fun g=>inB g 1 1000)=false from by
     rw [List.all_eq_false];exact⟨g,by rw [←hg];exact List.getElem_mem hil,by rw [hr];simpa using h⟩]
    rfl)
   have HI:=Z hin
   clear hil hg hr hin
   go_wp2_with fail
   (with_reducible refine (HC.out).mono ?_)
   rintro e w2 ⟨rfl,rfl⟩
   cases r with
   | false=>
    go_wp2
    go_ret
    have hh:gripsB l=false:=by have h:=HAL.out;simpa using h
    exact⟨by rw [hh];first|done|rfl|simp,rfl⟩
   | true=>
    go_wp2
    go_roundw
    case rel=>exact⟨i+1,by have:=HI.out;omega,by simp,HNX.out,by first|rfl|trivial⟩
    case measure=>have:=HI.out;simp [intOf] <;> omega
  ·have hii:¬(i:Int)<(n:Int):=by omega
   have HE:=Z (show gripsB l=inB (n:Int) 1 8 from by
    have h1:=HT.out;have h2:=HN.out
    rw [List.take_of_length_le (by omega)] at h1
    unfold gripsB
    rw [h1,h2,Bool.true_and])
   have HC:=Z (HW.out (n:Int) 1 8)
   go_wp2_with fail
   (with_reducible refine (HC.out).mono ?_)
   rintro e w2 ⟨rfl,rfl⟩
   go_wp2
   go_ret
   exact⟨by rw [HE.out];first|done|rfl|simp,rfl⟩
set_option maxRecDepth 100000 in
set_option maxHeartbeats 4000000 in
theorem fits_any (A:Option Addr) (c n:Nat) (t:Tr) (w:World):Calls Tryz.prog 41 #[.agg #[O U t.mass,O U t.len,O U t.speed,O U t.effort,O U t.brake,O U t.power,O U t.resist,O U t.rise,O U t.back,.slice A n c]] w fun e w'=>e= .returned (.bool (fitsB t))∧Below w.heap.size w w':=by
 have hb1:=(Below.refl w.heap.size w).alloc (Nat.le_refl _) (.cells #[O U t.mass,O U t.len,O U t.speed,O U t.effort,O U t.brake,O U t.power,O U t.resist,O U t.rise,O U t.back,.slice A n c] 24)
 have q1:=Rw.new w #[O U t.mass,O U t.len,O U t.speed,O U t.effort,O U t.brake,O U t.power,O U t.resist,O U t.rise,O U t.back,.slice A n c] 24
 obtain⟨W1,hW1⟩:∃z,w.alloc (.cells #[O U t.mass,O U t.len,O U t.speed,O U t.effort,O U t.brake,O U t.power,O U t.resist,O U t.rise,O U t.back,.slice A n c] 24)=z:=⟨_,rfl⟩
 rw [hW1] at hb1 q1
 have HB1:=Z hb1
 have HQ:=Z q1
 have e0:=q1.cell 0;have e1:=q1.cell 1;have e3:=q1.cell 3;have e4:=q1.cell 4;have e5:=q1.cell 5;have e6:=q1.cell 6;have e7:=q1.cell 7
 obtain⟨b0,hb10⟩:∃b,inB t.mass 1000 80000=b:=⟨_,rfl⟩
 obtain⟨b1,hb11⟩:∃b,inB t.len 1 60000=b:=⟨_,rfl⟩
 obtain⟨b2,hb12⟩:∃b,inB t.effort 1 200000=b:=⟨_,rfl⟩
 obtain⟨b3,hb13⟩:∃b,inB t.brake 1 200000=b:=⟨_,rfl⟩
 obtain⟨b4,hb14⟩:∃b,inB t.power 1 2000000=b:=⟨_,rfl⟩
 obtain⟨b5,hb15⟩:∃b,inB t.resist 0 100000=b:=⟨_,rfl⟩
 obtain⟨b6,hb16⟩:∃b,inB t.rise 0 10000=b:=⟨_,rfl⟩
 have HE:=Z (show fitsB t=(b0 && (b1 && (b2 && (b3 && (b4 && (b5 && b6)))))) from by unfold fitsB;rw [hb10,hb11,hb12,hb13,hb14,hb15,hb16])
 have H0:=Z (show Calls Tryz.prog 54 #[O U t.mass,O U 1000,O U 80000] W1 fun e w'=>e= .returned (.bool b0)∧W1=w' from by have:=within_any t.mass 1000 80000 W1;rwa [hb10] at this)
 have H1:=Z (show Calls Tryz.prog 54 #[O U t.len,O U 1,O U 60000] W1 fun e w'=>e= .returned (.bool b1)∧W1=w' from by have:=within_any t.len 1 60000 W1;rwa [hb11] at this)
 have H2:=Z (show Calls Tryz.prog 54 #[O U t.effort,O U 1,O U 200000] W1 fun e w'=>e= .returned (.bool b2)∧W1=w' from by have:=within_any t.effort 1 200000 W1;rwa [hb12] at this)
 have H3:=Z (show Calls Tryz.prog 54 #[O U t.brake,O U 1,O U 200000] W1 fun e w'=>e= .returned (.bool b3)∧W1=w' from by have:=within_any t.brake 1 200000 W1;rwa [hb13] at this)
 have H4:=Z (show Calls Tryz.prog 54 #[O U t.power,O U 1,O U 2000000] W1 fun e w'=>e= .returned (.bool b4)∧W1=w' from by have:=within_any t.power 1 2000000 W1;rwa [hb14] at this)
 have H5:=Z (show Calls Tryz.prog 54 #[O U t.resist,O U 0,O U 100000] W1 fun e w'=>e= .returned (.bool b5)∧W1=w' from by have:=within_any t.resist 0 100000 W1;rwa [hb15] at this)
 have H6:=Z (show Calls Tryz.prog 54 #[O U t.rise,O U 0,O U 10000] W1 fun e w'=>e= .returned (.bool b6)∧W1=w' from by have:=within_any t.rise 0 10000 W1;rwa [hb16] at this)
 clear hb1 q1 hb10 hb11 hb12 hb13 hb14 hb15 hb16
 go_enter Tryz.func41,Tryz.ntmps41
 go_wp2_with fail
 (with_reducible refine (H0.out).mono ?_)
 rintro e w2 ⟨rfl,rfl⟩
 cases b0 with
 | false=>
  go_wp2
  go_ret
  exact⟨by rw [HE.out];first|done|rfl|simp,HB1.out⟩
 | true=>
  go_wp2_with fail
  (with_reducible refine (H1.out).mono ?_)
  rintro e w3 ⟨rfl,rfl⟩
  cases b1 with
  | false=>
   go_wp2
   go_ret
   exact⟨by rw [HE.out];first|done|rfl|simp,HB1.out⟩
  | true=>
   go_wp2_with fail
   (with_reducible refine (H2.out).mono ?_)
   rintro e w4 ⟨rfl,rfl⟩
   cases b2 with
   | false=>
    go_wp2
    go_ret
    exact⟨by rw [HE.out];first|done|rfl|simp,HB1.out⟩
   | true=>
    go_wp2_with fail
    (with_reducible refine (H3.out).mono ?_)
    rintro e w5 ⟨rfl,rfl⟩
    cases b3 with
    | false=>
     go_wp2
     go_ret
     exact⟨by rw [HE.out];first|done|rfl|simp,HB1.out⟩
    | true=>
     go_wp2_with fail
     (with_reducible refine (H4.out).mono ?_)
     rintro e w6 ⟨rfl,rfl⟩
     cases b4 with
     | false=>
      go_wp2
      go_ret
      exact⟨by rw [HE.out];first|done|rfl|simp,HB1.out⟩
     | true=>
      go_wp2_with fail
      (with_reducible refine (H5.out).mono ?_)
      rintro e w7 ⟨rfl,rfl⟩
      cases b5 with
      | false=>
       go_wp2
       go_ret
       exact⟨by rw [HE.out];first|done|rfl|simp,HB1.out⟩
      | true=>
       go_wp2_with fail
       (with_reducible refine (H6.out).mono ?_)
       rintro e w9 ⟨rfl,rfl⟩
       go_wp2
       go_ret
       exact⟨by rw [HE.out];first|done|rfl|simp,HB1.out⟩
set_option maxRecDepth 100000 in
set_option maxHeartbeats 4000000 in
theorem right_any (A:Option Addr) (c n:Nat) (t:Tr) (w:World) (hn:t.grip.length=n) (hn2:n≤140737488351232) (hS:Sl w w.heap.size 1 CI A t.grip) :
  Calls Tryz.prog 39 #[.agg #[O U t.mass,O U t.len,O U t.speed,O U t.effort,O U t.brake,O U t.power,O U t.resist,O U t.rise,O U t.back,.slice A n c]] w fun e w'=>e= .returned (.bool (rightB t))∧Below w.heap.size w w':=by
 have hb1:=(Below.refl w.heap.size w).alloc (Nat.le_refl _) (.cells #[O U t.mass,O U t.len,O U t.speed,O U t.effort,O U t.brake,O U t.power,O U t.resist,O U t.rise,O U t.back,.slice A n c] 24)
 have q1:=Rw.new w #[O U t.mass,O U t.len,O U t.speed,O U t.effort,O U t.brake,O U t.power,O U t.resist,O U t.rise,O U t.back,.slice A n c] 24
 obtain⟨W1,hW1⟩:∃z,w.alloc (.cells #[O U t.mass,O U t.len,O U t.speed,O U t.effort,O U t.brake,O U t.power,O U t.resist,O U t.rise,O U t.back,.slice A n c] 24)=z:=⟨_,rfl⟩
 rw [hW1] at hb1 q1
 have HB1:=Z hb1
 have HQ:=Z (show ∀wx,Below W1.heap.size W1 wx→Rw wx w.heap.size 24 #[O U t.mass,O U t.len,O U t.speed,O U t.effort,O U t.brake,O U t.power,O U t.resist,O U t.rise,O U t.back,.slice A n c] from fun wx h=>q1.below h q1.lt)
 have HS:=Z (show ∀wx,Below W1.heap.size W1 wx→Sl wx wx.heap.size 1 CI A t.grip from fun wx h=>(hS.below (hb1.trans (h.mono hb1.size))).more (fun _ _ h=>h) (Nat.le_trans hb1.size h.size))
 have HX1:=Z (Below.refl W1.heap.size W1)
 have e0:=q1.cell 0;have e1:=q1.cell 1;have e2:=q1.cell 2;have e3:=q1.cell 3;have e4:=q1.cell 4;have e5:=q1.cell 5;have e6:=q1.cell 6;have e7:=q1.cell 7;have e8:=q1.cell 8;have e9:=q1.cell 9
 obtain⟨b0,h0⟩:∃b,fitsB t=b:=⟨_,rfl⟩
 obtain⟨b1,h1⟩:∃b,inB t.back 0 100=b:=⟨_,rfl⟩
 obtain⟨b2,h2⟩:∃b,inB t.speed 1 25000=b:=⟨_,rfl⟩
 obtain⟨b3,h3⟩:∃b,gripsB t.grip=b:=⟨_,rfl⟩
 have HE:=Z (show rightB t=(b0 && (b1 && (b2 && b3))) from by unfold rightB;rw [h0,h1,h2,h3])
 have H0:=Z (show ∀wx,Calls Tryz.prog 41 #[.agg #[O U t.mass,O U t.len,O U t.speed,O U t.effort,O U t.brake,O U t.power,O U t.resist,O U t.rise,O U t.back,.slice A n c]] wx fun e w'=>e= .returned (.bool b0)∧Below wx.heap.size wx w' from fun wx=>by have:=fits_any A c n t wx;rwa [h0] at this)
 have H1:=Z (show ∀wx,Calls Tryz.prog 54 #[O U t.back,O U 0,O U 100] wx fun e w'=>e= .returned (.bool b1)∧wx=w' from fun wx=>by have:=within_any t.back 0 100 wx;rwa [h1] at this)
 have H2:=Z (show ∀wx,Calls Tryz.prog 54 #[O U t.speed,O U 1,O U 25000] wx fun e w'=>e= .returned (.bool b2)∧wx=w' from fun wx=>by have:=within_any t.speed 1 25000 wx;rwa [h2] at this)
 have H3:=Z (show ∀wx,Below W1.heap.size W1 wx→Calls Tryz.prog 70 #[.slice A n c] wx fun e w'=>e= .returned (.bool b3)∧wx=w' from fun wx h=>by have:=gripsRight_any A c n t.grip wx hn hn2 (HS.out wx h);rwa [h3] at this)
 clear hb1 q1 hS hn h0 h1 h2 h3
 go_enter Tryz.func39,Tryz.ntmps39
 go_wp2_with fail
 (with_reducible refine (H0.out _).mono ?_)
 rintro e w2 ⟨rfl,hb2⟩
 have HX2:=Z (HX1.out.trans (hb2.mono HX1.out.size))
 clear hb2
 have r1:=HQ.out _ HX2.out
 have e0:=r1.cell 0;have e1:=r1.cell 1;have e2:=r1.cell 2;have e3:=r1.cell 3;have e4:=r1.cell 4;have e5:=r1.cell 5;have e6:=r1.cell 6;have e7:=r1.cell 7;have e8:=r1.cell 8;have e9:=r1.cell 9
 clear r1
 cases b0 with
 | false=>
  go_wp2
  go_ret
  exact⟨by rw [HE.out];first|done|rfl|simp,HB1.out.trans (HX2.out.mono HB1.out.size)⟩
 | true=>
  go_wp2_with fail
  (with_reducible refine (H1.out _).mono ?_)
  rintro e w3 ⟨rfl,rfl⟩
  cases b1 with
  | false=>
   go_wp2
   go_ret
   exact⟨by rw [HE.out];first|done|rfl|simp,HB1.out.trans (HX2.out.mono HB1.out.size)⟩
  | true=>
   go_wp2_with fail
   (with_reducible refine (H2.out _).mono ?_)
   rintro e w4 ⟨rfl,rfl⟩
   cases b2 with
   | false=>
    go_wp2
    go_ret
    exact⟨by rw [HE.out];first|done|rfl|simp,HB1.out.trans (HX2.out.mono HB1.out.size)⟩
   | true=>
    go_wp2_with fail
    (with_reducible refine (H3.out _ HX2.out).mono ?_)
    rintro e w5 ⟨rfl,rfl⟩
    go_wp2
    go_ret
    exact⟨by rw [HE.out];first|done|rfl|simp,HB1.out.trans (HX2.out.mono HB1.out.size)⟩
open Go.RowKit
def stateB (t:Tr) (m y:Int):Bool:=inB m 0 (25000 * t.mass) && inB y 0 10000000000000000
def placeB (t:Tr) (sl st:Int):Bool:=inB sl (-120) 120 && inB st 0 ((t.grip.length:Int) - 1)
def fineB (t:Tr) (m y d sl st:Int):Bool:=rightB t && (stateB t m y && (inB d (-4) 4 && (inB sl (-120) 120 && inB st 0 ((t.grip.length:Int) - 1))))
theorem inB_iff {x lo hi:Int}:inB x lo hi=true ↔ lo≤x∧x≤hi:=by simp [inB]
structure TrOk (t:Tr):Prop where
 m1:1000≤t.mass
 m2:t.mass≤80000
 l1:1≤t.len
 l2:t.len≤60000
 e1:1≤t.effort
 e2:t.effort≤200000
 b1:1≤t.brake
 b2:t.brake≤200000
 p1:1≤t.power
 p2:t.power≤2000000
 r1:0≤t.resist
 r2:t.resist≤100000
 s1:0≤t.rise
 s2:t.rise≤10000
 k1:0≤t.back
 k2:t.back≤100
 v1:1≤t.speed
 v2:t.speed≤25000
 g1:1≤t.grip.length
 g2:t.grip.length≤8
 gs:∀g∈t.grip,1≤g∧g≤1000
theorem TrOk.of {t:Tr} (h:rightB t=true):TrOk t:=by
 unfold rightB fitsB gripsB at h
 simp only [Bool.and_eq_true,inB_iff,List.all_eq_true] at h
 obtain⟨⟨⟨a1,a2⟩,⟨b1,b2⟩,⟨c1,c2⟩,⟨d1,d2⟩,⟨e1,e2⟩,⟨f1,f2⟩,⟨g1,g2⟩⟩,⟨h1,h2⟩,⟨i1,i2⟩,j,⟨k1,k2⟩⟩:=h
 exact⟨a1,a2,b1,b2,c1,c2,d1,d2,e1,e2,f1,f2,g1,g2,h1,h2,i1,i2,by omega,by omega,fun g hg=>j g hg⟩
set_option maxRecDepth 100000 in
set_option maxHeartbeats 4000000 in
theorem short_any (A:Option Addr) (c n:Nat) (t:Tr) (w:World) (hn2:n≤140737488351232):Calls Tryz.prog 13 #[.agg #[O U t.mass,O U t.len,O U t.speed,O U t.effort,O U t.brake,O U t.power,O U t.resist,O U t.rise,O U t.back,.slice A n c]] w fun e w'=>e= .returned (.bool (decide (n≤20)))∧Below w.heap.size w w':=by
 have hb1:=(Below.refl w.heap.size w).alloc (Nat.le_refl _) (.cells #[O U t.mass,O U t.len,O U t.speed,O U t.effort,O U t.brake,O U t.power,O U t.resist,O U t.rise,O U t.back,.slice A n c] 24)
 have q1:=Rw.new w #[O U t.mass,O U t.len,O U t.speed,O U t.effort,O U t.brake,O U t.power,O U t.resist,O U t.rise,O U t.back,.slice A n c] 24
 obtain⟨W1,hW1⟩:∃z,w.alloc (.cells #[O U t.mass,O U t.len,O U t.speed,O U t.effort,O U t.brake,O U t.power,O U t.resist,O U t.rise,O U t.back,.slice A n c] 24)=z:=⟨_,rfl⟩
 rw [hW1] at hb1 q1
 have HB1:=Z hb1
 have e9:=q1.cell 9
 have hd:decide ((n:Int)≤20)=decide (n≤20):=by
  by_cases h:n≤20
  ·rw [decide_eq_true h,decide_eq_true (by omega)]
  ·rw [decide_eq_false h,decide_eq_false (by omega)]
 have HD:=Z hd
 clear hb1 q1 hd
 go_enter Tryz.func13,Tryz.ntmps13
 go_wp2
 go_ret
 exact⟨by rw [←HD.out];first|done|rfl|simp,HB1.out⟩
set_option maxRecDepth 100000 in
set_option maxHeartbeats 4000000 in
theorem stateRight_any (A:Option Addr) (c n:Nat) (t:Tr) (m y:Int) (w:World) (ht:TrOk t):Calls Tryz.prog 49 #[.agg #[O U t.mass,O U t.len,O U t.speed,O U t.effort,O U t.brake,O U t.power,O U t.resist,O U t.rise,O U t.back,.slice A n c],.agg #[O U m,O U y]] w fun e w'=>e= .returned (.bool (stateB t m y))∧Below w.heap.size w w':=by
 have hb1:=((Below.refl w.heap.size w).alloc (Nat.le_refl _) (.cells #[O U t.mass,O U t.len,O U t.speed,O U t.effort,O U t.brake,O U t.power,O U t.resist,O U t.rise,O U t.back,.slice A n c] 24)).alloc (by simp) (.cells #[O U m,O U y] 35)
 obtain⟨q1,q2⟩:=rows2 w #[O U t.mass,O U t.len,O U t.speed,O U t.effort,O U t.brake,O U t.power,O U t.resist,O U t.rise,O U t.back,.slice A n c] #[O U m,O U y] 24 35
 obtain⟨W1,hW1⟩:∃z,((w.alloc (.cells #[O U t.mass,O U t.len,O U t.speed,O U t.effort,O U t.brake,O U t.power,O U t.resist,O U t.rise,O U t.back,.slice A n c] 24)).alloc (.cells #[O U m,O U y] 35))=z:=⟨_,rfl⟩
 rw [hW1] at hb1 q1 q2
 have HB1:=Z hb1
 have HX1:=Z (Below.refl W1.heap.size W1)
 have e0:=q1.cell 0;have f0:=q2.cell 0;have f1:=q2.cell 1
 have hm1:=ht.m1;have hm2:=ht.m2
 have hw:IntKind.i64.wrap (25000 * t.mass)=25000 * t.mass:=by rw [IntKind.wrap_i64];omega
 obtain⟨b0,h0⟩:∃b,inB m 0 (25000 * t.mass)=b:=⟨_,rfl⟩
 obtain⟨b1,h1⟩:∃b,inB y 0 10000000000000000=b:=⟨_,rfl⟩
 have HE:=Z (show stateB t m y=(b0 && b1) from by unfold stateB;rw [h0,h1])
 have H0:=Z (show ∀wx,Calls Tryz.prog 54 #[O U m,O U 0,O U (25000 * t.mass)] wx fun e w'=>e= .returned (.bool b0)∧wx=w' from fun wx=>by have:=within_any m 0 (25000 * t.mass) wx;rwa [h0] at this)
 have H1:=Z (show ∀wx,Calls Tryz.prog 54 #[O U y,O U 0,O U 10000000000000000] wx fun e w'=>e= .returned (.bool b1)∧wx=w' from fun wx=>by have:=within_any y 0 10000000000000000 wx;rwa [h1] at this)
 clear hb1 q1 q2 h0 h1 ht
 go_enter Tryz.func49,Tryz.ntmps49
 go_wp2_with fail
 (with_reducible refine (H0.out _).mono ?_)
 rintro e w2 ⟨rfl,rfl⟩
 cases b0 with
 | false=>
  go_wp2
  go_ret
  exact⟨by rw [HE.out];first|done|rfl|simp,HB1.out.trans (HX1.out.mono HB1.out.size)⟩
 | true=>
  go_wp2_with fail
  (with_reducible refine (H1.out _).mono ?_)
  rintro e w3 ⟨rfl,rfl⟩
  go_wp2
  go_ret
  exact⟨by rw [HE.out];first|done|rfl|simp,HB1.out.trans (HX1.out.mono HB1.out.size)⟩
set_option maxRecDepth 100000 in
set_option maxHeartbeats 4000000 in
theorem placeRight_any (A:Option Addr) (c n:Nat) (t:Tr) (sl st:Int) (w:World) (hn:t.grip.length=n) (hn2:n≤1000):Calls Tryz.prog 50 #[.agg #[O U t.mass,O U t.len,O U t.speed,O U t.effort,O U t.brake,O U t.power,O U t.resist,O U t.rise,O U t.back,.slice A n c],O U sl,O U st] w fun e w'=>e= .returned (.bool (placeB t sl st))∧Below w.heap.size w w':=by
 have hb1:=(Below.refl w.heap.size w).alloc (Nat.le_refl _) (.cells #[O U t.mass,O U t.len,O U t.speed,O U t.effort,O U t.brake,O U t.power,O U t.resist,O U t.rise,O U t.back,.slice A n c] 24)
 have q1:=Rw.new w #[O U t.mass,O U t.len,O U t.speed,O U t.effort,O U t.brake,O U t.power,O U t.resist,O U t.rise,O U t.back,.slice A n c] 24
 obtain⟨W1,hW1⟩:∃z,w.alloc (.cells #[O U t.mass,O U t.len,O U t.speed,O U t.effort,O U t.brake,O U t.power,O U t.resist,O U t.rise,O U t.back,.slice A n c] 24)=z:=⟨_,rfl⟩
 rw [hW1] at hb1 q1
 have HB1:=Z hb1
 have HX1:=Z (Below.refl W1.heap.size W1)
 have e9:=q1.cell 9
 have hw:IntKind.i64.wrap ((n:Int) - 1)=(n:Int) - 1:=by rw [IntKind.wrap_i64];omega
 obtain⟨b0,h0⟩:∃b,inB sl (-120) 120=b:=⟨_,rfl⟩
 obtain⟨b1,h1⟩:∃b,inB st 0 ((n:Int) - 1)=b:=⟨_,rfl⟩
 have HE:=Z (show placeB t sl st=(b0 && b1) from by unfold placeB;rw [hn,h0,h1])
 have H0:=Z (show ∀wx,Calls Tryz.prog 54 #[O U sl,O U (-120),O U 120] wx fun e w'=>e= .returned (.bool b0)∧wx=w' from fun wx=>by have:=within_any sl (-120) 120 wx;rwa [h0] at this)
 have H1:=Z (show ∀wx,Calls Tryz.prog 54 #[O U st,O U 0,O U ((n:Int) - 1)] wx fun e w'=>e= .returned (.bool b1)∧wx=w' from fun wx=>by have:=within_any st 0 ((n:Int) - 1) wx;rwa [h1] at this)
 clear hb1 q1 h0 h1 hn
 go_enter Tryz.func50,Tryz.ntmps50
 go_wp2_with fail
 (with_reducible refine (H0.out _).mono ?_)
 rintro e w2 ⟨rfl,rfl⟩
 cases b0 with
 | false=>
  go_wp2
  go_ret
  exact⟨by rw [HE.out];first|done|rfl|simp,HB1.out.trans (HX1.out.mono HB1.out.size)⟩
 | true=>
  go_wp2_with fail
  (with_reducible refine (H1.out _).mono ?_)
  rintro e w3 ⟨rfl,rfl⟩
  go_wp2
  go_ret
  exact⟨by rw [HE.out];first|done|rfl|simp,HB1.out.trans (HX1.out.mono HB1.out.size)⟩
theorem right_ref (t:Tr):rightB t=(inB t.mass 1000 80000 && (inB t.len 1 60000 && (inB t.speed 1 25000 && (inB t.effort 1 200000 && (inB t.brake 1 200000 && (inB t.power 1 2000000 && (inB t.resist 0 100000 && (inB t.rise 0 10000 && (inB t.back 0 100 && (inB (t.grip.length:Int) 1 8 && t.grip.all fun g=>inB g 1 1000)))))))))):=by
 unfold rightB fitsB gripsB
 generalize (t.grip.all fun g=>inB g 1 1000)=x
 ac_rfl
set_option maxRecDepth 100000 in
set_option maxHeartbeats 4000000 in
theorem rTrain_any (A:Option Addr) (c n:Nat) (t:Tr) (w:World) (hn:t.grip.length=n) (hn2:n≤140737488351232) (hS:Sl w w.heap.size 1 CI A t.grip) :
  Calls Tryz.prog 17 #[.agg #[O U t.mass,O U t.len,O U t.speed,O U t.effort,O U t.brake,O U t.power,O U t.resist,O U t.rise,O U t.back,.slice A n c]] w fun e w'=>e= .returned (.bool (rightB t))∧Below w.heap.size w w':=by
 have hb1:=(Below.refl w.heap.size w).alloc (Nat.le_refl _) (.cells #[O U t.mass,O U t.len,O U t.speed,O U t.effort,O U t.brake,O U t.power,O U t.resist,O U t.rise,O U t.back,.slice A n c] 24)
 have q1:=Rw.new w #[O U t.mass,O U t.len,O U t.speed,O U t.effort,O U t.brake,O U t.power,O U t.resist,O U t.rise,O U t.back,.slice A n c] 24
 obtain⟨W1,hW1⟩:∃z,w.alloc (.cells #[O U t.mass,O U t.len,O U t.speed,O U t.effort,O U t.brake,O U t.power,O U t.resist,O U t.rise,O U t.back,.slice A n c] 24)=z:=⟨_,rfl⟩
 rw [hW1] at hb1 q1
 have HB1:=Z hb1
 have HQ:=Z (show ∀wx,Below W1.heap.size W1 wx→Rw wx w.heap.size 24 #[O U t.mass,O U t.len,O U t.speed,O U t.effort,O U t.brake,O U t.power,O U t.resist,O U t.rise,O U t.back,.slice A n c] from fun wx h=>q1.below h q1.lt)
 have HS:=Z (show ∀wx,Below W1.heap.size W1 wx→Sl wx wx.heap.size 1 CI A t.grip from fun wx h=>(hS.below (hb1.trans (h.mono hb1.size))).more (fun _ _ h=>h) (Nat.le_trans hb1.size h.size))
 have HX1:=Z (Below.refl W1.heap.size W1)
 have e0:=q1.cell 0;have e1:=q1.cell 1;have e2:=q1.cell 2;have e3:=q1.cell 3;have e4:=q1.cell 4;have e5:=q1.cell 5;have e6:=q1.cell 6;have e7:=q1.cell 7;have e8:=q1.cell 8;have e9:=q1.cell 9
 obtain⟨b0,hb10⟩:∃b,inB t.mass 1000 80000=b:=⟨_,rfl⟩
 obtain⟨b1,hb11⟩:∃b,inB t.len 1 60000=b:=⟨_,rfl⟩
 obtain⟨b2,hb12⟩:∃b,inB t.speed 1 25000=b:=⟨_,rfl⟩
 obtain⟨b3,hb13⟩:∃b,inB t.effort 1 200000=b:=⟨_,rfl⟩
 obtain⟨b4,hb14⟩:∃b,inB t.brake 1 200000=b:=⟨_,rfl⟩
 obtain⟨b5,hb15⟩:∃b,inB t.power 1 2000000=b:=⟨_,rfl⟩
 obtain⟨b6,hb16⟩:∃b,inB t.resist 0 100000=b:=⟨_,rfl⟩
 obtain⟨b7,hb17⟩:∃b,inB t.rise 0 10000=b:=⟨_,rfl⟩
 obtain⟨b8,hb18⟩:∃b,inB t.back 0 100=b:=⟨_,rfl⟩
 obtain⟨b9,hb19⟩:∃b,inB (n:Int) 1 8=b:=⟨_,rfl⟩
 obtain⟨l,hl⟩:∃l,t.grip=l:=⟨_,rfl⟩
 have HE:=Z (show rightB t=(b0 && (b1 && (b2 && (b3 && (b4 && (b5 && (b6 && (b7 && (b8 && (b9 && l.all fun g=>inB g 1 1000)))))))))) from by rw [right_ref,hn,hb10,hb11,hb12,hb13,hb14,hb15,hb16,hb17,hb18,hb19,hl])
 have H0:=Z (show ∀wx,Calls Tryz.prog 42 #[O U t.mass,O U 1000,O U 80000] wx fun e w'=>e= .returned (.bool b0)∧wx=w' from fun wx=>by have:=in_any t.mass 1000 80000 wx;rwa [hb10] at this)
 have H1:=Z (show ∀wx,Calls Tryz.prog 42 #[O U t.len,O U 1,O U 60000] wx fun e w'=>e= .returned (.bool b1)∧wx=w' from fun wx=>by have:=in_any t.len 1 60000 wx;rwa [hb11] at this)
 have H2:=Z (show ∀wx,Calls Tryz.prog 42 #[O U t.speed,O U 1,O U 25000] wx fun e w'=>e= .returned (.bool b2)∧wx=w' from fun wx=>by have:=in_any t.speed 1 25000 wx;rwa [hb12] at this)
 have H3:=Z (show ∀wx,Calls Tryz.prog 42 #[O U t.effort,O U 1,O U 200000] wx fun e w'=>e= .returned (.bool b3)∧wx=w' from fun wx=>by have:=in_any t.effort 1 200000 wx;rwa [hb13] at this)
 have H4:=Z (show ∀wx,Calls Tryz.prog 42 #[O U t.brake,O U 1,O U 200000] wx fun e w'=>e= .returned (.bool b4)∧wx=w' from fun wx=>by have:=in_any t.brake 1 200000 wx;rwa [hb14] at this)
 have H5:=Z (show ∀wx,Calls Tryz.prog 42 #[O U t.power,O U 1,O U 2000000] wx fun e w'=>e= .returned (.bool b5)∧wx=w' from fun wx=>by have:=in_any t.power 1 2000000 wx;rwa [hb15] at this)
 have H6:=Z (show ∀wx,Calls Tryz.prog 42 #[O U t.resist,O U 0,O U 100000] wx fun e w'=>e= .returned (.bool b6)∧wx=w' from fun wx=>by have:=in_any t.resist 0 100000 wx;rwa [hb16] at this)
 have H7:=Z (show ∀wx,Calls Tryz.prog 42 #[O U t.rise,O U 0,O U 10000] wx fun e w'=>e= .returned (.bool b7)∧wx=w' from fun wx=>by have:=in_any t.rise 0 10000 wx;rwa [hb17] at this)
 have H8:=Z (show ∀wx,Calls Tryz.prog 42 #[O U t.back,O U 0,O U 100] wx fun e w'=>e= .returned (.bool b8)∧wx=w' from fun wx=>by have:=in_any t.back 0 100 wx;rwa [hb18] at this)
 have H9:=Z (show ∀wx,Calls Tryz.prog 42 #[O U (n:Int),O U 1,O U 8] wx fun e w'=>e= .returned (.bool b9)∧wx=w' from fun wx=>by have:=in_any (n:Int) 1 8 wx;rwa [hb19] at this)
 rw [hl] at hn HS
 have HN:=Z hn
 clear hb1 q1 hS hn hl hb10 hb11 hb12 hb13 hb14 hb15 hb16 hb17 hb18 hb19
 go_enter Tryz.func17,Tryz.ntmps17
 go_wp2_with fail
 (with_reducible refine (H0.out _).mono ?_)
 rintro e w2 ⟨rfl,rfl⟩
 cases b0 with
 | false=>
  go_wp2
  go_ret
  exact⟨by rw [HE.out];first|done|rfl|simp,HB1.out.trans (HX1.out.mono HB1.out.size)⟩
 | true=>
  go_wp2_with fail
  (with_reducible refine (H1.out _).mono ?_)
  rintro e w3 ⟨rfl,rfl⟩
  cases b1 with
  | false=>
   go_wp2
   go_ret
   exact⟨by rw [HE.out];first|done|rfl|simp,HB1.out.trans (HX1.out.mono HB1.out.size)⟩
  | true=>
   go_wp2_with fail
   (with_reducible refine (H2.out _).mono ?_)
   rintro e w4 ⟨rfl,rfl⟩
   cases b2 with
   | false=>
    go_wp2
    go_ret
    exact⟨by rw [HE.out];first|done|rfl|simp,HB1.out.trans (HX1.out.mono HB1.out.size)⟩
   | true=>
    go_wp2_with fail
    (with_reducible refine (H3.out _).mono ?_)
    rintro e w5 ⟨rfl,rfl⟩
    cases b3 with
    | false=>
     go_wp2
     go_ret
     exact⟨by rw [HE.out];first|done|rfl|simp,HB1.out.trans (HX1.out.mono HB1.out.size)⟩
    | true=>
     go_wp2_with fail
     (with_reducible refine (H4.out _).mono ?_)
     rintro e w6 ⟨rfl,rfl⟩
     cases b4 with
     | false=>
      go_wp2
      go_ret
      exact⟨by rw [HE.out];first|done|rfl|simp,HB1.out.trans (HX1.out.mono HB1.out.size)⟩
     | true=>
      go_wp2_with fail
      (with_reducible refine (H5.out _).mono ?_)
      rintro e w7 ⟨rfl,rfl⟩
      cases b5 with
      | false=>
       go_wp2
       go_ret
       exact⟨by rw [HE.out];first|done|rfl|simp,HB1.out.trans (HX1.out.mono HB1.out.size)⟩
      | true=>
       go_wp2_with fail
       (with_reducible refine (H6.out _).mono ?_)
       rintro e w8 ⟨rfl,rfl⟩
       cases b6 with
       | false=>
        go_wp2
        go_ret
        exact⟨by rw [HE.out];first|done|rfl|simp,HB1.out.trans (HX1.out.mono HB1.out.size)⟩
       | true=>
        go_wp2_with fail
        (with_reducible refine (H7.out _).mono ?_)
        rintro e w9 ⟨rfl,rfl⟩
        cases b7 with
        | false=>
         go_wp2
         go_ret
         exact⟨by rw [HE.out];first|done|rfl|simp,HB1.out.trans (HX1.out.mono HB1.out.size)⟩
        | true=>
         go_wp2_with fail
         (with_reducible refine (H8.out _).mono ?_)
         rintro e w10 ⟨rfl,rfl⟩
         cases b8 with
         | false=>
          go_wp2
          go_ret
          exact⟨by rw [HE.out];first|done|rfl|simp,HB1.out.trans (HX1.out.mono HB1.out.size)⟩
         | true=>
          go_wp2_with fail
          (with_reducible refine (H9.out _).mono ?_)
          rintro e w11 ⟨rfl,rfl⟩
          cases b9 with
          | false=>
           go_wp2
           go_ret
           exact⟨by rw [HE.out];first|done|rfl|simp,HB1.out.trans (HX1.out.mono HB1.out.size)⟩
          | true=>
           go_wp2
           go_loopw [3] (fun s3 wr=>∃i:Nat,i≤n∧s3=O U (i:Int)∧(l.take i).all (fun g=>inB g 1 1000)=true∧Below W1.heap.size W1 wr) (fun s3 _=>n - (intOf s3).toNat)
           case atStart=>exact⟨0,Nat.zero_le _,rfl,rfl,Below.refl _ _⟩
           case round=>
            obtain⟨i,hi,rfl,ht,hb⟩:=hrel
            have HT:=Z ht;have HB:=Z hb
            have r1:=HQ.out _ hb
            have e9:=r1.cell 9
            clear ht r1
            by_cases hin:i<n
            ·have hii:(i:Int)<(n:Int):=by omega
             have hi0:(0:Int)≤(i:Int):=by omega
             have hil:i<l.length:=by have:=HN.out;omega
             obtain⟨b,o,rfl,gb,c0⟩:=int_at (HS.out _ hb) hil
             obtain⟨g,hg⟩:∃g,l[i]=g:=⟨_,rfl⟩
             rw [hg] at c0
             obtain⟨r,hr⟩:∃r,inB g 1 1000=r:=⟨_,rfl⟩
             have HC:=Z (in_any g 1 1000 wr)
             rw [hr] at HC
             have HNX:=Z (show (l.take (i+1)).all (fun g=>inB g 1 1000)=r from by
              rw [List.take_succ_eq_append_getElem hil,List.all_append,HT.out,hg];simp [hr])
             have HAL:=Z (show r=true∨(l.all fun g=>inB g 1 1000)=false from by
              by_cases h:r=true
              ·exact .inl h
              right
              rw [List.all_eq_false];exact⟨g,by rw [←hg];exact List.getElem_mem hil,by rw [hr];simpa using h⟩)
             have HI:=Z hin
             clear hil hg hr hin hb
             go_wp2_with fail
             (with_reducible refine (HC.out).mono ?_)
             rintro e w2 ⟨rfl,rfl⟩
             cases r with
             | false=>
              have hh:(l.all fun g=>inB g 1 1000)=false:=by
               have h:=HAL.out
               rcases h with h|h
               ·cases h
               ·exact h
              have HH:=Z hh
              clear hh
              go_wp2
              go_ret
              exact⟨by rw [HE.out,HH.out];first|done|rfl|simp,HB1.out.trans (HB.out.mono HB1.out.size)⟩
             | true=>
              go_wp2
              go_roundw
              case rel=>exact⟨i+1,by have:=HI.out;omega,by simp,HNX.out,HB.out⟩
              case measure=>have:=HI.out;simp [intOf] <;> omega
            ·have hii:¬(i:Int)<(n:Int):=by omega
             have HA:=Z (show (l.all fun g=>inB g 1 1000)=true from by
              have h1:=HT.out;have h2:=HN.out
              rwa [List.take_of_length_le (by omega)] at h1)
             go_wp2
             go_ret
             exact⟨by rw [HE.out,HA.out];first|done|rfl|simp,HB1.out.trans (HB.out.mono HB1.out.size)⟩
open Go.RowKit
def adhZ (t:Tr) (g:Int):Int:=g * t.mass * 981 / 100000
def pullZ (t:Tr) (a sp d:Int):Int:=if d≤0 then 0 else if 0<sp then min (min (t.effort * d / 4) a) (1000 * t.power / sp) else min (t.effort * d / 4) a
def brakeZ (t:Tr) (a d:Int):Int:=if 0≤d then 0 else min (t.brake * -d / 4) a
def dragZ (t:Tr) (sp:Int):Int:=t.resist+t.rise * sp / 1000
theorem minIf (x y:Int):(if y<x then y else x)=min x y:=by split <;> omega
def hillZ (t:Tr) (sl:Int):Int:=Int.tdiv (t.mass * sl * 981) 100000
set_option maxRecDepth 100000 in
set_option maxHeartbeats 4000000 in
theorem newEngine_any (A:Option Addr) (c n:Nat) (t:Tr) (st g:Int) (i:Nat) (w:World) (ht:TrOk t) (hn:t.grip.length=n) (hs:st=(i:Int)) (hg:t.grip[i]? = some g) (hS:Sl w w.heap.size 1 CI A t.grip) :
  Calls Tryz.prog 45 #[.agg #[O U t.mass,O U t.len,O U t.speed,O U t.effort,O U t.brake,O U t.power,O U t.resist,O U t.rise,O U t.back,.slice A n c],O U st] w fun e w'=>∃k,e= .returned (.pointer (some ⟨k,0,none⟩))∧w.heap.size≤k∧Rw w' k 139 #[O U t.mass,O U t.len,O U t.speed,O U t.effort,O U t.brake,O U t.power,O U t.resist,O U t.rise,O U t.back,.slice A n c,O U (adhZ t g),.func (.func 74) #[.pointer (some ⟨k,0,none⟩)] #[],.func (.func 75) #[.pointer (some ⟨k,0,none⟩)] #[],.func (.func 76) #[.pointer (some ⟨k,0,none⟩)] #[],.func (.func 77) #[.pointer (some ⟨k,0,none⟩)] #[]]∧Below w.heap.size w w':=by
 subst hs
 have hb1:=(Below.refl w.heap.size w).alloc (Nat.le_refl _) (.cells #[O U t.mass,O U t.len,O U t.speed,O U t.effort,O U t.brake,O U t.power,O U t.resist,O U t.rise,O U t.back,.slice A n c] 24)
 have q1:=Rw.new w #[O U t.mass,O U t.len,O U t.speed,O U t.effort,O U t.brake,O U t.power,O U t.resist,O U t.rise,O U t.back,.slice A n c] 24
 obtain⟨hil,hge⟩:=List.getElem?_eq_some_iff.1 hg
 obtain⟨b,o,eA,gb,c0⟩:=int_at (hS.below hb1) hil
 rw [hge] at c0
 have hm1:=ht.m1;have hm2:=ht.m2
 have hgs:=ht.gs g (List.mem_of_getElem? hg)
 have hg8:=ht.g2
 have hii:(i:Int)<(n:Int):=by omega
 have hi0:(0:Int)≤(i:Int):=by omega
 have hp:0≤g * t.mass∧g * t.mass≤80000000:=⟨Int.mul_nonneg (by omega) (by omega),by
  have:=Int.mul_le_mul hgs.2 hm2 (by omega) (by omega)
  omega⟩
 obtain⟨gm,hgm⟩:∃z,g * t.mass=z:=⟨_,rfl⟩
 rw [hgm] at hp
 have hw1:IntKind.i64.wrap (g * t.mass)=gm:=by rw [hgm,IntKind.wrap_i64];omega
 have hw2:IntKind.i64.wrap (gm * 981)=gm * 981:=by rw [IntKind.wrap_i64];omega
 obtain⟨W1,hW1⟩:∃z,w.alloc (.cells #[O U t.mass,O U t.len,O U t.speed,O U t.effort,O U t.brake,O U t.power,O U t.resist,O U t.rise,O U t.back,.slice A n c] 24)=z:=⟨_,rfl⟩
 rw [hW1] at hb1 q1 c0
 have HB1:=Z hb1
 have HGM:=Z hgm
 have e0:=q1.cell 0;have e1:=q1.cell 1;have e2:=q1.cell 2;have e3:=q1.cell 3;have e4:=q1.cell 4;have e5:=q1.cell 5;have e6:=q1.cell 6;have e7:=q1.cell 7;have e8:=q1.cell 8;have e9:=q1.cell 9
 subst eA
 clear hb1 q1 hS hg hil hge hgm
 go_enter Tryz.func45,Tryz.ntmps45
 go_upto_region 1 with (fail)
 go_region
 go_wp2
 go_ret
 refine⟨W1.heap.size,rfl,HB1.out.size, ?_,HB1.out.trans ((((Below.refl _ W1).alloc (Nat.le_refl _) _).drew).mono HB1.out.size)⟩
 unfold adhZ
 rw [HGM.out]
 exact (Rw.new W1 _ 139).drew
set_option maxRecDepth 100000 in
set_option maxHeartbeats 4000000 in
theorem drag_any (A:Option Addr) (c n k:Nat) (t:Tr) (a sp d sl:Int) (w:World) (hE:Rw w k 139 #[O U t.mass,O U t.len,O U t.speed,O U t.effort,O U t.brake,O U t.power,O U t.resist,O U t.rise,O U t.back,.slice A n c,O U a,.func (.func 74) #[.pointer (some ⟨k,0,none⟩)] #[],.func (.func 75) #[.pointer (some ⟨k,0,none⟩)] #[],.func (.func 76) #[.pointer (some ⟨k,0,none⟩)] #[],.func (.func 77) #[.pointer (some ⟨k,0,none⟩)] #[]]) (ht:TrOk t) (h0:0≤sp) (h1:sp≤3000000):Calls Tryz.prog 76 #[.pointer (some ⟨k,0,none⟩),.agg #[O U sp,O U d,O U sl]] w fun e w'=>e= .returned (O U (dragZ t sp))∧Below w.heap.size w w':=by
 have hb1:=(Below.refl w.heap.size w).alloc (Nat.le_refl _) (.cells #[O U sp,O U d,O U sl] 174)
 have q1:=Rw.new w #[O U sp,O U d,O U sl] 174
 have p1:=hE.below hb1 hE.lt
 obtain⟨W1,hW1⟩:∃z,w.alloc (.cells #[O U sp,O U d,O U sl] 174)=z:=⟨_,rfl⟩
 rw [hW1] at hb1 q1 p1
 have HB1:=Z hb1
 have e0:=q1.cell 0;have x6:=p1.cell 6;have x7:=p1.cell 7
 clear hb1 q1 p1 hE
 have r1:=ht.r1;have r2:=ht.r2;have s1:=ht.s1;have s2:=ht.s2
 have hp:0≤t.rise * sp∧t.rise * sp≤30000000000:=⟨Int.mul_nonneg s1 h0,by
  have:=Int.mul_le_mul s2 h1 h0 (by omega)
  omega⟩
 have HV:=Z (show dragZ t sp=t.resist+t.rise * sp / 1000 from rfl)
 obtain⟨z,hz⟩:∃z,t.rise * sp=z:=⟨_,rfl⟩
 rw [hz] at hp HV
 have hw1:IntKind.i64.wrap (t.rise * sp)=z:=by rw [hz,IntKind.wrap_i64];omega
 have hw2:IntKind.i64.wrap (t.resist+z / 1000)=t.resist+z / 1000:=by rw [IntKind.wrap_i64];omega
 clear ht hz
 go_enter Tryz.func76,Tryz.ntmps76
 go_wp2
 go_quiet (fail)
 go_wp2
 go_ret
 exact⟨by rw [HV.out];first|done|rfl|simp,bDrewN HB1.out _⟩
set_option maxRecDepth 100000 in
set_option maxHeartbeats 4000000 in
theorem hill_any (A:Option Addr) (c n k:Nat) (t:Tr) (a sp d sl:Int) (w:World) (hE:Rw w k 139 #[O U t.mass,O U t.len,O U t.speed,O U t.effort,O U t.brake,O U t.power,O U t.resist,O U t.rise,O U t.back,.slice A n c,O U a,.func (.func 74) #[.pointer (some ⟨k,0,none⟩)] #[],.func (.func 75) #[.pointer (some ⟨k,0,none⟩)] #[],.func (.func 76) #[.pointer (some ⟨k,0,none⟩)] #[],.func (.func 77) #[.pointer (some ⟨k,0,none⟩)] #[]]) (ht:TrOk t) (h0: -120≤sl) (h1:sl≤120):Calls Tryz.prog 77 #[.pointer (some ⟨k,0,none⟩),.agg #[O U sp,O U d,O U sl]] w fun e w'=>e= .returned (O U (hillZ t sl))∧Below w.heap.size w w':=by
 have hb1:=(Below.refl w.heap.size w).alloc (Nat.le_refl _) (.cells #[O U sp,O U d,O U sl] 174)
 have q1:=Rw.new w #[O U sp,O U d,O U sl] 174
 have p1:=hE.below hb1 hE.lt
 obtain⟨W1,hW1⟩:∃z,w.alloc (.cells #[O U sp,O U d,O U sl] 174)=z:=⟨_,rfl⟩
 rw [hW1] at hb1 q1 p1
 have HB1:=Z hb1
 have e2:=q1.cell 2;have x0:=p1.cell 0
 clear hb1 q1 p1 hE
 have m1:=ht.m1;have m2:=ht.m2
 have hp: -9600000≤t.mass * sl∧t.mass * sl≤9600000:=by
  have a1:=Int.mul_le_mul_of_nonneg_left h1 (show 0≤t.mass by omega)
  have a2:=Int.mul_le_mul_of_nonneg_left h0 (show 0≤t.mass by omega)
  omega
 have HV:=Z (show hillZ t sl=Int.tdiv (t.mass * sl * 981) 100000 from rfl)
 obtain⟨z,hz⟩:∃z,t.mass * sl=z:=⟨_,rfl⟩
 rw [hz] at hp HV
 have hw1:IntKind.i64.wrap (t.mass * sl)=z:=by rw [hz,IntKind.wrap_i64];omega
 have hw2:IntKind.i64.wrap (z * 981)=z * 981:=by rw [IntKind.wrap_i64];omega
 clear ht hz
 go_enter Tryz.func77,Tryz.ntmps77
 go_wp2
 go_quiet (fail)
 go_wp2
 go_ret
 exact⟨by rw [HV.out];first|done|rfl|simp,bDrewN HB1.out _⟩
set_option maxRecDepth 100000 in
set_option maxHeartbeats 4000000 in
theorem brake_any (A:Option Addr) (c n k:Nat) (t:Tr) (a sp d sl:Int) (w:World) (hE:Rw w k 139 #[O U t.mass,O U t.len,O U t.speed,O U t.effort,O U t.brake,O U t.power,O U t.resist,O U t.rise,O U t.back,.slice A n c,O U a,.func (.func 74) #[.pointer (some ⟨k,0,none⟩)] #[],.func (.func 75) #[.pointer (some ⟨k,0,none⟩)] #[],.func (.func 76) #[.pointer (some ⟨k,0,none⟩)] #[],.func (.func 77) #[.pointer (some ⟨k,0,none⟩)] #[]]) (ht:TrOk t) (h0: -4≤d) (h1:d≤4):Calls Tryz.prog 75 #[.pointer (some ⟨k,0,none⟩),.agg #[O U sp,O U d,O U sl]] w fun e w'=>e= .returned (O U (brakeZ t a d))∧Below w.heap.size w w':=by
 have hb1:=(Below.refl w.heap.size w).alloc (Nat.le_refl _) (.cells #[O U sp,O U d,O U sl] 174)
 have q1:=Rw.new w #[O U sp,O U d,O U sl] 174
 have p1:=hE.below hb1 hE.lt
 obtain⟨W1,hW1⟩:∃z,w.alloc (.cells #[O U sp,O U d,O U sl] 174)=z:=⟨_,rfl⟩
 rw [hW1] at hb1 q1 p1
 have HB1:=Z hb1
 have e1:=q1.cell 1;have x4:=p1.cell 4;have x10:=p1.cell 10
 clear hb1 q1 p1 hE
 have m1:=ht.b1;have m2:=ht.b2
 by_cases hd:0≤d
 ·have HV:=Z (show brakeZ t a d=0 by unfold brakeZ;rw [if_pos hd])
  go_enter Tryz.func75,Tryz.ntmps75
  go_wp2
  go_ret
  exact⟨by rw [HV.out];first|done|rfl|simp,HB1.out⟩
 ·have HV:=Z (show brakeZ t a d=min (t.brake * -d / 4) a by unfold brakeZ;rw [if_neg hd])
  have hp:0≤t.brake * -d∧t.brake * -d≤800000:=by
   have a1:=Int.mul_le_mul_of_nonneg_left (show -d≤4 by omega) (show 0≤t.brake by omega)
   have a2:=Int.mul_nonneg (show 0≤t.brake by omega) (show 0≤ -d by omega)
   omega
  obtain⟨z,hz⟩:∃z,t.brake * -d=z:=⟨_,rfl⟩
  rw [hz] at hp HV
  have hw0:IntKind.i64.wrap (-d)= -d:=by rw [IntKind.wrap_i64];omega
  have hw1:IntKind.i64.wrap (t.brake * -d)=z:=by rw [hz,IntKind.wrap_i64];omega
  clear ht hz
  go_enter Tryz.func75,Tryz.ntmps75
  go_wp2
  go_quiet (fail)
  all_goals go_wp2
  all_goals (go_ret;exact⟨by rw [HV.out];first|done|rfl|(simp;omega)|(simp only [minIf];done)|(simp [minIf];done)|(simp [minIf];omega),by first|exact bDrewN HB1.out _|exact bDrewN (bDrewN HB1.out _) _⟩)
set_option maxRecDepth 100000 in
set_option maxHeartbeats 4000000 in
theorem pull_any (A:Option Addr) (c n k:Nat) (t:Tr) (a sp d sl:Int) (w:World) (hE:Rw w k 139 #[O U t.mass,O U t.len,O U t.speed,O U t.effort,O U t.brake,O U t.power,O U t.resist,O U t.rise,O U t.back,.slice A n c,O U a,.func (.func 74) #[.pointer (some ⟨k,0,none⟩)] #[],.func (.func 75) #[.pointer (some ⟨k,0,none⟩)] #[],.func (.func 76) #[.pointer (some ⟨k,0,none⟩)] #[],.func (.func 77) #[.pointer (some ⟨k,0,none⟩)] #[]]) (ht:TrOk t) (h0: -4≤d) (h1:d≤4) (h2:0≤sp):Calls Tryz.prog 74 #[.pointer (some ⟨k,0,none⟩),.agg #[O U sp,O U d,O U sl]] w fun e w'=>e= .returned (O U (pullZ t a sp d))∧Below w.heap.size w w':=by
 have hb1:=(Below.refl w.heap.size w).alloc (Nat.le_refl _) (.cells #[O U sp,O U d,O U sl] 174)
 have q1:=Rw.new w #[O U sp,O U d,O U sl] 174
 have p1:=hE.below hb1 hE.lt
 obtain⟨W1,hW1⟩:∃z,w.alloc (.cells #[O U sp,O U d,O U sl] 174)=z:=⟨_,rfl⟩
 rw [hW1] at hb1 q1 p1
 have HB1:=Z hb1
 have e0:=q1.cell 0;have e1:=q1.cell 1;have x3:=p1.cell 3;have x5:=p1.cell 5;have x10:=p1.cell 10
 clear hb1 q1 p1 hE
 have m1:=ht.e1;have m2:=ht.e2;have p1':=ht.p1;have p2':=ht.p2
 by_cases hd:d≤0
 ·have HV:=Z (show pullZ t a sp d=0 by unfold pullZ;rw [if_pos hd])
  go_enter Tryz.func74,Tryz.ntmps74
  go_wp2
  go_ret
  exact⟨by rw [HV.out];first|done|rfl|simp,HB1.out⟩
 ·have hp:0≤t.effort * d∧t.effort * d≤800000:=by
   have a1:=Int.mul_le_mul_of_nonneg_left h1 (show 0≤t.effort by omega)
   have a2:=Int.mul_nonneg (show 0≤t.effort by omega) (show 0≤d by omega)
   omega
  have hv:pullZ t a sp d=if 0<sp then min (min (t.effort * d / 4) a) (1000 * t.power / sp) else min (t.effort * d / 4) a:=by unfold pullZ;rw [if_neg hd]
  obtain⟨z,hz⟩:∃z,t.effort * d=z:=⟨_,rfl⟩
  rw [hz] at hp hv
  have hw1:IntKind.i64.wrap (t.effort * d)=z:=by rw [hz,IntKind.wrap_i64];omega
  have hw2:IntKind.i64.wrap (1000 * t.power)=1000 * t.power:=by rw [IntKind.wrap_i64];omega
  by_cases hs:0<sp
  ·have HV:=Z (show pullZ t a sp d=min (min (z / 4) a) (1000 * t.power / sp) from by rw [hv,if_pos hs])
   have hs0:sp≠0:=by omega
   clear ht hz hv
   go_enter Tryz.func74,Tryz.ntmps74
   go_upto_region 3 with (fail)
   go_quiet (fail)
   all_goals (go_upto_region 5 with (fail))
   all_goals (go_quiet (fail))
   all_goals go_wp2
   all_goals (go_ret;exact⟨by rw [HV.out];first|done|rfl|(simp;omega)|(simp only [minIf];done)|(simp [minIf];done)|(simp [minIf];omega),by first|exact bDrewN HB1.out _|exact bDrewN (bDrewN HB1.out _) _⟩)
  ·have HV:=Z (show pullZ t a sp d=min (z / 4) a from by rw [hv,if_neg hs])
   clear ht hz hv
   go_enter Tryz.func74,Tryz.ntmps74
   go_upto_region 3 with (fail)
   go_quiet (fail)
   all_goals go_wp2
   all_goals (go_ret;exact⟨by rw [HV.out];first|done|rfl|(simp;omega)|(simp only [minIf];done)|(simp [minIf];done)|(simp [minIf];omega),by first|exact bDrewN HB1.out _|exact bDrewN (bDrewN HB1.out _) _⟩)
open Go.RowKit
def sumZ (p b d h:Int):Int:=p - b - d - h
def afterZ (m f:Int):Int:=max 0 (m+100 * f)
set_option maxRecDepth 100000 in
set_option maxHeartbeats 4000000 in
theorem sum_any (p b d h:Int) (w:World) (hp: -1000000000000≤p∧p≤1000000000000) (hb: -1000000000000≤b∧b≤1000000000000) (hd: -1000000000000≤d∧d≤1000000000000) (hh: -1000000000000≤h∧h≤1000000000000) :
  Calls Tryz.prog 73 #[.agg #[O U p,O U b,O U d,O U h]] w fun e w'=>e= .returned (O U (sumZ p b d h))∧Below w.heap.size w w':=by
 have hb1:=(Below.refl w.heap.size w).alloc (Nat.le_refl _) (.cells #[O U p,O U b,O U d,O U h] 85)
 have q1:=Rw.new w #[O U p,O U b,O U d,O U h] 85
 obtain⟨W1,hW1⟩:∃z,w.alloc (.cells #[O U p,O U b,O U d,O U h] 85)=z:=⟨_,rfl⟩
 rw [hW1] at hb1 q1
 have HB1:=Z hb1
 have w1:IntKind.i64.wrap (p - b)=p - b:=by rw [IntKind.wrap_i64];omega
 have w2:IntKind.i64.wrap (p - b - d)=p - b - d:=by rw [IntKind.wrap_i64];omega
 have w3:IntKind.i64.wrap (p - b - d - h)=p - b - d - h:=by rw [IntKind.wrap_i64];omega
 have e0:=q1.cell 0;have e1:=q1.cell 1;have e2:=q1.cell 2;have e3:=q1.cell 3
 clear hb1 q1 hp hb hd hh
 go_enter Tryz.func73,Tryz.ntmps73
 go_wp2
 go_ret
 exact⟨by first|rfl|(unfold sumZ;simp),HB1.out⟩
set_option maxRecDepth 100000 in
set_option maxHeartbeats 4000000 in
theorem after_any (m f:Int) (w:World) (hm: -1000000000000000≤m∧m≤1000000000000000) (hf: -10000000000000≤f∧f≤10000000000000):Calls Tryz.prog 101 #[O U m,O U f] w fun e w'=>e= .returned (O U (afterZ m f))∧w=w':=by
 have w1:IntKind.i64.wrap (100 * f)=100 * f:=by rw [IntKind.wrap_i64];omega
 have w2:IntKind.i64.wrap (m+100 * f)=m+100 * f:=by rw [IntKind.wrap_i64];omega
 clear hm hf
 go_enter Tryz.func101,Tryz.ntmps101
 go_wp2
 all_goals
  go_ret
  exact⟨by unfold afterZ;first|done|rfl|(simp;done)|(simp;omega),rfl⟩
set_option maxRecDepth 100000 in
set_option maxHeartbeats 4000000 in
theorem possible_any (A:Option Addr) (c n k:Nat) (t:Tr) (a m:Int) (w:World) (hE:Rw w k 139 #[O U t.mass,O U t.len,O U t.speed,O U t.effort,O U t.brake,O U t.power,O U t.resist,O U t.rise,O U t.back,.slice A n c,O U a,.func (.func 74) #[.pointer (some ⟨k,0,none⟩)] #[],.func (.func 75) #[.pointer (some ⟨k,0,none⟩)] #[],.func (.func 76) #[.pointer (some ⟨k,0,none⟩)] #[],.func (.func 77) #[.pointer (some ⟨k,0,none⟩)] #[]]) (ht:TrOk t):Calls Tryz.prog 72 #[.pointer (some ⟨k,0,none⟩),O U m] w fun e w'=>e= .returned (.bool (decide (m≤25000 * t.mass)))∧w=w':=by
 have m1:=ht.m1;have m2:=ht.m2
 have w1:IntKind.i64.wrap (25000 * t.mass)=25000 * t.mass:=by rw [IntKind.wrap_i64];omega
 have x0:=hE.cell 0
 clear hE ht
 go_enter Tryz.func72,Tryz.ntmps72
 go_wp2
 go_ret
 exact⟨rfl,rfl⟩
theorem und137:Tryz.prog.underlying 137=some (.array 4 136):=by kernel_rfl
theorem run_idx0 (u0 u1 u2 u3:Value) (w:World):(Instr.index 137 (.agg #[u0,u1,u2,u3]) (O U 0)).run Tryz.prog w= .ok u0 w:=by
 simp [Instr.index,run_underlying und137,asIntOf,go_sem]
theorem run_idx1 (u0 u1 u2 u3:Value) (w:World):(Instr.index 137 (.agg #[u0,u1,u2,u3]) (O U 1)).run Tryz.prog w= .ok u1 w:=by
 simp [Instr.index,run_underlying und137,asIntOf,go_sem]
theorem run_idx2 (u0 u1 u2 u3:Value) (w:World):(Instr.index 137 (.agg #[u0,u1,u2,u3]) (O U 2)).run Tryz.prog w= .ok u2 w:=by
 simp [Instr.index,run_underlying und137,asIntOf,go_sem]
theorem run_idx3 (u0 u1 u2 u3:Value) (w:World):(Instr.index 137 (.agg #[u0,u1,u2,u3]) (O U 3)).run Tryz.prog w= .ok u3 w:=by
 simp [Instr.index,run_underlying und137,asIntOf,go_sem]
def fRow (p b d h:Int) (j:Nat):Array Value:=#[O U (if 0<j then p else 0),O U (if 1<j then b else 0),O U (if 2<j then d else 0),O U (if 3<j then h else 0)]
set_option maxRecDepth 100000 in
set_option maxHeartbeats 4000000 in
theorem forces_any (A:Option Addr) (c n k:Nat) (t:Tr) (a sp d sl:Int) (w:World) (hE:Rw w k 139 #[O U t.mass,O U t.len,O U t.speed,O U t.effort,O U t.brake,O U t.power,O U t.resist,O U t.rise,O U t.back,.slice A n c,O U a,.func (.func 74) #[.pointer (some ⟨k,0,none⟩)] #[],.func (.func 75) #[.pointer (some ⟨k,0,none⟩)] #[],.func (.func 76) #[.pointer (some ⟨k,0,none⟩)] #[],.func (.func 77) #[.pointer (some ⟨k,0,none⟩)] #[]]) (ht:TrOk t) (h0: -4≤d) (h1:d≤4) (h2:0≤sp) (h3:sp≤3000000) (h4: -120≤sl) (h5:sl≤120) :
  Calls Tryz.prog 100 #[.pointer (some ⟨k,0,none⟩),.agg #[O U sp,O U d,O U sl]] w fun e w'=>e= .returned (.agg #[O U (pullZ t a sp d),O U (brakeZ t a d),O U (dragZ t sp),O U (hillZ t sl)])∧Below w.heap.size w w':=by
 have hb3:=(((Below.refl w.heap.size w).alloc (Nat.le_refl _) (.cells #[O U sp,O U d,O U sl] 174)).alloc (by simp) (.cells #[O U 0,O U 0,O U 0,O U 0] 85)).alloc (by simp;omega) (.cells #[O U 0,O U 0,O U 0,O U 0] 85)
 obtain⟨q1,q2,q3⟩:=rows3 w #[O U sp,O U d,O U sl] #[O U 0,O U 0,O U 0,O U 0] #[O U 0,O U 0,O U 0,O U 0] 174 85 85
 obtain⟨W1,hW1⟩:∃z,(((w.alloc (.cells #[O U sp,O U d,O U sl] 174)).alloc (.cells #[O U 0,O U 0,O U 0,O U 0] 85)).alloc (.cells #[O U 0,O U 0,O U 0,O U 0] 85))=z:=⟨_,rfl⟩
 have hk:=hE.lt
 rw [hW1] at hb3 q1 q2 q3
 have HB1:=Z hb3
 have HKE:=Z (show ∀wx,Below w.heap.size w wx→Rw wx k 139 #[O U t.mass,O U t.len,O U t.speed,O U t.effort,O U t.brake,O U t.power,O U t.resist,O U t.rise,O U t.back,.slice A n c,O U a,.func (.func 74) #[.pointer (some ⟨k,0,none⟩)] #[],.func (.func 75) #[.pointer (some ⟨k,0,none⟩)] #[],.func (.func 76) #[.pointer (some ⟨k,0,none⟩)] #[],.func (.func 77) #[.pointer (some ⟨k,0,none⟩)] #[]] from fun wx h=>hE.below h hk)
 have H0:=Z (show ∀wx,Below w.heap.size w wx→Calls Tryz.prog 74 #[.pointer (some ⟨k,0,none⟩),.agg #[O U sp,O U d,O U sl]] wx fun e w'=>e= .returned (O U (pullZ t a sp d))∧Below wx.heap.size wx w' from fun wx h=>pull_any A c n k t a sp d sl wx (HKE.out wx h) ht h0 h1 h2)
 have H1:=Z (show ∀wx,Below w.heap.size w wx→Calls Tryz.prog 75 #[.pointer (some ⟨k,0,none⟩),.agg #[O U sp,O U d,O U sl]] wx fun e w'=>e= .returned (O U (brakeZ t a d))∧Below wx.heap.size wx w' from fun wx h=>brake_any A c n k t a sp d sl wx (HKE.out wx h) ht h0 h1)
 have H2:=Z (show ∀wx,Below w.heap.size w wx→Calls Tryz.prog 76 #[.pointer (some ⟨k,0,none⟩),.agg #[O U sp,O U d,O U sl]] wx fun e w'=>e= .returned (O U (dragZ t sp))∧Below wx.heap.size wx w' from fun wx h=>drag_any A c n k t a sp d sl wx (HKE.out wx h) ht h2 h3)
 have H3:=Z (show ∀wx,Below w.heap.size w wx→Calls Tryz.prog 77 #[.pointer (some ⟨k,0,none⟩),.agg #[O U sp,O U d,O U sl]] wx fun e w'=>e= .returned (O U (hillZ t sl))∧Below wx.heap.size wx w' from fun wx h=>hill_any A c n k t a sp d sl wx (HKE.out wx h) ht h4 h5)
 obtain⟨P,hP⟩:∃z,pullZ t a sp d=z:=⟨_,rfl⟩
 obtain⟨B,hB⟩:∃z,brakeZ t a d=z:=⟨_,rfl⟩
 obtain⟨D,hD⟩:∃z,dragZ t sp=z:=⟨_,rfl⟩
 obtain⟨H,hH⟩:∃z,hillZ t sl=z:=⟨_,rfl⟩
 rw [hP] at H0
 rw [hB] at H1
 rw [hD] at H2
 rw [hH] at H3
 rw [hP,hB,hD,hH]
 have HQ:=Z (And.intro q1 (And.intro q2 q3))
 have x0:=(HKE.out _ hb3).cell 11;have x1:=(HKE.out _ hb3).cell 12;have x2:=(HKE.out _ hb3).cell 13;have x3:=(HKE.out _ hb3).cell 14
 have lk:k<W1.heap.size:=Nat.lt_of_lt_of_le hk hb3.size
 clear hb3 q1 q2 q3 hE ht h0 h1 h2 h3 h4 h5 hP hB hD hH
 go_enter Tryz.func100,Tryz.ntmps100
 go_wp2
 go_loopw [12] (fun s12 wr=>∃j:Nat,j≤4∧s12=O U (j:Int)∧Rw wr w.heap.size 174 #[O U sp,O U d,O U sl]∧Rw wr (w.heap.size+1) 85 #[O U 0,O U 0,O U 0,O U 0]∧Rw wr (w.heap.size+1+1) 85 (fRow P B D H j)∧Below w.heap.size w wr) (fun s12 _=>4 - (intOf s12).toNat)
 case atStart=>exact⟨0,Nat.zero_le _,rfl,HQ.out.1,HQ.out.2.1,HQ.out.2.2,HB1.out⟩
 case round=>
  obtain⟨j,hj,rfl,q1,q2,q3,hb⟩:=hrel
  have HRQ:=Z (And.intro q1 (And.intro q2 q3));have HBR:=Z hb
  have i0:=q1.cell 0;have i1:=q1.cell 1;have i2:=q1.cell 2
  rcases (show j=0∨j=1∨j=2∨j=3∨j=4 by omega) with rfl|rfl|rfl|rfl|rfl
  ·have I0:=run_idx0 (.func (.func 74) #[.pointer (some ⟨k,0,none⟩)] #[]) (.func (.func 75) #[.pointer (some ⟨k,0,none⟩)] #[]) (.func (.func 76) #[.pointer (some ⟨k,0,none⟩)] #[]) (.func (.func 77) #[.pointer (some ⟨k,0,none⟩)] #[])
   have v0:=q3.cell 0;have v1:=q3.frozen 0
   clear hb q1 q2 q3 hj
   go_wp2_with fail
   (with_reducible refine (H0.out _ HBR.out).mono ?_)
   rintro e w2 ⟨rfl,hb2⟩
   have HB2:=Z (HBR.out.trans (hb2.mono HBR.out.size))
   have HR2:=Z (And.intro (HRQ.out.1.below hb2 HRQ.out.1.lt) (And.intro (HRQ.out.2.1.below hb2 HRQ.out.2.1.lt) (HRQ.out.2.2.below hb2 HRQ.out.2.2.lt)))
   have v0:=HR2.out.2.2.cell 0;have v1:=HR2.out.2.2.frozen 0
   clear hb2
   go_wp2
   go_roundw
   case rel=>exact⟨1,by omega,rfl,HR2.out.1.far _ _ (by omega),HR2.out.2.1.far _ _ (by omega),HR2.out.2.2.set 0 _,HB2.out.setCell (by simp;omega) _⟩
   case measure=>simp [intOf]
  ·have I0:=run_idx1 (.func (.func 74) #[.pointer (some ⟨k,0,none⟩)] #[]) (.func (.func 75) #[.pointer (some ⟨k,0,none⟩)] #[]) (.func (.func 76) #[.pointer (some ⟨k,0,none⟩)] #[]) (.func (.func 77) #[.pointer (some ⟨k,0,none⟩)] #[])
   have v0:=q3.cell 1;have v1:=q3.frozen 1
   clear hb q1 q2 q3 hj
   go_wp2_with fail
   (with_reducible refine (H1.out _ HBR.out).mono ?_)
   rintro e w2 ⟨rfl,hb2⟩
   have HB2:=Z (HBR.out.trans (hb2.mono HBR.out.size))
   have HR2:=Z (And.intro (HRQ.out.1.below hb2 HRQ.out.1.lt) (And.intro (HRQ.out.2.1.below hb2 HRQ.out.2.1.lt) (HRQ.out.2.2.below hb2 HRQ.out.2.2.lt)))
   have v0:=HR2.out.2.2.cell 1;have v1:=HR2.out.2.2.frozen 1
   clear hb2
   go_wp2
   go_roundw
   case rel=>exact⟨2,by omega,rfl,HR2.out.1.far _ _ (by omega),HR2.out.2.1.far _ _ (by omega),HR2.out.2.2.set 1 _,HB2.out.setCell (by simp;omega) _⟩
   case measure=>simp [intOf]
  ·have I0:=run_idx2 (.func (.func 74) #[.pointer (some ⟨k,0,none⟩)] #[]) (.func (.func 75) #[.pointer (some ⟨k,0,none⟩)] #[]) (.func (.func 76) #[.pointer (some ⟨k,0,none⟩)] #[]) (.func (.func 77) #[.pointer (some ⟨k,0,none⟩)] #[])
   have v0:=q3.cell 2;have v1:=q3.frozen 2
   clear hb q1 q2 q3 hj
   go_wp2_with fail
   (with_reducible refine (H2.out _ HBR.out).mono ?_)
   rintro e w2 ⟨rfl,hb2⟩
   have HB2:=Z (HBR.out.trans (hb2.mono HBR.out.size))
   have HR2:=Z (And.intro (HRQ.out.1.below hb2 HRQ.out.1.lt) (And.intro (HRQ.out.2.1.below hb2 HRQ.out.2.1.lt) (HRQ.out.2.2.below hb2 HRQ.out.2.2.lt)))
   have v0:=HR2.out.2.2.cell 2;have v1:=HR2.out.2.2.frozen 2
   clear hb2
   go_wp2
   go_roundw
   case rel=>exact⟨3,by omega,rfl,HR2.out.1.far _ _ (by omega),HR2.out.2.1.far _ _ (by omega),HR2.out.2.2.set 2 _,HB2.out.setCell (by simp;omega) _⟩
   case measure=>simp [intOf]
  ·have I0:=run_idx3 (.func (.func 74) #[.pointer (some ⟨k,0,none⟩)] #[]) (.func (.func 75) #[.pointer (some ⟨k,0,none⟩)] #[]) (.func (.func 76) #[.pointer (some ⟨k,0,none⟩)] #[]) (.func (.func 77) #[.pointer (some ⟨k,0,none⟩)] #[])
   have v0:=q3.cell 3;have v1:=q3.frozen 3
   clear hb q1 q2 q3 hj
   go_wp2_with fail
   (with_reducible refine (H3.out _ HBR.out).mono ?_)
   rintro e w2 ⟨rfl,hb2⟩
   have HB2:=Z (HBR.out.trans (hb2.mono HBR.out.size))
   have HR2:=Z (And.intro (HRQ.out.1.below hb2 HRQ.out.1.lt) (And.intro (HRQ.out.2.1.below hb2 HRQ.out.2.1.lt) (HRQ.out.2.2.below hb2 HRQ.out.2.2.lt)))
   have v0:=HR2.out.2.2.cell 3;have v1:=HR2.out.2.2.frozen 3
   clear hb2
   go_wp2
   go_roundw
   case rel=>exact⟨4,by omega,rfl,HR2.out.1.far _ _ (by omega),HR2.out.2.1.far _ _ (by omega),HR2.out.2.2.set 3 _,HB2.out.setCell (by simp;omega) _⟩
   case measure=>simp [intOf]
  ·have g0:=q2.cell 0;have g1:=q2.cell 1;have g2:=q2.cell 2;have g3:=q2.cell 3
   have f0:=q2.frozen 0;have f1:=q2.frozen 1;have f2:=q2.frozen 2;have f3:=q2.frozen 3
   have v0:wr.cell? ⟨w.heap.size+1+1,0,none⟩=some (O U P):=by simpa [fRow] using q3.cell 0
   have v1:wr.cell? ⟨w.heap.size+1+1,1,none⟩=some (O U B):=by simpa [fRow] using q3.cell 1
   have v2:wr.cell? ⟨w.heap.size+1+1,2,none⟩=some (O U D):=by simpa [fRow] using q3.cell 2
   have v3:wr.cell? ⟨w.heap.size+1+1,3,none⟩=some (O U H):=by simpa [fRow] using q3.cell 3
   clear hb q1 q2 q3 i0 i1 i2
   go_wp2
   (try simp only [Exit.inBlock,Exit.then])
   have hr:=(((HRQ.out.2.1.set 0 (O U P)).set 1 (O U B)).set 2 (O U D)).set 3 (O U H)
   refine bodyPost_ret (res_c rfl _ _ _ _ _ _ rfl hr Tryz.underlying85 rfl (by kernel_rfl)) rfl ⟨rfl, ?_⟩
   exact (((HBR.out.setCell (by simp <;> omega) _).setCell (by simp <;> omega) _).setCell (by simp <;> omega) _).setCell (by simp <;> omega) _
end Go.Proofs.YtfhkbbjddjddmaaGreat
