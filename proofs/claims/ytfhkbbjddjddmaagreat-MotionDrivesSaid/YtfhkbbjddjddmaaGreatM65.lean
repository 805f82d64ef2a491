/- Contracts: Run, fields. -/
import Derived.Test.YtfhkbbjddjddmaaGreatMi
set_option linter.unusedVariables false
set_option linter.unusedSimpArgs false
open Go.Value renaming int→O
open Go.IntKind renaming i64→U
open Go.Lib renaming hid→Z
namespace Go.Proofs.YtfhkbbjddjddmaaGreat
open Go.RowKit
set_option maxRecDepth 100000 in
theorem runOne_any (x:LegP) (w:World):Calls Tryz.prog 61 #[.agg #[O U x.millis,O U x.at_,O U x.lg.pull,O U x.lg.brake,O U x.lg.drag,O U x.lg.hill,O U x.lg.round,O U x.lg.hold,O U x.took,O U x.gave]] w fun e w'=>e= .returned (O U x.millis)∧Below w.heap.size w w':=by
  have hb1:=(Below.refl w.heap.size w).alloc (Nat.le_refl _) (.cells #[O U x.millis,O U x.at_,O U x.lg.pull,O U x.lg.brake,O U x.lg.drag,O U x.lg.hill,O U x.lg.round,O U x.lg.hold,O U x.took,O U x.gave] 72)
  have q1:=Rw.new w #[O U x.millis,O U x.at_,O U x.lg.pull,O U x.lg.brake,O U x.lg.drag,O U x.lg.hill,O U x.lg.round,O U x.lg.hold,O U x.took,O U x.gave] 72
  obtain⟨W1,hW1⟩:∃z,w.alloc (.cells #[O U x.millis,O U x.at_,O U x.lg.pull,O U x.lg.brake,O U x.lg.drag,O U x.lg.hill,O U x.lg.round,O U x.lg.hold,O U x.took,O U x.gave] 72)=z:=⟨_,rfl⟩
  rw [hW1] at hb1 q1
  have HB1:=Z hb1
  have e0:=q1.cell 0
  clear hb1 q1
  go_enter Tryz.func61,Tryz.ntmps61
  go_wp2
  go_ret
  exact⟨rfl,HB1.out⟩
set_option maxRecDepth 100000 in
set_option maxHeartbeats 4000000 in
theorem fields_any (A:Option Addr) (c n:Nat) (L:List LegP) (w:World) (hn:L.length=n) (hn2:n≤100000) (hS:Sl w w.heap.size 10 (fun x cs=>cs=fLl x) A L) :
    Calls Tryz.prog 60 #[.slice A n c,.func (.func 61) #[] #[]] w fun e w'=>∃v,e= .returned v∧Own w' w.heap.size 3 1 fI v (L.map (·.millis))∧Below w.heap.size w w':=by
  obtain⟨i3,hi3,hz3,hs3,hy3⟩:=info_parts info3
  have HS:=Z hS;have HN:=Z hn
  obtain⟨B0,hB0⟩:∃B,w.heap.size=B:=⟨_,rfl⟩
  have HBE:=Z hB0
  clear hS hn
  go_enter Tryz.func60,Tryz.ntmps60
  go_wp2
  clear hB0
  go_loopw [5,10] (fun s5 s10 wr=>∃k:Nat,k≤n∧s10=O U (k:Int)∧Own wr w.heap.size 3 1 fI s5 ((L.take k).map (·.millis))∧Below w.heap.size w wr) (fun _ s10 _=>n - (intOf s10).toNat)
  case atStart=>exact⟨0,Nat.zero_le _,rfl,Own.nil _ _ _ _ _,Below.refl _ _⟩
  case round=>
    obtain⟨k,hk,rfl,hown,hbr⟩:=hrel
    have HO:=Z hown;have HBR:=Z hbr
    by_cases hkn:k<n
    · have hki:(k:Int)<(n:Int):=by omega
      have hk0:(0:Int)≤(k:Int):=by omega
      obtain⟨b,o,cs,e1,gb,hcs,hc⟩:=(HS.out.below hbr).at_ (i:=k) (by have:=HN.out;omega)
      subst e1
      obtain⟨x,hx⟩:∃x,L[k]'(by have:=HN.out;omega)=x:=⟨_,rfl⟩
      rw [hx] at hcs
      subst hcs
      have c0:=hc 0 _ rfl;have c1:=hc 1 _ rfl;have c2:=hc 2 _ rfl;have c3:=hc 3 _ rfl;have c4:=hc 4 _ rfl;have c5:=hc 5 _ rfl;have c6:=hc 6 _ rfl;have c7:=hc 7 _ rfl;have c8:=hc 8 _ rfl;have c9:=hc 9 _ rfl
      simp only [Nat.add_zero] at c0
      have HNX:=Z (show (L.take (k+1)).map (·.millis)=(L.take k).map (·.millis) ++ [x.millis] from by rw [List.take_succ_eq_append_getElem (by have:=HN.out;omega),List.map_append,hx];rfl)
      have HKN:=Z hkn
      clear hc hx hown hbr hkn
      go_upto_region 5 with (fail)
      have hba:=(Below.refl wr.heap.size wr).alloc (Nat.le_refl _) (.cells #[O U x.millis,O U x.at_,O U x.lg.pull,O U x.lg.brake,O U x.lg.drag,O U x.lg.hill,O U x.lg.round,O U x.lg.hold,O U x.took,O U x.gave] 72)
      have qa:=Rw.new wr #[O U x.millis,O U x.at_,O U x.lg.pull,O U x.lg.brake,O U x.lg.drag,O U x.lg.hill,O U x.lg.round,O U x.lg.hold,O U x.took,O U x.gave] 72
      obtain⟨wa,hwa⟩:∃z,wr.alloc (.cells #[O U x.millis,O U x.at_,O U x.lg.pull,O U x.lg.brake,O U x.lg.drag,O U x.lg.hill,O U x.lg.round,O U x.lg.hold,O U x.took,O U x.gave] 72)=z:=⟨_,rfl⟩
      rw [hwa] at hba qa ⊢
      obtain⟨Ba,hBa⟩:∃z,wr.heap.size=z:=⟨_,rfl⟩
      rw [hBa] at qa ⊢
      have HBA:=Z hba
      have y:=qa.cell
      have HR1:=Z (runOne_any x wa)
      clear hba qa hwa hBa c0 c1 c2 c3 c4 c5 c6 c7 c8 c9
      go_wp2_with fail
      (with_reducible refine HR1.out.mono ?_)
      rintro e w2 ⟨rfl,hb2⟩
      have hb3:=HBA.out.trans (hb2.mono HBA.out.size)
      have HB3:=Z hb3
      have HO3:=Z (HO.out.below hb3 (Nat.le_refl _))
      have hk5:k≤100000:=by omega
      have hml:((L.take k).map (·.millis)).length≤100000:=by simp;omega
      obtain⟨ml,hmle⟩:∃l,(L.take k).map (·.millis)=l:=⟨_,rfl⟩
      rw [hmle] at hml HO3 HNX
      have HMB:=Z (HBR.out.trans (hb3.mono HBR.out.size))
      clear y hb2 hb3 hmle
      go_wp2_with (at_builtin;go_must (refine wpList_app _ rfl (.tmp 14) (.tmp 18) _ rfl w.heap.size 3 i3 _ 1 8 Tryz.underlying22 hi3 hz3 hs3 hy3 rfl (by omega) fI_len fI_one u5 ml rfl (HO3.out.alloc _) _ _ [x.millis] 1 rfl (Sl.new _ _ _ _ rfl) (by simp only [maxLen,List.length_cons,List.length_nil];omega) (by simp only [List.length_cons,List.length_nil];omega) (by have:=HMB.out.size;simp;omega) (fun _=> .inr ⟨_,rfl⟩) ?_);intro v2 w8 o2 gr2 at2 ne2)
      have hb8:=(HMB.out.alloc HMB.out.size (.cells #[O U x.millis] 3)).grown gr2 (by have:=HMB.out.size;simp;omega) (fun q hq=>(HO3.out.lt q hq).1)
      have hkn:=HKN.out
      refine⟨⟨k+1,by omega,by simp,by rw [HNX.out];exact o2,hb8⟩, ?_⟩
      simp [intOf] <;> omega
    · have hki:¬(k:Int)<(n:Int):=by omega
      have HF:=Z (show (L.take k).map (·.millis)=L.map (·.millis) from by rw [List.take_of_length_le (by have:=HN.out;omega)])
      clear hown hbr hkn
      go_wp2
      go_ret
      exact⟨_,rfl,by rw [←HF.out];exact HO.out,HBR.out⟩
def RunPost (p:Pl) (l:List E) (t:Tr) (st:Int) (stops:List Int) (w:World) (e:Ending) (w':World):Prop:=
  ((¬DrOk p l t st stops∧e= .returned (.tuple #[.slice none 0 0,O U 2]))∨(DrOk p l t st stops∧drvZ p l t st stops=none∧e= .returned (.tuple #[.slice none 0 0,O U 4]))∨
   (DrOk p l t st stops∧∃L v,drvZ p l t st stops=some L∧e= .returned (.tuple #[v,O U 0])∧Own w' w.heap.size 3 1 fI v (L.map (·.millis))))∧Below w.heap.size w w'
theorem legsGo_len {t:Tr} {a:Int} {zs:List Zn}:∀{ss:List Int} {x:Pt} {acc L:List LegP},legsGo t a zs ss x acc=some L→L.length=acc.length+ss.length:=by
  intro ss
  induction ss with
  | nil=>intro x acc L h;rw [legsGo] at h;obtain rfl:=Option.some.inj h;simp
  | cons s ss ih=>
    intro x acc L h
    rw [legsGo] at h
    cases hl:legGo t a zs s 36000 Leg0 x with
    | none=>rw [hl] at h;cases h
    | some p=>rw [hl] at h;have:=ih h;rw [this];simp;omega
theorem drvZ_len {p:Pl} {l:List E} {t:Tr} {st:Int} {stops:List Int} {L:List LegP} (h:drvZ p l t st stops=some L):L.length=stops.length - 1:=by
  unfold drvZ legsZ at h
  split at h
  · cases h
  · have:=legsGo_len h;rw [this];simp
set_option maxRecDepth 100000 in
set_option maxHeartbeats 4000000 in
theorem Run_any (A A2:Option Addr) (c c2:Nat) (p:Pl) (Aw:Option Addr) (cw:Nat) (l:List E) (t:Tr) (At:Option Addr) (nt ct:Nat) (st:Int) (As:Option Addr) (ns cs:Nat) (stops:List Int) (w:World) (hP:PlAt w w.heap.size A c A2 c2 p) (hA:Sl w w.heap.size 2 CE Aw l) (hl:l.length≤140737488351232) (hn:t.grip.length=nt) (hn2:nt≤140737488351232) (hG:Sl w w.heap.size 1 CI At t.grip) (hns:stops.length=ns) (hns2:ns≤100000) (hnc:ns≤cs) (hS:Sl w w.heap.size 1 CI As stops) :
    Calls Tryz.prog 32 #[.agg #[.slice A p.nodes.length c,.slice A2 p.rails.length c2],.slice Aw l.length cw,.agg #[O U t.mass,O U t.len,O U t.speed,O U t.effort,O U t.brake,O U t.power,O U t.resist,O U t.rise,O U t.back,.slice At nt ct],O U st,.slice As ns cs] w (RunPost p l t st stops w):=by
  have hb1:=((Below.refl w.heap.size w).alloc (Nat.le_refl _) (.cells #[.slice A p.nodes.length c,.slice A2 p.rails.length c2] 60)).alloc (by simp) (.cells #[O U t.mass,O U t.len,O U t.speed,O U t.effort,O U t.brake,O U t.power,O U t.resist,O U t.rise,O U t.back,.slice At nt ct] 24)
  obtain⟨q1,q2⟩:=rows2 w #[.slice A p.nodes.length c,.slice A2 p.rails.length c2] #[O U t.mass,O U t.len,O U t.speed,O U t.effort,O U t.brake,O U t.power,O U t.resist,O U t.rise,O U t.back,.slice At nt ct] 60 24
  obtain⟨W1,hW1⟩:∃z,(w.alloc (.cells #[.slice A p.nodes.length c,.slice A2 p.rails.length c2] 60)).alloc (.cells #[O U t.mass,O U t.len,O U t.speed,O U t.effort,O U t.brake,O U t.power,O U t.resist,O U t.rise,O U t.back,.slice At nt ct] 24)=z:=⟨_,rfl⟩
  rw [hW1] at hb1 q1 q2
  have HB1:=Z hb1
  have HNS:=Z hns
  have HD:=Z (Drive_any A A2 c c2 p Aw cw l t At nt ct st As ns cs stops W1 ((hP.below hb1).more hb1.size) ((hA.below hb1).more (fun _ _ h=>h) hb1.size) hl hn hn2 ((hG.below hb1).more (fun _ _ h=>h) hb1.size) hns (by omega) hnc ((hS.below hb1).more (fun _ _ h=>h) hb1.size))
  have e:=q1.cell;have f:=q2.cell
  clear hb1 q1 q2 hP hA hG hS hn hns
  go_enter Tryz.func32,Tryz.ntmps32
  go_wp2_with fail
  (with_reducible refine (HD.out).mono ?_)
  rintro e w2 ⟨⟨hno,rfl⟩|⟨hok,hz,rfl⟩|⟨hok,L,v,hz,rfl,hown⟩,hb2⟩
  · have HH:=Z hno;have HB2:=Z (HB1.out.trans (hb2.mono HB1.out.size))
    clear hno hb2 e f hW1
    go_wp2
    go_ret2
    exact⟨.inl ⟨HH.out,rfl⟩,HB2.out⟩
  · have HH:=Z (And.intro hok hz);have HB2:=Z (HB1.out.trans (hb2.mono HB1.out.size))
    clear hok hz hb2 e f hW1
    go_wp2
    go_ret2
    exact⟨.inr (.inl ⟨HH.out.1,HH.out.2,rfl⟩),HB2.out⟩
  · have HH:=Z (And.intro hok hz);have HB2:=Z (HB1.out.trans (hb2.mono HB1.out.size))
    obtain⟨Al,cl,rfl,_,hsl⟩:=Sl.of_own fLl_len hown
    have HF:=Z (fields_any Al cl L.length L w2 rfl (by have:=drvZ_len hz;have:=HNS.out;omega) hsl)
    clear hok hz hb2 hown hsl e f hW1
    go_wp2_with fail
    (with_reducible refine (HF.out).mono ?_)
    rintro e w3 ⟨v,rfl,hown,hb3⟩
    have HO:=Z hown;have HB3:=Z (HB2.out.trans (hb3.mono HB2.out.size))
    clear hown hb3
    go_wp2
    go_ret2
    exact⟨.inr (.inr ⟨HH.out.1,L,_,HH.out.2,rfl,HO.out.lower HB2.out.size⟩),HB3.out⟩
end Go.Proofs.YtfhkbbjddjddmaaGreat
