/- Contract: the reference's safe. -/
import Derived.Test.YtfhkbbjddjddmaaGreatM56
set_option linter.unusedVariables false
set_option linter.unusedSimpArgs false
open Go.Value renaming int→O
open Go.IntKind renaming i64→U
namespace Go.Proofs.YtfhkbbjddjddmaaGreat
open Go.RowKit Go.Shelf Go.Lib Go.BigFrame
section
variable {t:Tr} {a:Int} {sl lim:Int→Int} {s m y:Int} {f:Nat}
end
theorem slpR_bd {p:Pl} (hV:Vld p) (l:List E) (x:Int): -120≤slpR p l x∧slpR p l x≤120:=slpE_bd hV _
structure RfC (w:World) (A A2:Option Addr) (c c2:Nat) (p:Pl) (Aw:Option Addr) (cw n:Nat) (l:List E) (t:Tr) (At:Option Addr) (nt ct:Nat) (st:Int):Prop where
 pl:PlAt w w.heap.size A c A2 c2 p
 v:Vld p
 wy:Sl w w.heap.size 2 CE Aw l
 ln:l.length=n
 n1:1≤n
 n2:n≤2000
 rl:∀e∈l,0≤e.rail∧e.rail<(p.rails.length:Int)
 tr:TrOk t
 gn:t.grip.length=nt
 gp:Sl w w.heap.size 1 CI At t.grip
 s0:0≤st
 s1:st<(nt:Int)
section
variable {w:World} {A A2:Option Addr} {c c2:Nat} {p:Pl} {Aw:Option Addr} {cw n:Nat} {l:List E} {t:Tr} {At:Option Addr} {nt ct:Nat} {st:Int}
theorem RfC.below (h:RfC w A A2 c c2 p Aw cw n l t At nt ct st) {w':World} (hb:Below w.heap.size w w'):RfC w' A A2 c c2 p Aw cw n l t At nt ct st:=
 ⟨(h.pl.below hb).more hb.size,h.v,(h.wy.below hb).more (fun _ _ h=>h) hb.size,h.ln,h.n1,h.n2,h.rl,h.tr,h.gn,(h.gp.below hb).more (fun _ _ h=>h) hb.size,h.s0,h.s1⟩
theorem RfC.fine (h:RfC w A A2 c c2 p Aw cw n l t At nt ct st) {m y d x:Int} (m0:0≤m) (m1:m≤25000 * t.mass) (y0:0≤y) (y1:y≤20000000000000000) (d0: -4≤d) (d1:d≤4):FineOk t m y d (slpR p l x) st:=by
 have hs:=slpR_bd h.v l x
 have h0:=h.s0;have h1:=h.s1;have hg:=h.gn
 obtain⟨i,rfl⟩:=Int.eq_ofNat_of_zero_le h0
 have hi:i<t.grip.length:=by omega
 have hgs:=h.tr.gs t.grip[i] (List.getElem_mem _)
 have hgz:gripZ t (i:Int)=t.grip[i]:=by unfold gripZ;simp [List.getD_eq_getElem?_getD,List.getElem?_eq_getElem hi]
 exact⟨h.tr,m0,m1,y0,y1,d0,d1,hs.1,hs.2,h0,by simp [hgz,List.getElem?_eq_getElem hi],by rw [hgz];exact hgs.1,by rw [hgz];exact hgs.2⟩
theorem RfC.place (h:RfC w A A2 c c2 p Aw cw n l t At nt ct st) (m y:Int) (y0:0≤y) (y1:y≤20000000000000000):Calls Tryz.prog 53 #[.agg #[O U t.mass,O U t.len,O U t.speed,O U t.effort,O U t.brake,O U t.power,O U t.resist,O U t.rise,O U t.back,.slice At nt ct],.agg #[O U m,O U y]] w fun e w'=>e= .returned (O U (y / (10 * t.mass)))∧Below w.heap.size w w':=rPlace_any At ct nt t m y w h.tr y0 y1
theorem RfC.slope (h:RfC w A A2 c c2 p Aw cw n l t At nt ct st) (stop x:Int):Calls Tryz.prog 65 #[.agg #[.slice A p.nodes.length c,.slice A2 p.rails.length c2,.slice Aw n cw,O U t.mass,O U t.len,O U t.speed,O U t.effort,O U t.brake,O U t.power,O U t.resist,O U t.rise,O U t.back,.slice At nt ct,O U st,O U stop],O U x] w fun e w'=>e= .returned (O U (slpR p l x))∧Below w.heap.size w w':=rslope_any A A2 c c2 p Aw cw n l t At nt ct st stop x w h.pl h.v h.wy h.ln h.n1 h.n2 h.rl
theorem RfC.limit (h:RfC w A A2 c c2 p Aw cw n l t At nt ct st) (x:Int) (h1:t.len≤x) (h2:x≤10000000000000):Calls Tryz.prog 115 #[.agg #[.slice A p.nodes.length c,.slice A2 p.rails.length c2],.slice Aw n cw,.agg #[O U t.mass,O U t.len,O U t.speed,O U t.effort,O U t.brake,O U t.power,O U t.resist,O U t.rise,O U t.back,.slice At nt ct],O U x] w fun e w'=>e= .returned (O U (limR p l t x))∧Below w.heap.size w w':=rLimit_any A A2 c c2 p Aw cw n l t At nt ct x w h.pl h.v h.wy h.ln h.n1 h.n2 h.rl h.tr h1 h2
theorem RfC.step (h:RfC w A A2 c c2 p Aw cw n l t At nt ct st) (m y d x:Int) (m0:0≤m) (m1:m≤25000 * t.mass) (y0:0≤y) (y1:y≤20000000000000000) (d0: -4≤d) (d1:d≤4) :
  Calls Tryz.prog 23 #[.agg #[O U t.mass,O U t.len,O U t.speed,O U t.effort,O U t.brake,O U t.power,O U t.resist,O U t.rise,O U t.back,.slice At nt ct],.agg #[O U m,O U y],O U d,O U (slpR p l x),O U st] w fun e w'=>e= .returned (.tuple #[.agg #[O U (mkQ t m d (slpR p l x) st),O U (y+mkQ t m d (slpR p l x) st)],.agg (fLg (mkL t m d (slpR p l x) st)),.bool (decide (mkQ t m d (slpR p l x) st≤25000 * t.mass))])∧Below w.heap.size w w':=
 rStep_any At ct nt t m y d (slpR p l x) st w h.gn (by have:=h.tr.g2;have:=h.gn;omega) h.gp (h.fine m0 m1 y0 y1 d0 d1)
end
end Go.Proofs.YtfhkbbjddjddmaaGreat
