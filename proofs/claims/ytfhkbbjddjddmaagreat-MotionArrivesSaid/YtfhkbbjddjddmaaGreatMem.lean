/- Words for memory: slices that read as lists, a plan of tracks in memory. -/
import Derived.Below
import Derived.Laws.OwnMore
import Derived.Deep.AppendLies
import Derived.Deep.Draws
import Derived.Laws.Rows
set_option linter.unusedVariables false
set_option linter.unusedSimpArgs false
open Go.Value renaming int→O
open Go.IntKind renaming i64→U
namespace Go.Proofs.YtfhkbbjddjddmaaGreat
open Go.RowKit
def Sl {α : Type} (w:World) (B size:Nat) (C: α→List Value→Prop) (A:Option Addr) (l:List α):Prop:=
 l≠ []→∃b off,A=some ⟨b,off,none⟩∧b<B∧∀i x,l[i]? = some x→∃cs,C x cs∧∀j u,cs[j]? = some u→w.cell? ⟨b,off+i * size+j,none⟩=some u
section
variable {α : Type} {w w':World} {B B' size:Nat} {C C': α→List Value→Prop} {A:Option Addr} {l:List α}
theorem Sl.nil:Sl w B size C A ([]:List α):=fun h=>absurd rfl h
theorem Sl.at_ (h:Sl w B size C A l) {i:Nat} (hi:i<l.length) :
  ∃b off cs,A=some ⟨b,off,none⟩∧b<B∧C l[i] cs∧∀j u,cs[j]? = some u→w.cell? ⟨b,off+i * size+j,none⟩=some u:=by
 obtain⟨b,off,e,hb,hc⟩:=h (by intro e;simp [e] at hi)
 obtain⟨cs,h1,h2⟩:=hc i l[i] (List.getElem?_eq_getElem hi)
 exact⟨b,off,cs,e,hb,h1,h2⟩
theorem Sl.keep (h:Sl w B size C A l) (hC:∀x cs,C x cs→C' x cs) (hk:∀p:Addr,p.block<B→w'.cell? p=w.cell? p):Sl w' B size C' A l:=by
 intro hl
 obtain⟨b,off,e,hb,hc⟩:=h hl
 refine⟨b,off,e,hb,fun i x hx=> ?_⟩
 obtain⟨cs,h1,h2⟩:=hc i x hx
 exact⟨cs,hC _ _ h1,fun j u hu=>(hk _ hb).trans (h2 j u hu)⟩
theorem Sl.more (h:Sl w B size C A l) (hC:∀x cs,C x cs→C' x cs) (hB:B≤B'):Sl w B' size C' A l:=by
 intro hl
 obtain⟨b,off,e,hb,hc⟩:=h hl
 refine⟨b,off,e,by omega,fun i x hx=> ?_⟩
 obtain⟨cs,h1,h2⟩:=hc i x hx
 exact⟨cs,hC _ _ h1,h2⟩
theorem Sl.below (h:Sl w B size C A l) (hb:Below B w w'):Sl w' B size C A l:=h.keep (fun _ _ h=>h) fun _ hp=>hb.cell hp
end
theorem bDrewN {B:Nat} {a w:World} (h:Below B a w) (n:Nat):Below B a (w.drewN n):=h.trans ⟨rfl,rfl,rfl,Nat.le_refl _,fun _ _=>rfl⟩
theorem bcell {B:Nat} {W w1:World} (hb:Below B W w1):(∀b o,b<B→w1.cell? ⟨b,o,none⟩=W.cell? ⟨b,o,none⟩)∧(∀b o,b<B→w1.frozen? ⟨b,o,none⟩=W.frozen? ⟨b,o,none⟩):=
 ⟨fun b o h=>hb.cell (p:=⟨b,o,none⟩) h,fun b o h=>hb.frozen (p:=⟨b,o,none⟩) h⟩
structure E where
 rail:Int
 last:Bool
structure S where
 x:Int
 y:Int
structure N where
 spot:S
 kind:Int
 ends : List E
 normal:Int
structure R where
 frm:Int
 to:Int
 shape:List S
 limit:Int
 slope:Int
structure Pl where
 nodes:List N
 rails:List R
def CE (e:E) (cs:List Value):Prop:=cs= [O U e.rail,.bool e.last]
def CS (s:S) (cs:List Value):Prop:=cs= [O U s.x,O U s.y]
def CI (x:Int) (cs:List Value):Prop:=cs= [O U x]
def most:Nat:=140737488351232
def CN (w:World) (B:Nat) (nd:N) (cs:List Value):Prop:=
 ∃A c,cs= [O U nd.spot.x,O U nd.spot.y,O U nd.kind,.slice A nd.ends.length c,O U nd.normal]∧Sl w B 2 CE A nd.ends∧nd.ends.length≤c∧c≤140737488351232
def CR (w:World) (B:Nat) (r:R) (cs:List Value):Prop:=
 ∃A c,cs= [O U r.frm,O U r.to,.slice A r.shape.length c,O U r.limit,O U r.slope]∧Sl w B 2 CS A r.shape∧r.shape.length≤c∧c≤140737488351232
structure PlAt (w:World) (B:Nat) (A:Option Addr) (c:Nat) (A2:Option Addr) (c2:Nat) (p:Pl):Prop where
 ns:Sl w B 5 (CN w B) A p.nodes
 nc:p.nodes.length≤c
 nm:c≤140737488351232
 rs:Sl w B 5 (CR w B) A2 p.rails
 rc:p.rails.length≤c2
 rm:c2≤140737488351232
section
variable {w w':World} {B B':Nat} {A A2:Option Addr} {c c2:Nat} {p:Pl}
theorem CN.below {nd:N} {cs:List Value} (hb:Below B w w') (h:CN w B nd cs):CN w' B nd cs:=by
 obtain⟨A,c,h1,h2,h3⟩:=h
 exact⟨A,c,h1,h2.below hb,h3⟩
theorem CR.below {nd:R} {cs:List Value} (hb:Below B w w') (h:CR w B nd cs):CR w' B nd cs:=by
 obtain⟨A,c,h1,h2,h3⟩:=h
 exact⟨A,c,h1,h2.below hb,h3⟩
theorem CN.more {nd:N} {cs:List Value} (hb:B≤B') (h:CN w B nd cs):CN w B' nd cs:=by
 obtain⟨A,c,h1,h2,h3⟩:=h
 exact⟨A,c,h1,h2.more (fun _ _ h=>h) hb,h3⟩
theorem CR.more {nd:R} {cs:List Value} (hb:B≤B') (h:CR w B nd cs):CR w B' nd cs:=by
 obtain⟨A,c,h1,h2,h3⟩:=h
 exact⟨A,c,h1,h2.more (fun _ _ h=>h) hb,h3⟩
theorem PlAt.below (h:PlAt w B A c A2 c2 p) (hb:Below B w w'):PlAt w' B A c A2 c2 p:=
 ⟨h.ns.keep (fun _ _ h=>h.below hb) fun _ hp=>hb.cell hp,h.nc,h.nm,h.rs.keep (fun _ _ h=>h.below hb) fun _ hp=>hb.cell hp,h.rc,h.rm⟩
theorem PlAt.more (h:PlAt w B A c A2 c2 p) (hb:B≤B'):PlAt w B' A c A2 c2 p:=
 ⟨h.ns.more (fun _ _ h=>h.more hb) hb,h.nc,h.nm,h.rs.more (fun _ _ h=>h.more hb) hb,h.rc,h.rm⟩
theorem PlAt.node (h:PlAt w B A c A2 c2 p) {i:Nat} (hi:i<p.nodes.length) :
  ∃b off A' c',A=some ⟨b,off,none⟩∧b<B∧Sl w B 2 CE A' p.nodes[i].ends∧p.nodes[i].ends.length≤c'∧c'≤140737488351232∧
   w.cell? ⟨b,off+i * 5,none⟩=some (O U p.nodes[i].spot.x)∧w.cell? ⟨b,off+i * 5+1,none⟩=some (O U p.nodes[i].spot.y)∧
   w.cell? ⟨b,off+i * 5+2,none⟩=some (O U p.nodes[i].kind)∧w.cell? ⟨b,off+i * 5+3,none⟩=some (.slice A' p.nodes[i].ends.length c')∧
   w.cell? ⟨b,off+i * 5+4,none⟩=some (O U p.nodes[i].normal):=by
 obtain⟨b,off,cs,e,hb,⟨A',c',rfl,h1,h2,h3⟩,hc⟩:=h.ns.at_ hi
 exact⟨b,off,A',c',e,hb,h1,h2,h3,hc 0 _ rfl,hc 1 _ rfl,hc 2 _ rfl,hc 3 _ rfl,hc 4 _ rfl⟩
theorem PlAt.rail (h:PlAt w B A c A2 c2 p) {i:Nat} (hi:i<p.rails.length) :
  ∃b off A' c',A2=some ⟨b,off,none⟩∧b<B∧Sl w B 2 CS A' p.rails[i].shape∧p.rails[i].shape.length≤c'∧c'≤140737488351232∧
   w.cell? ⟨b,off+i * 5,none⟩=some (O U p.rails[i].frm)∧w.cell? ⟨b,off+i * 5+1,none⟩=some (O U p.rails[i].to)∧
   w.cell? ⟨b,off+i * 5+2,none⟩=some (.slice A' p.rails[i].shape.length c')∧w.cell? ⟨b,off+i * 5+3,none⟩=some (O U p.rails[i].limit)∧
   w.cell? ⟨b,off+i * 5+4,none⟩=some (O U p.rails[i].slope):=by
 obtain⟨b,off,cs,e,hb,⟨A',c',rfl,h1,h2,h3⟩,hc⟩:=h.rs.at_ hi
 exact⟨b,off,A',c',e,hb,h1,h2,h3,hc 0 _ rfl,hc 1 _ rfl,hc 2 _ rfl,hc 3 _ rfl,hc 4 _ rfl⟩
theorem spot_at {l:List S} {A:Option Addr} (h:Sl w B 2 CS A l) {i:Nat} (hi:i<l.length) :
  ∃b off,A=some ⟨b,off,none⟩∧b<B∧w.cell? ⟨b,off+i * 2,none⟩=some (O U l[i].x)∧w.cell? ⟨b,off+i * 2+1,none⟩=some (O U l[i].y):=by
 obtain⟨b,off,cs,e,hb,rfl,hc⟩:=h.at_ hi
 exact⟨b,off,e,hb,hc 0 _ rfl,hc 1 _ rfl⟩
theorem end_at {l:List E} {A:Option Addr} (h:Sl w B 2 CE A l) {i:Nat} (hi:i<l.length) :
  ∃b off,A=some ⟨b,off,none⟩∧b<B∧w.cell? ⟨b,off+i * 2,none⟩=some (O U l[i].rail)∧w.cell? ⟨b,off+i * 2+1,none⟩=some (.bool l[i].last):=by
 obtain⟨b,off,cs,e,hb,rfl,hc⟩:=h.at_ hi
 exact⟨b,off,e,hb,hc 0 _ rfl,hc 1 _ rfl⟩
theorem int_at {l:List Int} {A:Option Addr} (h:Sl w B 1 CI A l) {i:Nat} (hi:i<l.length) :
  ∃b off,A=some ⟨b,off,none⟩∧b<B∧w.cell? ⟨b,off+i,none⟩=some (O U l[i]):=by
 obtain⟨b,off,cs,e,hb,rfl,hc⟩:=h.at_ hi
 exact⟨b,off,e,hb,by have:=hc 0 _ rfl;simpa using this⟩
end
end Go.Proofs.YtfhkbbjddjddmaaGreat
