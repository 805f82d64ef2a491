/- Law: MotionDrives. -/
import Derived.Test.YtfhkbbjddjddmaaGreatM63
import Derived.Test.YtfhkbbjddjddmaaGreatM64
import Derived.Test.YtfhkbbjddjddmaaGreatM65
import Derived.Test.YtfhkbbjddjddmaaGreatM66
import Derived.Test.YtfhkbbjddjddmaaGreatMj
set_option linter.unusedVariables false
set_option linter.unusedSimpArgs false
namespace Go.Proofs.YtfhkbbjddjddmaaGreat
open Go.RowKit
theorem RfC.of {w:World} {A A2:Option Addr} {c c2:Nat} {p:Pl} {Aw:Option Addr} {cw n:Nat} {l:List E} {t:Tr} {At:Option Addr} {nt ct:Nat} {st:Int} {stops:List Int} (h:DrOk p l t st stops) (hP:PlAt w w.heap.size A c A2 c2 p) (hA:Sl w w.heap.size 2 CE Aw l) (hn:l.length=n) (hG:Sl w w.heap.size 1 CI At t.grip) (hnt:t.grip.length=nt):RfC w A A2 c c2 p Aw cw n l t At nt ct st:=by
 have hi:=inB_iff.1 h.s0
 have h1:=h.way.1;have h2:=h.way.2.1
 exact⟨hP,h.v,hA,hn,by omega,by omega,wayOk_rails h.way,TrOk.of h.tr,hnt,hG,hi.1,by omega⟩
theorem DrOk.stop {p:Pl} {l:List E} {t:Tr} {st:Int} {stops:List Int} (h:DrOk p l t st stops):2≤stops.length∧stops.length≤100∧∀s∈stops,t.len≤s∧s≤3000000000000:=by
 obtain⟨s1,s2,s3,s4⟩:=stopsB_in h.stops
 have:=begAt_bd h.v h.way.2.1 l.length
 rw [begAt_all] at this
 exact⟨s1,s2,fun s hs=>⟨(s3 s hs).1,by have:=(s3 s hs).2;omega⟩⟩
theorem leg_cells {w:World} {B:Nat} {A:Option Addr} {l:List LegP} (h:Sl w B 10 (fun x cs=>cs=fLl x) A l) {i:Nat} (hi:i<l.length):∃b o,A=some ⟨b,o,none⟩∧b<B∧∀j u,(fLl l[i])[j]? = some u→w.cell? ⟨b,o+i * 10+j,none⟩=some u:=by
 obtain⟨b,o,cs,e,hb,rfl,hc⟩:=h.at_ hi
 exact⟨b,o,e,hb,hc⟩
end Go.Proofs.YtfhkbbjddjddmaaGreat
