import Derived.Test.YtlgbfkcpdelcbaaGreatDoorJ03
import Derived.Test.YtlgbfkcpdelcbaaGreatDoorJ19
set_option linter.unusedSimpArgs false
set_option linter.unusedVariables false
set_option maxHeartbeats 8000000
set_option maxRecDepth 100000
namespace Go.Proofs.YtlgbfkcpdelcbaaGreatDoor
section
open Go.RowKit
end
section
open Go.RowKit
def pk (a:Int):Nat:=(a % 18446744073709551616).toNat % 8
end
section
open Go.RowKit
end
section
open Go.RowKit
end
section
open Go.RowKit
theorem Sl.ll {w:World}{base b n:Nat}{e:TypeId}{v:Value}{xs:List Value}{f:Nat→Value}(h:w.ownsRow base e 1 v n xs)(hb:b<base)(hx:∀j,j<n→xs[j]?=some (f j)):Sl w b v n f:=by
 rcases h.2 with⟨rfl,rfl⟩ | ⟨g,cap,cur,rfl,hg,hh,h1,h2,h3,h4⟩
 ·exact⟨_,_,rfl,fun h=>by omega⟩
 refine⟨_,_,rfl,fun _=>⟨g,0,rfl,by omega,fun j hj=>?_⟩⟩;have e:=hx j hj;rw[←h4,List.getElem?_take_of_lt (by omega),Array.getElem?_toList] at e;rw[Nat.zero_add];simp[World.cell?,hh,e]
theorem lL {w:World}{b e s n:Nat}{v:Value}{x:List Value}(h:w.ownsRow b e s v n x):∃a m c,v=.slice a m c∧m=n:=by
 rcases h.2 with⟨rfl,h0⟩ | ⟨g,c,u,rfl,_⟩
 ·exact⟨_,_,_,rfl,h0.symm⟩
 exact⟨_,_,_,rfl,rfl⟩
theorem xx {w:World}{b e s n:Nat}{v:Value}{x:List Value}(h:w.ownsRow b e s v n x):∃a c,v=.slice a n c∧n≤c:=by
 rcases h.2 with⟨rfl,h0⟩ | ⟨g,c,u,rfl,_,_,h1,_⟩
 ·exact⟨_,_,by rw[h0],by omega⟩
 exact⟨_,_,rfl,h1⟩
end
section
open Go.RowKit
end
section
open Go.RowKit
end
section
open Go.RowKit
end
section
open Go.RowKit
namespace Vl
open Go.RowKit
end Vl
end
end Go.Proofs.YtlgbfkcpdelcbaaGreatDoor
