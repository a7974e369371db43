import Derived.Deep.AppendLies
import Derived.Test.YtlgbfkcpdelcbaaGreatDoorJ01
set_option linter.unusedSimpArgs false
set_option linter.unusedVariables false
set_option maxHeartbeats 8000000
set_option maxRecDepth 100000
namespace Go.Proofs.YtlgbfkcpdelcbaaGreatDoor
namespace Sm
open Go.RowKit
def Row (w:World)(B:Nat)(e:TypeId)(v:Value)(xs:List Value):Prop:=w.ownsRow B e 1 v xs.length xs
theorem Row.nil (w:World)(B:Nat)(e:TypeId):Row w B e (.slice none 0 0) []:=World.ownsRow_nil w B e 1
theorem Row.since {w w':World}{B:Nat}{e:TypeId}{v:Value}{xs:List Value}(h:Row w B e v xs)(hs:Since w w'):Row w' B e v xs:=by
 refine World.ownsRow.kept h (row:=none) ⟨Below.os hs,Below.tape hs,Below.output hs,Below.size hs,fun k hk _=>Below.block hs k hk⟩ ?_;cases hv:v.ownBlock<;>simp
theorem Row.form {w:World}{B:Nat}{e:TypeId}{v:Value}{xs:List Value}(h:Row w B e v xs) :
  (v=.slice none 0 0∧xs=[])∨∃g cap,v=.slice (some ⟨g,0,none⟩) xs.length cap∧B≤g∧g<w.heap.size:=by
 rcases h.2 with⟨h1,h2⟩ | ⟨g,cap,cur,h1,h2,h3,_⟩
 ·exact Or.inl ⟨h1,List.length_eq_zero_iff.1 h2⟩
 refine Or.inr ⟨g,cap,h1,h2,?_⟩;rcases Nat.lt_or_ge g w.heap.size with h4 | h4
 ·exact h4
 rw[Array.getElem?_eq_none h4] at h3;cases h3
theorem Row.cell {w:World}{B:Nat}{e:TypeId}{g cap n:Nat}{xs:List Value}(h:Row w B e (.slice (some ⟨g,0,none⟩) n cap) xs)(hn:n=xs.length)(j:Nat)(hj:j<xs.length):w.cell? ⟨g,j,none⟩=some xs[j]:=by
 subst hn;rw[World.ownsRow.cellAt h j (by omega),List.getElem?_eq_getElem hj]
theorem _root_.Go.Proofs.YtlgbfkcpdelcbaaGreatDoor.Since.grown {a w w':World}{row:Option Nat}(h:Since a w)(hg:w.grownBy w' row)(hr:∀k,row=some k→a.heap.size≤k):Since a w':=Below.grown h hg h.size hr
theorem Row.own {w:World}{B:Nat}{e:TypeId}{v:Value}{xs:List Value}(h:Row w B e v xs):∀k,v.ownBlock=some k→B≤k:=fun k hk=>(World.ownsRow.lt h k hk).1
theorem mM (w:World)(v:Value)(t:TypeId)(k:Nat)(hk:k=w.heap.size):∀j u,[v][j]?=some u→(w.alloc (.cells #[v] t)).cell? ((⟨k,0,none⟩:Addr).add j)=some u:=by
 subst hk;exact cell_one_new w v t
end Sm
end Go.Proofs.YtlgbfkcpdelcbaaGreatDoor
