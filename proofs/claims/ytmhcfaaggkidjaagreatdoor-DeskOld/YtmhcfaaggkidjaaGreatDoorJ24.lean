import Derived.Deep.AppendLies
import Derived.Test.YtmhcfaaggkidjaaGreatDoorJ02
set_option linter.unusedSimpArgs false
set_option linter.unusedVariables false
namespace Go.Proofs.YtmhcfaaggkidjaaGreatDoor
set_option maxRecDepth 100000
namespace Sm
open Go.RowKit
def Row (w:World) (B:Nat) (e:TypeId) (v:Value) (xs:List Value):Prop:=w.ownsRow B e 1 v xs.length xs
theorem Row.since {w w':World} {B:Nat} {e:TypeId} {v:Value} {xs:List Value} (h:Row w B e v xs) (hs:Since w w'):Row w' B e v xs:=by
 refine World.ownsRow.kept h (row:=none) ⟨Below.os hs,Below.tape hs,Below.output hs,Below.size hs,fun k hk _=>Below.block hs k hk⟩ ?_;cases hv:v.ownBlock<;>simp
theorem _root_.Go.Proofs.YtmhcfaaggkidjaaGreatDoor.Since.grown {a w w':World} {row:Option Nat} (h:Since a w) (hg:w.grownBy w' row) (hr:∀k,row=some k→a.heap.size≤k):Since a w':=Below.grown h hg h.size hr
end Sm
end Go.Proofs.YtmhcfaaggkidjaaGreatDoor
