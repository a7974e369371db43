import Derived.Deep.AppendLies
import Derived.Laws.OwnMore
import Derived.Test.YtlgocfgnfdnloaaGreatDoorJ01
set_option linter.unusedSimpArgs false
set_option linter.unusedVariables false
namespace Go.Proofs.YtlgocfgnfdnloaaGreatDoor
set_option maxRecDepth 100000
namespace Sm
open Go.RowKit
def Row (w : World) (B : Nat) (e : TypeId) (v : Value) (xs : List Value) : Prop := w.ownsRow B e 1 v xs.length xs
theorem Row.nil (w : World) (B : Nat) (e : TypeId) : Row w B e (.slice none 0 0) [] := World.ownsRow_nil w B e 1
theorem Row.since {w w' : World} {B : Nat} {e : TypeId} {v : Value} {xs : List Value} (h : Row w B e v xs) (hs : Since w w') : Row w' B e v xs := by
  refine World.ownsRow.kept h (row := none) ⟨Below.os hs, Below.tape hs, Below.output hs, Below.size hs, fun k hk _ => Below.block hs k hk⟩ ?_
  cases hv : v.ownBlock <;> simp
theorem Row.cell {w : World} {B : Nat} {e : TypeId} {g cap n : Nat} {xs : List Value} (h : Row w B e (.slice (some ⟨g, 0, none⟩) n cap) xs) (hn : n = xs.length) (j : Nat) (hj : j < xs.length) : w.cell? ⟨g, j, none⟩ = some xs[j] := by
  subst hn
  rw [World.ownsRow.cellAt h j (by omega), List.getElem?_eq_getElem hj]
theorem _root_.Go.Proofs.YtlgocfgnfdnloaaGreatDoor.Since.grown {a w w' : World} {row : Option Nat} (h : Since a w) (hg : w.grownBy w' row) (hr : ∀ k, row = some k → a.heap.size ≤ k) : Since a w' := Below.grown h hg h.size hr
theorem Row.own {w : World} {B : Nat} {e : TypeId} {v : Value} {xs : List Value} (h : Row w B e v xs) : ∀ k, v.ownBlock = some k → B ≤ k := fun k hk => (World.ownsRow.lt h k hk).1
end Sm
end Go.Proofs.YtlgocfgnfdnloaaGreatDoor
