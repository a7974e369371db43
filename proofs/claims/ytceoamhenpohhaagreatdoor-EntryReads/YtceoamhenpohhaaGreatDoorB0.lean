/- Since: all that was there is as it was. -/
import Derived.Test.YtceoamhenpohhaaGreatDoorRows
import Derived.WalkKit
import Derived.WalkSpells
import Derived.WalkLawsBesides
namespace Go.Proofs.YtceoamhenpohhaaGreatDoor
set_option linter.unusedSimpArgs false
set_option linter.unusedVariables false
open Go.RowKit

/-- since w: all that was there when w was is as it was -/
def Since (w w' : World) : Prop := Below w.heap.size w w'
theorem Since.refl (w : World) : Since w w := Below.refl _ _
theorem Since.alloc {a w : World} (h : Since a w) (o : Obj) : Since a (w.alloc o) := Below.alloc h h.size o
theorem Since.drew {a w : World} (h : Since a w) : Since a w.drew := Below.drew h
theorem Since.drewN {a w : World} (h : Since a w) (n : Nat) : Since a (w.drewN n) := below_drewN h n
theorem Since.trans {a b c : World} (h : Since a b) (k : Since b c) : Since a c := Below.trans h (Below.mono k h.size)
theorem Since.setCell {a w : World} (h : Since a w) {p : Addr} (hp : a.heap.size ≤ p.block) (u : Value) : Since a (w.setCell p u) := Below.setCell h hp u
theorem Since.size {a b : World} (h : Since a b) : a.heap.size ≤ b.heap.size := Below.size h
theorem Since.cell {a b : World} (h : Since a b) {p : Addr} (hp : p.block < a.heap.size) : b.cell? p = a.cell? p := Below.cell h hp
theorem Since.frozen {a b : World} (h : Since a b) {p : Addr} (hp : p.block < a.heap.size) : b.frozen? p = a.frozen? p := Below.frozen h hp
theorem Since.setCells {a w : World} (h : Since a w) {b : Nat} (hb : a.heap.size ≤ b) : ∀ (vs : List Value) (o : Nat), Since a (w.setCells b o vs) := by
  intro vs
  induction vs generalizing w with
  | nil => intro o; exact h
  | cons v r ih => intro o; exact ih (h.setCell (p := ⟨b, o, none⟩) hb v) (o + 1)

end Go.Proofs.YtceoamhenpohhaaGreatDoor
