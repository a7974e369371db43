/- Rows of cells in a block of memory, whatever they hold. -/
import Derived.Test.YtjfhggcjdckfgaaDoorGA
namespace Go.Proofs.YtjfhggcjdckfgaaDoor
set_option linter.unusedSimpArgs false
set_option linter.unusedVariables false
set_option maxRecDepth 100000
namespace Sm
open Go.RowKit

/-- in block b the cells 0 .. n-1 hold f 0 .. f (n-1), and may be written -/
structure Cel (w : World) (b n : Nat) (f : Nat → Value) : Prop where
  cell : ∀ j, j < n → w.cell? ⟨b, j, none⟩ = some (f j)
  frozen : ∀ j, j < n → w.frozen? ⟨b, j, none⟩ = false

def updv (f : Nat → Value) (i : Nat) (x : Value) : Nat → Value := fun j => if j = i then x else f j

theorem Cel.congr {w : World} {b n : Nat} {f g : Nat → Value} (h : Cel w b n f) (e : ∀ j, j < n → f j = g j) : Cel w b n g :=
  ⟨fun j hj => by rw [← e j hj]; exact h.cell j hj, h.frozen⟩
theorem Cel.set {w : World} {b n : Nat} {f : Nat → Value} (h : Cel w b n f) (i : Nat) (hi : i < n) (x : Value) : Cel (w.setCell ⟨b, i, none⟩ x) b n (updv f i x) where
  cell j hj := by
    unfold updv
    by_cases e : j = i
    · subst e
      rw [if_pos rfl]
      exact World.cell?_setCell_same _ _ _ (h.cell j hj)
    · rw [if_neg e, World.cell?_setCell_other _ _ _ _ (by intro hc; injection hc with _ h2; omega)]
      exact h.cell j hj
  frozen j hj := by simp; exact h.frozen j hj
theorem Cel.other {w : World} {b n : Nat} {f : Nat → Value} (h : Cel w b n f) {a : Addr} (ha : a.block ≠ b) (v : Value) : Cel (w.setCell a v) b n f where
  cell j hj := by
    rw [World.cell?_setCell_other _ _ _ _ (by intro hc; subst hc; exact ha rfl)]
    exact h.cell j hj
  frozen j hj := by simp; exact h.frozen j hj
theorem Cel.lt {w : World} {b n : Nat} {f : Nat → Value} (h : Cel w b n f) (hn : 0 < n) : b < w.heap.size :=
  World.block_lt_of_cell? w _ (h.cell 0 hn)
theorem Cel.since {w w' : World} {b n : Nat} {f : Nat → Value} (h : Cel w b n f) (hs : Since w w') : Cel w' b n f where
  cell j hj := by
    have hc := h.cell j hj
    rw [hs.cell (p := ⟨b, j, none⟩) (World.block_lt_of_cell? w _ hc)]; exact hc
  frozen j hj := by
    have hc := h.cell j hj
    rw [hs.frozen (p := ⟨b, j, none⟩) (World.block_lt_of_cell? w _ hc)]; exact h.frozen j hj
theorem Cel.new (w : World) (n : Nat) (f : Nat → Value) (t : TypeId) (cs : Array Value) (hc : ∀ j, j < n → cs[j]? = some (f j)) (k : Nat) (hk : k = w.heap.size) : Cel (w.alloc (.cells cs t)) k n f where
  cell j hj := by
    subst hk
    rw [World.cell?_alloc_new]
    exact hc j hj
  frozen j hj := by subst hk; exact World.frozen?_alloc_at _ _ _ _ rfl
end Sm
end Go.Proofs.YtjfhggcjdckfgaaDoor
