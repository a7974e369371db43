/- Lists that come in: where their values lie. -/
import Derived.Test.YtjfhggcjdckfgaaDoorB0
namespace Go.Proofs.YtjfhggcjdckfgaaDoor
set_option linter.unusedSimpArgs false
set_option linter.unusedVariables false
open Go.RowKit

/-- v is a list of n values that lie below block N -/
def SlA (w : World) (N : Nat) (v : Value) (n : Nat) (f : Nat → Value) : Prop :=
  ∃ a c, v = .slice a n c ∧ (0 < n → ∃ k o, a = some ⟨k, o, none⟩ ∧ k < N ∧ ∀ j, j < n → w.cell? ⟨k, o + j, none⟩ = some (f j))
end Go.Proofs.YtjfhggcjdckfgaaDoor
