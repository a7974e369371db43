import Derived.ProofKit
import Derived.OpenShut
import Derived.SliceStrings
import Derived.Deep.Grids
import Derived.Deep.Slices
import Derived.Deep.MidRow
import Derived.Test.YtlgocfgnfdnloaaGreatDoorJ23
set_option linter.unusedSimpArgs false
set_option linter.unusedVariables false
namespace Go.Proofs.YtlgocfgnfdnloaaGreatDoor
set_option maxRecDepth 100000
namespace Vl
open Go.ChangeShapes Go.WideShapes Go.ChangeAt Go.RowKit Go.Deep
section
variable {H : Type} {enc : TypeId × Value → H} {W : World} {fuel : Nat} {x : DataW H × List MemPlace}
theorem kc9 : Tryz.prog.cellsOf 9 = 1 := by kernel_rfl
theorem kc3 : Tryz.prog.cellsOf 3 = 1 := by kernel_rfl
theorem kc4 : Tryz.prog.cellsOf 4 = 1 := by kernel_rfl
theorem rd_int {v : Value} (h : DataW.trod enc Tryz.prog W 0 (fun _ => true) true fuel 61 [v] = some x) :
    ∃ (n : Nat) (l : Nat → Int), SlA W W.heap.size v n (fun j => .int .i64 (l j)) := by
  rcases open_ints Tryz.underlying61 Tryz.underlying3 kc3 h with ⟨hcs, hx⟩ | ⟨a, len, cap, ss, hcs, _, hl, hm, hz, hx, hcell, hsz⟩
  · injection hcs with hv
    exact ⟨0, fun _ => 0, none, 0, hv, fun h => by omega⟩
  · injection hcs with hv
    simp only [if_true] at hz
    refine ⟨len, fun j => ss.getD j 0, some a, cap, hv, fun hpos => ?_⟩
    obtain ⟨b, off, spot⟩ := a
    have hspot : spot = none := by simpa [Addr.add] using World.cell?_spot (hcell 0 (by omega))
    subst hspot
    exact ⟨b, off, rfl, World.block_lt_of_cell? W _ (hcell 0 (by omega)), fun j hj => by rw [← Addr.add_mid]; exact hcell j (by omega)⟩
theorem rd_bool {v : Value} (h : DataW.trod enc Tryz.prog W 0 (fun _ => true) true fuel 62 [v] = some x) :
    ∃ (n : Nat) (l : Nat → Bool), SlA W W.heap.size v n (fun j => .bool (l j)) := by
  rcases open_bools Tryz.underlying62 Tryz.underlying4 kc4 h with ⟨hcs, hx⟩ | ⟨a, len, cap, B, hcs, _, hl, hm, hx, hcell⟩
  · injection hcs with hv
    exact ⟨0, fun _ => false, none, 0, hv, fun h => by omega⟩
  · injection hcs with hv
    refine ⟨len, B, some a, cap, hv, fun hpos => ?_⟩
    obtain ⟨b, off, spot⟩ := a
    have hspot : spot = none := by simpa [Addr.add] using World.cell?_spot (hcell 0 (by omega))
    subst hspot
    exact ⟨b, off, rfl, World.block_lt_of_cell? W _ (hcell 0 (by omega)), fun j hj => by rw [← Addr.add_mid]; exact hcell j (by omega)⟩
end
end Vl
end Go.Proofs.YtlgocfgnfdnloaaGreatDoor
