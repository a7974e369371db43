import Derived.Test.YtlgocfgnfdnloaaGreatDoorJ01
import Derived.Test.YtlgocfgnfdnloaaGreatDoorJ32
set_option linter.unusedSimpArgs false
set_option linter.unusedVariables false
section
namespace Go.Proofs.YtlgocfgnfdnloaaGreatDoor
open Go.RowKit Go.Extern.Stop Go.Stop Go.Extern
def Et (w : World) : Prop := w.cell? ⟨0, 0, none⟩ = some (.iface 279 (.agg #[.pointer (some ⟨10, 38, none⟩)]))
theorem Et.since {w w' : World} (h : Et w) (hs : Since w w') : Et w' := by
  unfold Et at *
  rw [hs.cell (p := ⟨0, 0, none⟩) (World.block_lt_of_cell? w _ h)]; exact h
theorem tell_nil (w : World) : Calls Tryz.prog 39 #[.nilIface] w fun e w' => e = .returned (.int .i64 0) ∧ w' = w := by
  go_enter Tryz.func39, Tryz.ntmps39
  go_wp2_with fail
  go_ret
  exact ⟨rfl, rfl⟩
set_option maxHeartbeats 1000000 in
set_option maxRecDepth 100000 in
theorem tell_hit (n : Int) (w : World) (hg : Et w) : Calls Tryz.prog 39 #[.iface 32 (.int .i64 n)] w fun e w' => e = .returned (.int .i64 n) ∧ Since w w' := by
  have hg2 : (w.alloc (.cells #[.int .i64 0] 32)).cell? ⟨0, 0, none⟩ = some (.iface 279 (.agg #[.pointer (some ⟨10, 38, none⟩)])) := Et.since hg ((Since.refl w).alloc _)
  have ht : (w.alloc (.cells #[.int .i64 0] 32)).cell? ⟨w.heap.size, 0, none⟩ = some (.int .i64 0) := by simp
  have hf : (w.alloc (.cells #[.int .i64 0] 32)).frozen? ⟨w.heap.size, 0, none⟩ = false := by simp
  have HG := (show Hid _ from hg2)
  clear hg hg2
  go_enter Tryz.func39, Tryz.ntmps39
  go_wp2_with fail
  refine (as_hit n ⟨w.heap.size, 0, none⟩ (.int .i64 0) _ HG.out ht hf).mono ?_
  rintro e w' ⟨rfl, hw'⟩
  have hc : w'.cell? ⟨w.heap.size, 0, none⟩ = some (.int .i64 n) := by
    rw [hw']
    refine World.cell?_setCell_same (u := .int .i64 0) _ _ _ ?_
    rw [World.cell?_alloc_lt _ _ ⟨w.heap.size, 0, none⟩ (by simp; omega), World.cell?_alloc_lt _ _ ⟨w.heap.size, 0, none⟩ (by simp; omega), World.cell?_alloc_lt _ _ ⟨w.heap.size, 0, none⟩ (by simp; omega), World.cell?_alloc_lt _ _ ⟨w.heap.size, 0, none⟩ (by simp)]
    exact ht
  have hS : Since w w' := by
    rw [hw']
    exact (((((((Since.refl w).alloc _).alloc _).alloc _).alloc _).alloc _)).setCell (Nat.le_refl _) _
  clear hw' ht hf HG
  go_wp2_with fail
  go_ret
  exact ⟨rfl, hS⟩
end Go.Proofs.YtlgocfgnfdnloaaGreatDoor
end
section
namespace Go.Proofs.YtlgocfgnfdnloaaGreatDoor
open Go.RowKit Go.Extern.Stop Go.Stop Go.Extern
end Go.Proofs.YtlgocfgnfdnloaaGreatDoor
end
