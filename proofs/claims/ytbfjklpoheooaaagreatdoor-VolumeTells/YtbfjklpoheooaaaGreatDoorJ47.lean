import Derived.Test.YtbfjklpoheooaaaGreatDoorJ01
import Derived.Test.YtbfjklpoheooaaaGreatDoorJ34
set_option linter.unusedSimpArgs false
set_option linter.unusedVariables false
section
namespace Go.Proofs.YtbfjklpoheooaaaGreatDoor
open Go.RowKit Go.Extern.Stop Go.Stop Go.Extern
def Et (w : World) : Prop := w.cell? ⟨0, 0, none⟩ = some (.iface 239 (.agg #[.pointer (some ⟨3, 39, none⟩)]))
theorem Et.since {w w' : World} (h : Et w) (hs : Since w w') : Et w' := by
  unfold Et at *
  rw [hs.cell (p := ⟨0, 0, none⟩) (World.block_lt_of_cell? w _ h)]; exact h
theorem tell_nil (w : World) : Calls Tryz.prog 78 #[.nilIface] w fun e w' => e = .returned (.int .i64 0) ∧ w' = w := by
  go_enter Tryz.func78, Tryz.ntmps78
  go_wp2_with fail
  go_ret
  exact ⟨rfl, rfl⟩
set_option maxHeartbeats 1000000 in
set_option maxRecDepth 100000 in
theorem tell_hit (n : Int) (w : World) (hg : Et w) : Calls Tryz.prog 78 #[.iface 33 (.int .i64 n)] w fun e w' => e = .returned (.int .i64 n) ∧ Since w w' := by
  have hg2 : (w.alloc (.cells #[.int .i64 0] 33)).cell? ⟨0, 0, none⟩ = some (.iface 239 (.agg #[.pointer (some ⟨3, 39, none⟩)])) := Et.since hg ((Since.refl w).alloc _)
  have ht : (w.alloc (.cells #[.int .i64 0] 33)).cell? ⟨w.heap.size, 0, none⟩ = some (.int .i64 0) := by simp
  have hf : (w.alloc (.cells #[.int .i64 0] 33)).frozen? ⟨w.heap.size, 0, none⟩ = false := by simp
  have HG := (show Hid _ from hg2)
  clear hg hg2
  go_enter Tryz.func78, Tryz.ntmps78
  go_wp2_with fail
  refine (as_hit n ⟨w.heap.size, 0, none⟩ (.int .i64 0) _ HG.out ht hf).mono ?_
  rintro e w' ⟨rfl, hw'⟩
  have hc : w'.cell? ⟨w.heap.size, 0, none⟩ = some (.int .i64 n) := by
    rw [hw']
    refine World.cell?_setCell_same (u := .int .i64 0) _ _ _ ?_
    rw [World.cell?_alloc_lt _ _ ⟨w.heap.size, 0, none⟩ (by simp; omega), World.cell?_alloc_lt _ _ ⟨w.heap.size, 0, none⟩ (by simp; omega), World.cell?_alloc_lt _ _ ⟨w.heap.size, 0, none⟩ (by simp; omega), World.cell?_alloc_lt _ _ ⟨w.heap.size, 0, none⟩ (by simp)]
    exact ht
  have hS : Since w w' := by
    rw [hw']
    exact (((((((Since.refl w).alloc _).alloc _).alloc _).alloc _).alloc _)).setCell (Nat.le_refl _) _
  clear hw' ht hf HG
  go_wp2_with fail
  go_ret
  exact ⟨rfl, hS⟩
end Go.Proofs.YtbfjklpoheooaaaGreatDoor
end
section
namespace Go.Proofs.YtbfjklpoheooaaaGreatDoor
open Go.RowKit Go.Extern.Stop Go.Stop Go.Extern
theorem asErr_un (v : Value) (w : World) : (Instr.typeAssert (.iface 33 v) 39 144 true).run Tryz.prog w = .ok (.tuple #[.nilIface, .bool false]) w := run_typeAssert_lacksB Tryz.underlying144 (by kernel_rfl) (by kernel_rfl) v 39 w
theorem asErr_at (n : Int) (w : World) : (Instr.typeAssert (.iface 33 (.int .i64 n)) 39 140 true).run Tryz.prog w = .ok (.tuple #[.pointer none, .bool false]) w := by kernel_rfl
theorem place_nil (w : World) : Calls Tryz.prog 34 #[.nilIface] w fun e w' => e = .returned (.tuple #[.int .i64 0, .int .i64 (-1)]) ∧ w' = w := by
  go_enter Tryz.func34, Tryz.ntmps34
  go_wp2_with fail
  refine (tell_nil _).mono ?_
  rintro e w' ⟨rfl, rfl⟩
  go_wp2_with fail
  refine wp_loop_rounds 1 ?_
  rw [rounds_succ]
  go_wp2_with fail
  go_ret2
  exact ⟨rfl, rfl⟩
set_option maxHeartbeats 1000000 in
set_option maxRecDepth 100000 in
theorem place_hit (n : Int) (w : World) (hg : Et w) : Calls Tryz.prog 34 #[.iface 33 (.int .i64 n)] w fun e w' => e = .returned (.tuple #[.int .i64 n, .int .i64 (-1)]) ∧ Since w w' := by
  go_enter Tryz.func34, Tryz.ntmps34
  go_wp2_with fail
  refine (tell_hit n _ hg).mono ?_
  rintro e w' ⟨rfl, hS⟩
  clear hg
  have a1 := asErr_un
  have a2 := asErr_at
  go_wp2_with fail
  refine wp_loop_rounds 1 ?_
  rw [rounds_succ]
  go_wp2_with fail
  go_ret2
  exact ⟨rfl, hS⟩
theorem bare_nil (w : World) : Calls Tryz.prog 10 #[.nilIface, .int .i64 0] w fun e w' => e = .returned (.bool true) ∧ w' = w := by
  go_enter Tryz.func10, Tryz.ntmps10
  go_wp2_with fail
  refine (place_nil _).mono ?_
  rintro e w' ⟨rfl, rfl⟩
  go_wp2_with fail
  go_ret
  exact ⟨rfl, rfl⟩
theorem bare_hit (n : Int) (w : World) (hg : Et w) : Calls Tryz.prog 10 #[.iface 33 (.int .i64 n), .int .i64 n] w fun e w' => e = .returned (.bool true) ∧ Since w w' := by
  go_enter Tryz.func10, Tryz.ntmps10
  go_wp2_with fail
  refine (place_hit n _ hg).mono ?_
  rintro e w' ⟨rfl, hS⟩
  go_wp2_with fail
  go_ret
  exact ⟨by simp, hS⟩
theorem lawLong_any (s : ByteArray) (w : World) : Calls Tryz.prog 4 #[.string s] w fun e w' => e = .returned (.bool (decide (60 < s.size))) ∧ w' = w := by
  go_enter Tryz.func4, Tryz.ntmps4
  go_wp2_with fail
  go_ret
  refine ⟨?_, rfl⟩
  simp
  omega
end Go.Proofs.YtbfjklpoheooaaaGreatDoor
end
