/- plain.Place and the law's bare. -/
import Derived.Test.YtceoamhenpohhaaGreatDoorE8
namespace Go.Proofs.YtceoamhenpohhaaGreatDoor
set_option linter.unusedSimpArgs false
set_option linter.unusedVariables false
open Go.RowKit Go.Extern.Stop Go.Stop Go.Extern

theorem asErr_un (v : Value) (w : World) : (Instr.typeAssert (.iface 24 v) 28 80 true).run Tryz.prog w = .ok (.tuple #[.nilIface, .bool false]) w := run_typeAssert_lacksB Tryz.underlying80 (by kernel_rfl) (by kernel_rfl) v 28 w
theorem asErr_at (n : Int) (w : World) : (Instr.typeAssert (.iface 24 (.int .i64 n)) 28 76 true).run Tryz.prog w = .ok (.tuple #[.pointer none, .bool false]) w := by kernel_rfl
theorem place_nil (w : World) : Calls Tryz.prog 26 #[.nilIface] w fun e w' => e = .returned (.tuple #[.int .i64 0, .int .i64 (-1)]) ∧ w' = w := by
  go_enter Tryz.func26, Tryz.ntmps26
  go_wp2_with fail
  refine (tell_nil _).mono ?_
  rintro e w' ⟨rfl, rfl⟩
  go_wp2_with fail
  refine wp_loop_rounds 1 ?_
  rw [rounds_succ]
  go_wp2_with fail
  go_ret2
  exact ⟨rfl, rfl⟩

set_option maxHeartbeats 1000000 in
set_option maxRecDepth 100000 in
theorem place_hit (n : Int) (w : World) (hg : Et w) : Calls Tryz.prog 26 #[.iface 24 (.int .i64 n)] w fun e w' => e = .returned (.tuple #[.int .i64 n, .int .i64 (-1)]) ∧ Since w w' := by
  go_enter Tryz.func26, Tryz.ntmps26
  go_wp2_with fail
  refine (tell_hit n _ hg).mono ?_
  rintro e w' ⟨rfl, hS⟩
  clear hg
  have a1 := asErr_un
  have a2 := asErr_at
  go_wp2_with fail
  refine wp_loop_rounds 1 ?_
  rw [rounds_succ]
  go_wp2_with fail
  go_ret2
  exact ⟨rfl, hS⟩

theorem bare_nil (w : World) : Calls Tryz.prog 7 #[.nilIface, .int .i64 0] w fun e w' => e = .returned (.bool true) ∧ w' = w := by
  go_enter Tryz.func7, Tryz.ntmps7
  go_wp2_with fail
  refine (place_nil _).mono ?_
  rintro e w' ⟨rfl, rfl⟩
  go_wp2_with fail
  go_ret
  exact ⟨rfl, rfl⟩
theorem bare_hit (n : Int) (w : World) (hg : Et w) : Calls Tryz.prog 7 #[.iface 24 (.int .i64 n), .int .i64 n] w fun e w' => e = .returned (.bool true) ∧ Since w w' := by
  go_enter Tryz.func7, Tryz.ntmps7
  go_wp2_with fail
  refine (place_hit n _ hg).mono ?_
  rintro e w' ⟨rfl, hS⟩
  go_wp2_with fail
  go_ret
  exact ⟨by simp, hS⟩
theorem lawLong_any (s : ByteArray) (w : World) : Calls Tryz.prog 20 #[.string s] w fun e w' => e = .returned (.bool (decide (60 < s.size))) ∧ w' = w := by
  go_enter Tryz.func20, Tryz.ntmps20
  go_wp2_with fail
  go_ret
  refine ⟨?_, rfl⟩
  simp
  omega
end Go.Proofs.YtceoamhenpohhaaGreatDoor
