/- plain.Place and the law's bare. -/
import Derived.Test.YtjfhggcjdckfgaaDoorE8
namespace Go.Proofs.YtjfhggcjdckfgaaDoor
set_option linter.unusedSimpArgs false
set_option linter.unusedVariables false
open Go.RowKit Go.Extern.Stop Go.Stop Go.Extern

theorem asErr_un (v : Value) (w : World) : (Instr.typeAssert (.iface 30 v) 34 197 true).run Tryd.prog w = .ok (.tuple #[.nilIface, .bool false]) w := run_typeAssert_lacksB Tryd.underlying197 (by kernel_rfl) (by kernel_rfl) v 34 w
theorem asErr_at (n : Int) (w : World) : (Instr.typeAssert (.iface 30 (.int .i64 n)) 34 193 true).run Tryd.prog w = .ok (.tuple #[.pointer none, .bool false]) w := by kernel_rfl
theorem place_nil (w : World) : Calls Tryd.prog 94 #[.nilIface] w fun e w' => e = .returned (.tuple #[.int .i64 0, .int .i64 (-1)]) ∧ w' = w := by
  go_enter Tryd.func94, Tryd.ntmps94
  go_wp2_with fail
  refine (tell_nil _).mono ?_
  rintro e w' ⟨rfl, rfl⟩
  go_wp2_with fail
  refine wp_loop_rounds 1 ?_
  rw [rounds_succ]
  go_wp2_with fail
  go_ret2
  exact ⟨rfl, rfl⟩

set_option maxHeartbeats 1000000 in
set_option maxRecDepth 100000 in
theorem place_hit (n : Int) (w : World) (hg : Et w) : Calls Tryd.prog 94 #[.iface 30 (.int .i64 n)] w fun e w' => e = .returned (.tuple #[.int .i64 n, .int .i64 (-1)]) ∧ Since w w' := by
  go_enter Tryd.func94, Tryd.ntmps94
  go_wp2_with fail
  refine (tell_hit n _ hg).mono ?_
  rintro e w' ⟨rfl, hS⟩
  clear hg
  have a1 := asErr_un
  have a2 := asErr_at
  go_wp2_with fail
  refine wp_loop_rounds 1 ?_
  rw [rounds_succ]
  go_wp2_with fail
  go_ret2
  exact ⟨rfl, hS⟩

theorem bare_nil (w : World) : Calls Tryd.prog 23 #[.nilIface, .int .i64 0] w fun e w' => e = .returned (.bool true) ∧ w' = w := by
  go_enter Tryd.func23, Tryd.ntmps23
  go_wp2_with fail
  refine (place_nil _).mono ?_
  rintro e w' ⟨rfl, rfl⟩
  go_wp2_with fail
  go_ret
  exact ⟨rfl, rfl⟩
theorem bare_hit (n : Int) (w : World) (hg : Et w) : Calls Tryd.prog 23 #[.iface 30 (.int .i64 n), .int .i64 n] w fun e w' => e = .returned (.bool true) ∧ Since w w' := by
  go_enter Tryd.func23, Tryd.ntmps23
  go_wp2_with fail
  refine (place_hit n _ hg).mono ?_
  rintro e w' ⟨rfl, hS⟩
  go_wp2_with fail
  go_ret
  exact ⟨by simp, hS⟩
theorem lawLong_any (s : ByteArray) (w : World) : Calls Tryd.prog 11 #[.string s] w fun e w' => e = .returned (.bool (decide (60 < s.size))) ∧ w' = w := by
  go_enter Tryd.func11, Tryd.ntmps11
  go_wp2_with fail
  go_ret
  refine ⟨?_, rfl⟩
  simp
  omega
end Go.Proofs.YtjfhggcjdckfgaaDoor
