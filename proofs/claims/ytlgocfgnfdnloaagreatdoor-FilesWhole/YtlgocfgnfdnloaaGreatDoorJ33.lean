import Derived.Lib.IfaceEq
import Derived.Test.YtlgocfgnfdnloaaGreatDoorJ32
set_option linter.unusedSimpArgs false
set_option linter.unusedVariables false
namespace Go.Proofs.YtlgocfgnfdnloaaGreatDoor
open Go.RowKit Go.Extern.Stop Go.Stop Go.Extern
theorem IS.call (w : World) : (callFunc 374 #[.agg #[.pointer (some ⟨10, 32, none⟩)]]).run Tryz.prog w = .ok (.value (.bool true)) w := by kernel_rfl
theorem IS.methodComparable (v : Value) (w : World) : (Go.method 550 279 v "Comparable").run Tryz.prog w = .ok (374, v) w := by kernel_rfl
theorem IS.comp : (Tryz.prog.info? 32).map (·.comparable) = some true := by kernel_rfl
theorem IS.noIs (v : Value) (xT : TypeId) (w : World) : (Instr.typeAssert (.iface 32 v) xT 378 true).run Tryz.prog w = .ok (.tuple #[.nilIface, .bool false]) w := run_typeAssert_lacksB Tryz.underlying378 (by kernel_rfl) (by kernel_rfl) v xT w
theorem IS.noUnwrap (v : Value) (xT : TypeId) (w : World) : (Instr.typeAssert (.iface 32 v) xT 210 true).run Tryz.prog w = .ok (.tuple #[.nilIface, .bool false]) w := run_typeAssert_lacksB Tryz.underlying210 (by kernel_rfl) (by kernel_rfl) v xT w
theorem IS.noUnwraps (v : Value) (xT : TypeId) (w : World) : (Instr.typeAssert (.iface 32 v) xT 315 true).run Tryz.prog w = .ok (.tuple #[.nilIface, .bool false]) w := run_typeAssert_lacksB Tryz.underlying315 (by kernel_rfl) (by kernel_rfl) v xT w
theorem is_nil (n : Int) (w : World) :
    Calls Tryz.prog 217 #[.nilIface, .iface 32 (.int .i64 n)] w fun e w' => e = .returned (.bool false) ∧ w' = w := by
  have hn := run_eql_iface_nil_left (P := Tryz.prog) w 32 (.int .i64 n) Tryz.underlying38
  go_enter Tryz.func217, Tryz.ntmps217
  go_wp2
  go_ret
  exact ⟨rfl, rfl⟩
set_option maxRecDepth 100000 in
set_option maxHeartbeats 2000000 in
theorem is_any (m n : Int) (w : World) :
    Calls Tryz.prog 217 #[.iface 32 (.int .i64 m), .iface 32 (.int .i64 n)] w fun e w' => e = .returned (.bool (decide (m = n))) ∧ w' = w := by
  have h8 := @run_callFunc_extern Tryz.prog 236 _ ReflectliteType.typeOf Tryz.func236 (by kernel_rfl) (by kernel_rfl) (by kernel_rfl) (by kernel_rfl)
  have h32 := IS.call
  have tT := AS.typeOf25
  have mR := IS.methodComparable
  have nE := IS.noIs
  have uE := IS.noUnwrap
  have vE := IS.noUnwraps
  have heq : (binOp .eql 38 (.iface 32 (.int .i64 m)) (.iface 32 (.int .i64 n))).run Tryz.prog w = .ok (.bool (decide (m = n))) w := by
    rw [Go.Lib.run_eql_iface_int (P := Tryz.prog) w m n Tryz.underlying38 IS.comp Tryz.underlying32]
    rfl
  by_cases h : m = n
  · subst h
    rw [decide_eq_true rfl] at heq ⊢
    go_enter Tryz.func217, Tryz.ntmps217
    go_wp2
    refine wp_loop_rounds 1 ?_
    rw [rounds_succ]
    go_wp2
    go_ret
    exact ⟨rfl, rfl⟩
  · rw [decide_eq_false h] at heq ⊢
    clear h
    go_enter Tryz.func217, Tryz.ntmps217
    go_wp2
    refine wp_loop_rounds 1 ?_
    rw [rounds_succ]
    go_wp2
    go_ret
    exact ⟨rfl, rfl⟩
end Go.Proofs.YtlgocfgnfdnloaaGreatDoor
