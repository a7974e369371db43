import Derived.Lib.IfaceEq
import Derived.Test.YtifnhnfjelfddaaGreatDoorJ31
set_option linter.unusedSimpArgs false
set_option linter.unusedVariables false
namespace Go.Proofs.YtifnhnfjelfddaaGreatDoor
open Go.RowKit Go.Extern.Stop Go.Stop Go.Extern
theorem IS.call (w : World) : (callFunc 185 #[.agg #[.pointer (some ⟨6, 45, none⟩)]]).run Tryz.prog w = .ok (.value (.bool true)) w := by kernel_rfl
theorem IS.methodComparable (v : Value) (w : World) : (Go.method 370 163 v "Comparable").run Tryz.prog w = .ok (185, v) w := by kernel_rfl
theorem IS.comp : (Tryz.prog.info? 45).map (·.comparable) = some true := by kernel_rfl
theorem IS.noIs (v : Value) (xT : TypeId) (w : World) : (Instr.typeAssert (.iface 45 v) xT 202 true).run Tryz.prog w = .ok (.tuple #[.nilIface, .bool false]) w := run_typeAssert_lacksB Tryz.underlying202 (by kernel_rfl) (by kernel_rfl) v xT w
theorem IS.noUnwrap (v : Value) (xT : TypeId) (w : World) : (Instr.typeAssert (.iface 45 v) xT 170 true).run Tryz.prog w = .ok (.tuple #[.nilIface, .bool false]) w := run_typeAssert_lacksB Tryz.underlying170 (by kernel_rfl) (by kernel_rfl) v xT w
theorem IS.noUnwraps (v : Value) (xT : TypeId) (w : World) : (Instr.typeAssert (.iface 45 v) xT 171 true).run Tryz.prog w = .ok (.tuple #[.nilIface, .bool false]) w := run_typeAssert_lacksB Tryz.underlying171 (by kernel_rfl) (by kernel_rfl) v xT w
theorem is_nil (n : Int) (w : World) :
    Calls Tryz.prog 69 #[.nilIface, .iface 45 (.int .i64 n)] w fun e w' => e = .returned (.bool false) ∧ w' = w := by
  have hn := run_eql_iface_nil_left (P := Tryz.prog) w 45 (.int .i64 n) Tryz.underlying41
  go_enter Tryz.func69, Tryz.ntmps69
  go_wp2
  go_ret
  exact ⟨rfl, rfl⟩
set_option maxRecDepth 100000 in
set_option maxHeartbeats 2000000 in
theorem is_any (m n : Int) (w : World) :
    Calls Tryz.prog 69 #[.iface 45 (.int .i64 m), .iface 45 (.int .i64 n)] w fun e w' => e = .returned (.bool (decide (m = n))) ∧ w' = w := by
  have h8 := @run_callFunc_extern Tryz.prog 93 _ ReflectliteType.typeOf Tryz.func93 (by kernel_rfl) (by kernel_rfl) (by kernel_rfl) (by kernel_rfl)
  have h32 := IS.call
  have tT := AS.typeOf25
  have mR := IS.methodComparable
  have nE := IS.noIs
  have uE := IS.noUnwrap
  have vE := IS.noUnwraps
  have heq : (binOp .eql 41 (.iface 45 (.int .i64 m)) (.iface 45 (.int .i64 n))).run Tryz.prog w = .ok (.bool (decide (m = n))) w := by
    rw [Go.Lib.run_eql_iface_int (P := Tryz.prog) w m n Tryz.underlying41 IS.comp Tryz.underlying45]
    rfl
  by_cases h : m = n
  · subst h
    rw [decide_eq_true rfl] at heq ⊢
    go_enter Tryz.func69, Tryz.ntmps69
    go_wp2
    refine wp_loop_rounds 1 ?_
    rw [rounds_succ]
    go_wp2
    go_ret
    exact ⟨rfl, rfl⟩
  · rw [decide_eq_false h] at heq ⊢
    clear h
    go_enter Tryz.func69, Tryz.ntmps69
    go_wp2
    refine wp_loop_rounds 1 ?_
    rw [rounds_succ]
    go_wp2
    go_ret
    exact ⟨rfl, rfl⟩
end Go.Proofs.YtifnhnfjelfddaaGreatDoor
