import Derived.Lib.IfaceEq
import Derived.Test.YtbfjklpoheooaaaGreatDoorJ34
set_option linter.unusedSimpArgs false
set_option linter.unusedVariables false
namespace Go.Proofs.YtbfjklpoheooaaaGreatDoor
open Go.RowKit Go.Extern.Stop Go.Stop Go.Extern
theorem IS.call (w : World) : (callFunc 215 #[.agg #[.pointer (some ⟨3, 33, none⟩)]]).run Tryz.prog w = .ok (.value (.bool true)) w := by kernel_rfl
theorem IS.methodComparable (v : Value) (w : World) : (Go.method 400 239 v "Comparable").run Tryz.prog w = .ok (215, v) w := by kernel_rfl
theorem IS.comp : (Tryz.prog.info? 33).map (·.comparable) = some true := by kernel_rfl
theorem IS.noIs (v : Value) (xT : TypeId) (w : World) : (Instr.typeAssert (.iface 33 v) xT 241 true).run Tryz.prog w = .ok (.tuple #[.nilIface, .bool false]) w := run_typeAssert_lacksB Tryz.underlying241 (by kernel_rfl) (by kernel_rfl) v xT w
theorem IS.noUnwrap (v : Value) (xT : TypeId) (w : World) : (Instr.typeAssert (.iface 33 v) xT 144 true).run Tryz.prog w = .ok (.tuple #[.nilIface, .bool false]) w := run_typeAssert_lacksB Tryz.underlying144 (by kernel_rfl) (by kernel_rfl) v xT w
theorem IS.noUnwraps (v : Value) (xT : TypeId) (w : World) : (Instr.typeAssert (.iface 33 v) xT 244 true).run Tryz.prog w = .ok (.tuple #[.nilIface, .bool false]) w := run_typeAssert_lacksB Tryz.underlying244 (by kernel_rfl) (by kernel_rfl) v xT w
theorem is_nil (n : Int) (w : World) :
    Calls Tryz.prog 98 #[.nilIface, .iface 33 (.int .i64 n)] w fun e w' => e = .returned (.bool false) ∧ w' = w := by
  have hn := run_eql_iface_nil_left (P := Tryz.prog) w 33 (.int .i64 n) Tryz.underlying39
  go_enter Tryz.func98, Tryz.ntmps98
  go_wp2
  go_ret
  exact ⟨rfl, rfl⟩
set_option maxRecDepth 100000 in
set_option maxHeartbeats 2000000 in
theorem is_any (m n : Int) (w : World) :
    Calls Tryz.prog 98 #[.iface 33 (.int .i64 m), .iface 33 (.int .i64 n)] w fun e w' => e = .returned (.bool (decide (m = n))) ∧ w' = w := by
  have h8 := @run_callFunc_extern Tryz.prog 135 _ ReflectliteType.typeOf Tryz.func135 (by kernel_rfl) (by kernel_rfl) (by kernel_rfl) (by kernel_rfl)
  have h32 := IS.call
  have tT := AS.typeOf25
  have mR := IS.methodComparable
  have nE := IS.noIs
  have uE := IS.noUnwrap
  have vE := IS.noUnwraps
  have heq : (binOp .eql 39 (.iface 33 (.int .i64 m)) (.iface 33 (.int .i64 n))).run Tryz.prog w = .ok (.bool (decide (m = n))) w := by
    rw [Go.Lib.run_eql_iface_int (P := Tryz.prog) w m n Tryz.underlying39 IS.comp Tryz.underlying33]
    rfl
  by_cases h : m = n
  · subst h
    rw [decide_eq_true rfl] at heq ⊢
    go_enter Tryz.func98, Tryz.ntmps98
    go_wp2
    refine wp_loop_rounds 1 ?_
    rw [rounds_succ]
    go_wp2
    go_ret
    exact ⟨rfl, rfl⟩
  · rw [decide_eq_false h] at heq ⊢
    clear h
    go_enter Tryz.func98, Tryz.ntmps98
    go_wp2
    refine wp_loop_rounds 1 ?_
    rw [rounds_succ]
    go_wp2
    go_ret
    exact ⟨rfl, rfl⟩
end Go.Proofs.YtbfjklpoheooaaaGreatDoor
