import Derived.Lib.IfaceEq
import Derived.Test.YtlgbfkcpdelcbaaGreatDoorJ27
set_option linter.unusedSimpArgs false
set_option linter.unusedVariables false
set_option maxHeartbeats 8000000
set_option maxRecDepth 100000
namespace Go.Proofs.YtlgbfkcpdelcbaaGreatDoor
open Go.RowKit Go.Extern.Stop Go.Stop Go.Extern
theorem IS.call (w:World):(callFunc 349 #[.agg #[.pointer (some ⟨10,32,none⟩)]]).run Tryz.prog w=.ok (.value (.bool true)) w:=by kernel_rfl
theorem IS.uh (v:Value)(w:World):(Go.method 524 245 v "Comparable").run Tryz.prog w=.ok (349,v) w:=by kernel_rfl
theorem IS.comp:(Tryz.prog.info? 32).map (·.comparable)=some true:=by kernel_rfl
theorem IS.a7k (v:Value)(xT:TypeId)(w:World):(Instr.typeAssert (.iface 32 v) xT 352 true).run Tryz.prog w=.ok (.tuple #[.nilIface,.bool false]) w:=run_typeAssert_lacksB Tryz.underlying352 (by kernel_rfl) (by kernel_rfl) v xT w
theorem IS.SH (v:Value)(xT:TypeId)(w:World):(Instr.typeAssert (.iface 32 v) xT 178 true).run Tryz.prog w=.ok (.tuple #[.nilIface,.bool false]) w:=run_typeAssert_lacksB Tryz.underlying178 (by kernel_rfl) (by kernel_rfl) v xT w
theorem IS.OO (v:Value)(xT:TypeId)(w:World):(Instr.typeAssert (.iface 32 v) xT 343 true).run Tryz.prog w=.ok (.tuple #[.nilIface,.bool false]) w:=run_typeAssert_lacksB Tryz.underlying343 (by kernel_rfl) (by kernel_rfl) v xT w
theorem a0c (n:Int)(w:World) :
  Calls Tryz.prog 190 #[.nilIface,.iface 32 (.int .i64 n)] w fun e w'=>e=.returned (.bool false)∧w'=w:=by
 have hn:=run_eql_iface_nil_left (P:=Tryz.prog) w 32 (.int .i64 n) Tryz.underlying38;go_enter Tryz.func190,Tryz.ntmps190
 go_wp2
 go_ret;exact⟨rfl,rfl⟩
theorem SI (m n:Int)(w:World) :
  Calls Tryz.prog 190 #[.iface 32 (.int .i64 m),.iface 32 (.int .i64 n)] w fun e w'=>e=.returned (.bool (decide (m=n)))∧w'=w:=by
 have h8:=@run_callFunc_extern Tryz.prog 247 _ ReflectliteType.typeOf Tryz.func247 (by kernel_rfl) (by kernel_rfl) (by kernel_rfl) (by kernel_rfl);have h32:=IS.call;have tT:=AS.Eg;have mR:=IS.uh;have nE:=IS.a7k;have uE:=IS.SH;have vE:=IS.OO;have heq:(binOp .eql 38 (.iface 32 (.int .i64 m)) (.iface 32 (.int .i64 n))).run Tryz.prog w=.ok (.bool (decide (m=n))) w:=by
  rw[Go.Lib.run_eql_iface_int (P:=Tryz.prog) w m n Tryz.underlying38 IS.comp Tryz.underlying32]
  rfl
 by_cases h:m=n
 ·subst h;rw[decide_eq_true rfl] at heq ⊢;go_enter Tryz.func190,Tryz.ntmps190
  go_wp2
  refine wp_loop_rounds 1 ?_;rw[rounds_succ];go_wp2
  go_ret;exact⟨rfl,rfl⟩
 rw[decide_eq_false h] at heq ⊢;clear h;go_enter Tryz.func190,Tryz.ntmps190
 go_wp2
 refine wp_loop_rounds 1 ?_;rw[rounds_succ];go_wp2
 go_ret;exact⟨rfl,rfl⟩
end Go.Proofs.YtlgbfkcpdelcbaaGreatDoor
