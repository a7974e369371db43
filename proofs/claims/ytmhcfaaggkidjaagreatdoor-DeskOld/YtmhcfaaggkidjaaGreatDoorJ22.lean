import Derived.Lib.IfaceEq
import Derived.Test.YtmhcfaaggkidjaaGreatDoorJ21
set_option linter.unusedSimpArgs false
set_option linter.unusedVariables false
namespace Go.Proofs.YtmhcfaaggkidjaaGreatDoor
open Go.RowKit Go.Extern.Stop Go.Stop Go.Extern
theorem IS.call (w:World):(callFunc 331 #[.agg #[.pointer (some ⟨10,32,none⟩)]]).run Tryz.prog w=.ok (.value (.bool true)) w:=by kernel_rfl
theorem IS.tQ (v:Value) (w:World):(Go.method 481 320 v "Comparable").run Tryz.prog w=.ok (331,v) w:=by kernel_rfl
theorem IS.comp:(Tryz.prog.info? 32).map (·.comparable)=some true:=by kernel_rfl
theorem IS.a2z (v:Value) (xT:TypeId) (w:World):(Instr.typeAssert (.iface 32 v) xT 322 true).run Tryz.prog w=.ok (.tuple #[.nilIface,.bool false]) w:=run_typeAssert_lacksB Tryz.underlying322 (by kernel_rfl) (by kernel_rfl) v xT w
theorem IS.Pf (v:Value) (xT:TypeId) (w:World):(Instr.typeAssert (.iface 32 v) xT 325 true).run Tryz.prog w=.ok (.tuple #[.nilIface,.bool false]) w:=run_typeAssert_lacksB Tryz.underlying325 (by kernel_rfl) (by kernel_rfl) v xT w
theorem IS.Ld (v:Value) (xT:TypeId) (w:World):(Instr.typeAssert (.iface 32 v) xT 326 true).run Tryz.prog w=.ok (.tuple #[.nilIface,.bool false]) w:=run_typeAssert_lacksB Tryz.underlying326 (by kernel_rfl) (by kernel_rfl) v xT w
theorem Xz (n:Int) (w:World) :
  Calls Tryz.prog 184 #[.nilIface,.iface 32 (.int .i64 n)] w fun e w'=>e=.returned (.bool false)∧w'=w:=by
 have hn:=run_eql_iface_nil_left (P:=Tryz.prog) w 32 (.int .i64 n) Tryz.underlying46;go_enter Tryz.func184,Tryz.ntmps184
 go_wp2
 go_ret;exact⟨rfl,rfl⟩
set_option maxRecDepth 100000 in
set_option maxHeartbeats 2000000 in
theorem Pg (m n:Int) (w:World) :
  Calls Tryz.prog 184 #[.iface 32 (.int .i64 m),.iface 32 (.int .i64 n)] w fun e w'=>e=.returned (.bool (decide (m=n)))∧w'=w:=by
 have h8:=@run_callFunc_extern Tryz.prog 240 _ ReflectliteType.typeOf Tryz.func240 (by kernel_rfl) (by kernel_rfl) (by kernel_rfl) (by kernel_rfl);have h32:=IS.call;have tT:=AS.DR;have mR:=IS.tQ;have nE:=IS.a2z;have uE:=IS.Pf;have vE:=IS.Ld;have heq:(binOp .eql 46 (.iface 32 (.int .i64 m)) (.iface 32 (.int .i64 n))).run Tryz.prog w=.ok (.bool (decide (m=n))) w:=by
  rw[Go.Lib.run_eql_iface_int (P:=Tryz.prog) w m n Tryz.underlying46 IS.comp Tryz.underlying32]
  rfl
 by_cases h:m=n
 ·subst h;rw[decide_eq_true rfl] at heq ⊢;go_enter Tryz.func184,Tryz.ntmps184
  go_wp2
  refine wp_loop_rounds 1 ?_;rw[rounds_succ];go_wp2
  go_ret;exact⟨rfl,rfl⟩
 rw[decide_eq_false h] at heq ⊢;clear h;go_enter Tryz.func184,Tryz.ntmps184
 go_wp2
 refine wp_loop_rounds 1 ?_;rw[rounds_succ];go_wp2
 go_ret;exact⟨rfl,rfl⟩
end Go.Proofs.YtmhcfaaggkidjaaGreatDoor
