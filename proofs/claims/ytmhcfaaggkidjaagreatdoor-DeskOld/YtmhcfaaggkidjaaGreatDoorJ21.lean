import Derived.Stop.Asserts
import Derived.RowKitTokens
import Derived.Test.YtmhcfaaggkidjaaGreatDoorJ02
set_option linter.unusedSimpArgs false
set_option linter.unusedVariables false
namespace Go.Proofs.YtmhcfaaggkidjaaGreatDoor
open Go.RowKit Go.Extern.Stop Go.Stop Go.Extern
theorem AS.La (t:Addr) (w:World):(ReflectliteValue.unpack (.iface 235 (.pointer (some t)))).run Tryz.prog w
  = .ok (.agg #[.pointer (some ⟨10,235,none⟩),.pointer (some ⟨w.heap.size,0,none⟩),.int .u64 150]) (w.alloc (.cells #[.pointer (some t)] 235)):=by kernel_rfl
theorem AS.Xu (a:Addr) (w:World):(ReflectliteValue.methodAny (ReflectliteValue.valueError "reflectlite.Value.Type" 0) (fun t _ _ _=>ReflectliteType.toType t) #[.agg #[.pointer (some ⟨10,235,none⟩),.pointer (some a),.int .u64 150]]).run Tryz.prog w
  = .ok (.iface 320 (.agg #[.pointer (some ⟨10,235,none⟩)])) w:=by kernel_rfl
theorem AS.GD (h:Value) (w:World):(Go.method 481 320 (.agg #[h]) "Kind").run Tryz.prog w=.ok (318,h) w:=by kernel_rfl
theorem AS.Xv (w:World):((ReflectliteType.abiMethod fun t=>Functor.map (fun a:Nat=>Value.int IntKind.u8 (a:Int)) (Rtype.kind t)) #[.pointer (some ⟨10,235,none⟩)]).run Tryz.prog w=.ok (.int .u8 22) w:=by kernel_rfl
theorem AS.Xw (w:World):((ReflectliteType.abiMethod fun t=>Functor.map (fun a:Nat=>Value.int IntKind.u8 (a:Int)) (Rtype.kind t)) #[.pointer (some ⟨10,32,none⟩)]).run Tryz.prog w=.ok (.int .u8 2) w:=by kernel_rfl
theorem AS.JF (a:Addr) (w:World):(ReflectliteValue.parts (.agg #[.pointer (some ⟨10,235,none⟩),.pointer (some a),.int .u64 150])).run Tryz.prog w=.ok (some (235,a,150)) w:=by kernel_rfl
theorem AS.TQ (a p:Addr) (W:World) (ha:W.cell? a=some (.pointer (some p))) :
  (ReflectliteValue.method (ReflectliteValue.valueError "reflectlite.Value.IsNil" 0) ReflectliteValue.isNil #[.agg #[.pointer (some ⟨10,235,none⟩),.pointer (some a),.int .u64 150]]).run Tryz.prog W=.ok (.bool false) W:=by
 refine Eq.trans (show _=Sem.run Tryz.prog (bind (ReflectliteValue.parts (.agg #[.pointer (some ⟨10,235,none⟩),.pointer (some a),.int .u64 150])) _) W from rfl) ?_;simp only[Sem.run_bind,AS.JF,Result.andThen];simp[ReflectliteValue.isNil,loadVar,isAgg,underlying,Tryz.underlying235,ha,Result.andThen]
theorem AS.GG (h:Value) (w:World):(Go.method 481 320 (.agg #[h]) "Elem").run Tryz.prog w=.ok (332,.agg #[h]) w:=by kernel_rfl
theorem AS.tN (h:Value) (w:World):(Go.method 481 320 (.agg #[h]) "Implements").run Tryz.prog w=.ok (333,.agg #[h]) w:=by kernel_rfl
theorem AS.qj (h:Value) (w:World):(Go.method 481 320 (.agg #[h]) "AssignableTo").run Tryz.prog w=.ok (330,.agg #[h]) w:=by kernel_rfl
theorem AS.Xx (w:World):(ReflectliteType.method ReflectliteType.elem #[.agg #[.pointer (some ⟨10,235,none⟩)]]).run Tryz.prog w=.ok (.iface 320 (.agg #[.pointer (some ⟨10,32,none⟩)])) w:=by kernel_rfl
theorem AS.Bz (w:World):(ReflectliteType.relation "Implements" ReflectliteType.implements_ #[.agg #[.pointer (some ⟨10,32,none⟩)],.iface 320 (.agg #[.pointer (some ⟨10,46,none⟩)])]).run Tryz.prog w=.ok (.bool true) w:=by kernel_rfl
theorem AS.DR (v:Value) (w:World):(ReflectliteType.typeOf #[.iface 32 v]).run Tryz.prog w=.ok (.iface 320 (.agg #[.pointer (some ⟨10,32,none⟩)])) w:=by kernel_rfl
theorem AS.BA (w:World):(ReflectliteType.relation "AssignableTo" ReflectliteType.assignableTo #[.agg #[.pointer (some ⟨10,32,none⟩)],.iface 320 (.agg #[.pointer (some ⟨10,32,none⟩)])]).run Tryz.prog w=.ok (.bool true) w:=by kernel_rfl
theorem AS.Lc (e:Int) (w:World):(ReflectliteValue.unpack (.iface 32 (.int .i64 e))).run Tryz.prog w
  = .ok (.agg #[.pointer (some ⟨10,32,none⟩),.pointer (some ⟨w.heap.size,0,none⟩),.int .u64 130]) (w.alloc (.cells #[.int .i64 e] 32)):=by kernel_rfl
theorem AS.OY (w:World):(Rtype.elem? 235).run Tryz.prog w=.ok (some 32) w:=by kernel_rfl
theorem AS.a2y (p:Addr) (w:World):(ReflectliteValue.mk 32 p ReflectliteValue.flagAddr).run Tryz.prog w=.ok (.agg #[.pointer (some ⟨10,32,none⟩),.pointer (some p),.int .u64 386]) w:=by kernel_rfl
theorem AS.TR (a p:Addr) (W:World) (ha:W.cell? a=some (.pointer (some p))) :
  (ReflectliteValue.method (ReflectliteValue.valueError "reflectlite.Value.Elem" 0) ReflectliteValue.elem #[.agg #[.pointer (some ⟨10,235,none⟩),.pointer (some a),.int .u64 150]]).run Tryz.prog W
   = .ok (.agg #[.pointer (some ⟨10,32,none⟩),.pointer (some p),.int .u64 386]) W:=by
 refine Eq.trans (show _=Sem.run Tryz.prog (bind (ReflectliteValue.parts (.agg #[.pointer (some ⟨10,235,none⟩),.pointer (some a),.int .u64 150])) _) W from rfl) ?_;simp only[Sem.run_bind,AS.JF,Result.andThen];simp[ReflectliteValue.elem,loadVar,isAgg,underlying,Tryz.underlying235,ha,Result.andThen,AS.OY,AS.a2y]
theorem AS.OZ (a:Addr) (w:World):(ReflectliteValue.parts (.agg #[.pointer (some ⟨10,32,none⟩),.pointer (some a),.int .u64 386])).run Tryz.prog w=.ok (some (32,a,386)) w:=by kernel_rfl
theorem AS.TS (a:Addr) (w:World):(ReflectliteValue.parts (.agg #[.pointer (some ⟨10,32,none⟩),.pointer (some a),.int .u64 130])).run Tryz.prog w=.ok (some (32,a,130)) w:=by kernel_rfl
theorem AS.Pb (w:World):(Rtype.directlyAssignable 32 32).run Tryz.prog w=.ok true w:=by kernel_rfl
theorem AS.Zx (ta b:Addr) (e:Int) (old:Value) (W:World) (hb:W.cell? b=some (.int .i64 e)) (ht:W.cell? ta=some old) (hf:W.frozen? ta=false) :
  (ReflectliteValue.set #[.agg #[.pointer (some ⟨10,32,none⟩),.pointer (some ta),.int .u64 386],.agg #[.pointer (some ⟨10,32,none⟩),.pointer (some b),.int .u64 130]]).run Tryz.prog W
   = .ok (.tuple #[]) (W.setCell ta (.int .i64 e)):=by
 refine Eq.trans (show _=Sem.run Tryz.prog (bind (ReflectliteValue.parts (.agg #[.pointer (some ⟨10,32,none⟩),.pointer (some ta),.int .u64 386])) _) W from rfl) ?_;simp only[Sem.run_bind,AS.OZ,Result.andThen,Array.getLit,List.getElem_toArray,List.getElem_cons_succ,List.getElem_cons_zero,AS.TS];simp[ReflectliteValue.flagAddr,loadVar,isAgg,underlying,Tryz.underlying32,hb,Result.andThen,AS.Pb,storeVar,Value.cells,storeCells,Addr.add];rw[run_store Tryz.prog W ta _ _ (by rfl)];simp[ht,hf]
set_option maxHeartbeats 4000000 in
set_option maxRecDepth 100000 in
theorem Xy (e:Int) (t:Addr) (old:Value) (w:World) (hg:w.cell? ⟨4,0,none⟩=some (.iface 320 (.agg #[.pointer (some ⟨10,46,none⟩)]))) (ht0:w.cell? t=some old) (hf0:w.frozen? t=false) :
  Calls Tryz.prog 202 #[.iface 32 (.int .i64 e),.iface 235 (.pointer (some t))] w fun ev w'=>ev=.returned (.bool true)∧w'=((((w.alloc (.cells #[.pointer (some t)] 235)).alloc (.cells #[.pointer (some ⟨10,235,none⟩),.pointer (some ⟨w.heap.size,0,none⟩),.int .u64 150] 282)).alloc (.cells #[.pointer (some ⟨10,235,none⟩),.pointer (some ⟨w.heap.size,0,none⟩),.int .u64 150] 282)).alloc (.cells #[.int .i64 e] 32)).setCell t (.int .i64 e):=by
 have h6:=@run_callFunc_extern Tryz.prog 250 _ (fun args=>ReflectliteValue.unpack (args.getD 0 (.tuple #[]))) Tryz.func250 (by kernel_rfl) (by kernel_rfl) (by kernel_rfl) (by kernel_rfl);have h7:=@run_callFunc_extern Tryz.prog 251 _ (ReflectliteValue.methodAny (ReflectliteValue.valueError "reflectlite.Value.Type" 0) (fun t _ _ _=>ReflectliteType.toType t)) Tryz.func251 (by kernel_rfl) (by kernel_rfl) (by kernel_rfl) (by kernel_rfl);have h8:=@run_callFunc_extern Tryz.prog 252 _ (ReflectliteValue.method (ReflectliteValue.valueError "reflectlite.Value.IsNil" 0) ReflectliteValue.isNil) Tryz.func252 (by kernel_rfl) (by kernel_rfl) (by kernel_rfl) (by kernel_rfl);have h27:=@run_callFunc_extern Tryz.prog 318 _ (ReflectliteType.abiMethod fun t=>do pure (.int .u8 (←Rtype.kind t))) Tryz.func318 (by kernel_rfl) (by kernel_rfl) (by kernel_rfl) (by kernel_rfl)
 have h37:=@run_callFunc_extern Tryz.prog 332 _ (ReflectliteType.method ReflectliteType.elem) Tryz.func332 (by kernel_rfl) (by kernel_rfl) (by kernel_rfl) (by kernel_rfl);have h38:=@run_callFunc_extern Tryz.prog 333 _ (ReflectliteType.relation "Implements" ReflectliteType.implements_) Tryz.func333 (by kernel_rfl) (by kernel_rfl) (by kernel_rfl) (by kernel_rfl);have h10:=@run_callFunc_extern Tryz.prog 240 _ ReflectliteType.typeOf Tryz.func240 (by kernel_rfl) (by kernel_rfl) (by kernel_rfl) (by kernel_rfl);have h35:=@run_callFunc_extern Tryz.prog 330 _ (ReflectliteType.relation "AssignableTo" ReflectliteType.assignableTo) Tryz.func330 (by kernel_rfl) (by kernel_rfl) (by kernel_rfl) (by kernel_rfl)
 have h11:=@run_callFunc_extern Tryz.prog 288 _ (ReflectliteValue.method (ReflectliteValue.valueError "reflectlite.Value.Elem" 0) ReflectliteValue.elem) Tryz.func288 (by kernel_rfl) (by kernel_rfl) (by kernel_rfl) (by kernel_rfl);have h12:=@run_callFunc_extern Tryz.prog 289 _ ReflectliteValue.set Tryz.func289 (by kernel_rfl) (by kernel_rfl) (by kernel_rfl) (by kernel_rfl);have tO:=AS.DR;have mA:=AS.qj;have a25:=AS.BA;have v25:=AS.Lc;have f6:=AS.La;have f7:=AS.Xu;have mK:=AS.GD;have mE:=AS.GG;have mI:=AS.tN;have k27:=AS.Xv;have k25:=AS.Xw;have e27:=AS.Xx;have i25:=AS.Bz;have n8:=AS.TQ ⟨w.heap.size,0,none⟩ t ((w.alloc (.cells #[.pointer (some t)] 235)).alloc (.cells #[.pointer (some ⟨10,235,none⟩),.pointer (some ⟨w.heap.size,0,none⟩),.int .u64 150] 282)) (by simp)
 have hlt:4<w.heap.size:=World.block_lt_of_cell? w _ hg;have hg2:((w.alloc (.cells #[.pointer (some t)] 235)).alloc (.cells #[.pointer (some ⟨10,235,none⟩),.pointer (some ⟨w.heap.size,0,none⟩),.int .u64 150] 282)).cell? ⟨4,0,none⟩=some (.iface 320 (.agg #[.pointer (some ⟨10,46,none⟩)])):=by
  rw[World.cell?_alloc_lt _ _ ⟨4,0,none⟩ (by simp;try omega),World.cell?_alloc_lt _ _ ⟨4,0,none⟩ hlt];exact hg
 have htl:t.block<w.heap.size:=by
  rcases Nat.lt_or_ge t.block w.heap.size with h | h
  ·exact h
  simp[World.cell?,Array.getElem?_eq_none h] at ht0
 have el:=AS.TR ⟨w.heap.size,0,none⟩ t (((w.alloc (.cells #[.pointer (some t)] 235)).alloc (.cells #[.pointer (some ⟨10,235,none⟩),.pointer (some ⟨w.heap.size,0,none⟩),.int .u64 150] 282)).alloc (.cells #[.pointer (some ⟨10,235,none⟩),.pointer (some ⟨w.heap.size,0,none⟩),.int .u64 150] 282)) (by rw[World.cell?_alloc_lt _ _ ⟨w.heap.size,0,none⟩ (by simp;omega)];simp);have st:=AS.Zx t ⟨w.heap.size+1+1+1,0,none⟩ e old ((((w.alloc (.cells #[.pointer (some t)] 235)).alloc (.cells #[.pointer (some ⟨10,235,none⟩),.pointer (some ⟨w.heap.size,0,none⟩),.int .u64 150] 282)).alloc (.cells #[.pointer (some ⟨10,235,none⟩),.pointer (some ⟨w.heap.size,0,none⟩),.int .u64 150] 282)).alloc (.cells #[.int .i64 e] 32))
  (by rw[World.cell?_alloc_at _ _ _ _ (by simp)];rfl)
  (by rw[World.cell?_alloc_lt _ _ t (by simp;omega),World.cell?_alloc_lt _ _ t (by simp;omega),World.cell?_alloc_lt _ _ t (by simp;omega),World.cell?_alloc_lt _ _ t htl];exact ht0)
  (by rw[World.frozen?_alloc_old _ _ t (by simp;omega),World.frozen?_alloc_old _ _ t (by simp;omega),World.frozen?_alloc_old _ _ t (by simp;omega),World.frozen?_alloc_old _ _ t (Nat.ne_of_lt htl)];exact hf0)
 go_enter Tryz.func202,Tryz.ntmps202
 go_wp2
 refine wp_loop_rounds 1 ?_;rw[rounds_succ];go_wp2
 go_ret;exact⟨rfl,rfl⟩
end Go.Proofs.YtmhcfaaggkidjaaGreatDoor
