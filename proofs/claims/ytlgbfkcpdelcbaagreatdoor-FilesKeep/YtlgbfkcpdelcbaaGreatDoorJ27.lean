import Derived.Stop.Asserts
import Derived.RowKitTokens
import Derived.Test.YtlgbfkcpdelcbaaGreatDoorJ01
set_option linter.unusedSimpArgs false
set_option linter.unusedVariables false
set_option maxHeartbeats 8000000
set_option maxRecDepth 100000
namespace Go.Proofs.YtlgbfkcpdelcbaaGreatDoor
section
open Go.RowKit Go.Extern.Stop Go.Stop Go.Extern
theorem AS.OI (t:Addr)(w:World):(ReflectliteValue.unpack (.iface 241 (.pointer (some t)))).run Tryz.prog w
  = .ok (.agg #[.pointer (some ⟨10,241,none⟩),.pointer (some ⟨w.heap.size,0,none⟩),.int .u64 150]) (w.alloc (.cells #[.pointer (some t)] 241)):=by kernel_rfl
theorem AS.ZX (a:Addr)(w:World):(ReflectliteValue.methodAny (ReflectliteValue.valueError "reflectlite.Value.Type" 0) (fun t _ _ _=>ReflectliteType.toType t) #[.agg #[.pointer (some ⟨10,241,none⟩),.pointer (some a),.int .u64 150]]).run Tryz.prog w
  = .ok (.iface 245 (.agg #[.pointer (some ⟨10,241,none⟩)])) w:=by kernel_rfl
theorem AS.Jd (h:Value)(w:World):(Go.method 524 245 (.agg #[h]) "Kind").run Tryz.prog w=.ok (339,h) w:=by kernel_rfl
theorem AS.ZY (w:World):((ReflectliteType.abiMethod fun t=>Functor.map (fun a:Nat=>Value.int IntKind.u8 (a:Int)) (Rtype.kind t)) #[.pointer (some ⟨10,241,none⟩)]).run Tryz.prog w=.ok (.int .u8 22) w:=by kernel_rfl
theorem AS.ZZ (w:World):((ReflectliteType.abiMethod fun t=>Functor.map (fun a:Nat=>Value.int IntKind.u8 (a:Int)) (Rtype.kind t)) #[.pointer (some ⟨10,32,none⟩)]).run Tryz.prog w=.ok (.int .u8 2) w:=by kernel_rfl
theorem AS.MI (a:Addr)(w:World):(ReflectliteValue.parts (.agg #[.pointer (some ⟨10,241,none⟩),.pointer (some a),.int .u64 150])).run Tryz.prog w=.ok (some (241,a,150)) w:=by kernel_rfl
theorem AS.WV (a p:Addr)(W:World)(ha:W.cell? a=some (.pointer (some p))) :
  (ReflectliteValue.method (ReflectliteValue.valueError "reflectlite.Value.IsNil" 0) ReflectliteValue.isNil #[.agg #[.pointer (some ⟨10,241,none⟩),.pointer (some a),.int .u64 150]]).run Tryz.prog W=.ok (.bool false) W:=by
 refine Eq.trans (show _=Sem.run Tryz.prog (bind (ReflectliteValue.parts (.agg #[.pointer (some ⟨10,241,none⟩),.pointer (some a),.int .u64 150])) _) W from rfl) ?_;simp only[Sem.run_bind,AS.MI,Result.andThen];simp[ReflectliteValue.isNil,loadVar,isAgg,underlying,Tryz.underlying241,ha,Result.andThen]
theorem AS.Je (h:Value)(w:World):(Go.method 524 245 (.agg #[h]) "Elem").run Tryz.prog w=.ok (350,.agg #[h]) w:=by kernel_rfl
theorem AS.ug (h:Value)(w:World):(Go.method 524 245 (.agg #[h]) "Implements").run Tryz.prog w=.ok (351,.agg #[h]) w:=by kernel_rfl
theorem AS.qL (h:Value)(w:World):(Go.method 524 245 (.agg #[h]) "AssignableTo").run Tryz.prog w=.ok (348,.agg #[h]) w:=by kernel_rfl
theorem AS.a0a (w:World):(ReflectliteType.method ReflectliteType.elem #[.agg #[.pointer (some ⟨10,241,none⟩)]]).run Tryz.prog w=.ok (.iface 245 (.agg #[.pointer (some ⟨10,32,none⟩)])) w:=by kernel_rfl
theorem AS.BL (w:World):(ReflectliteType.relation "Implements" ReflectliteType.implements_ #[.agg #[.pointer (some ⟨10,32,none⟩)],.iface 245 (.agg #[.pointer (some ⟨10,38,none⟩)])]).run Tryz.prog w=.ok (.bool true) w:=by kernel_rfl
theorem AS.Eg (v:Value)(w:World):(ReflectliteType.typeOf #[.iface 32 v]).run Tryz.prog w=.ok (.iface 245 (.agg #[.pointer (some ⟨10,32,none⟩)])) w:=by kernel_rfl
theorem AS.BM (w:World):(ReflectliteType.relation "AssignableTo" ReflectliteType.assignableTo #[.agg #[.pointer (some ⟨10,32,none⟩)],.iface 245 (.agg #[.pointer (some ⟨10,32,none⟩)])]).run Tryz.prog w=.ok (.bool true) w:=by kernel_rfl
theorem AS.OJ (e:Int)(w:World):(ReflectliteValue.unpack (.iface 32 (.int .i64 e))).run Tryz.prog w
  = .ok (.agg #[.pointer (some ⟨10,32,none⟩),.pointer (some ⟨w.heap.size,0,none⟩),.int .u64 130]) (w.alloc (.cells #[.int .i64 e] 32)):=by kernel_rfl
theorem AS.Sw (w:World):(Rtype.elem? 241).run Tryz.prog w=.ok (some 32) w:=by kernel_rfl
theorem AS.a7j (p:Addr)(w:World):(ReflectliteValue.mk 32 p ReflectliteValue.flagAddr).run Tryz.prog w=.ok (.agg #[.pointer (some ⟨10,32,none⟩),.pointer (some p),.int .u64 386]) w:=by kernel_rfl
theorem AS.WW (a p:Addr)(W:World)(ha:W.cell? a=some (.pointer (some p))) :
  (ReflectliteValue.method (ReflectliteValue.valueError "reflectlite.Value.Elem" 0) ReflectliteValue.elem #[.agg #[.pointer (some ⟨10,241,none⟩),.pointer (some a),.int .u64 150]]).run Tryz.prog W
   = .ok (.agg #[.pointer (some ⟨10,32,none⟩),.pointer (some p),.int .u64 386]) W:=by
 refine Eq.trans (show _=Sem.run Tryz.prog (bind (ReflectliteValue.parts (.agg #[.pointer (some ⟨10,241,none⟩),.pointer (some a),.int .u64 150])) _) W from rfl) ?_;simp only[Sem.run_bind,AS.MI,Result.andThen];simp[ReflectliteValue.elem,loadVar,isAgg,underlying,Tryz.underlying241,ha,Result.andThen,AS.Sw,AS.a7j]
theorem AS.Sy (a:Addr)(w:World):(ReflectliteValue.parts (.agg #[.pointer (some ⟨10,32,none⟩),.pointer (some a),.int .u64 386])).run Tryz.prog w=.ok (some (32,a,386)) w:=by kernel_rfl
theorem AS.WX (a:Addr)(w:World):(ReflectliteValue.parts (.agg #[.pointer (some ⟨10,32,none⟩),.pointer (some a),.int .u64 130])).run Tryz.prog w=.ok (some (32,a,130)) w:=by kernel_rfl
theorem AS.Sz (w:World):(Rtype.directlyAssignable 32 32).run Tryz.prog w=.ok true w:=by kernel_rfl
theorem AS.a4a (ta b:Addr)(e:Int)(old:Value)(W:World)(hb:W.cell? b=some (.int .i64 e))(ht:W.cell? ta=some old)(hf:W.frozen? ta=false) :
  (ReflectliteValue.set #[.agg #[.pointer (some ⟨10,32,none⟩),.pointer (some ta),.int .u64 386],.agg #[.pointer (some ⟨10,32,none⟩),.pointer (some b),.int .u64 130]]).run Tryz.prog W
   = .ok (.tuple #[]) (W.setCell ta (.int .i64 e)):=by
 refine Eq.trans (show _=Sem.run Tryz.prog (bind (ReflectliteValue.parts (.agg #[.pointer (some ⟨10,32,none⟩),.pointer (some ta),.int .u64 386])) _) W from rfl) ?_;simp only[Sem.run_bind,AS.Sy,Result.andThen,Array.getLit,List.getElem_toArray,List.getElem_cons_succ,List.getElem_cons_zero,AS.WX];simp[ReflectliteValue.flagAddr,loadVar,isAgg,underlying,Tryz.underlying32,hb,Result.andThen,AS.Sz,storeVar,Value.cells,storeCells,Addr.add];rw[run_store Tryz.prog W ta _ _ (by rfl)];simp[ht,hf]
theorem a0b (e:Int)(t:Addr)(old:Value)(w:World)(hg:w.cell? ⟨0,0,none⟩=some (.iface 245 (.agg #[.pointer (some ⟨10,38,none⟩)])))(ht0:w.cell? t=some old)(hf0:w.frozen? t=false) :
  Calls Tryz.prog 167 #[.iface 32 (.int .i64 e),.iface 241 (.pointer (some t))] w fun ev w'=>ev=.returned (.bool true)∧w'=((((w.alloc (.cells #[.pointer (some t)] 241)).alloc (.cells #[.pointer (some ⟨10,241,none⟩),.pointer (some ⟨w.heap.size,0,none⟩),.int .u64 150] 195)).alloc (.cells #[.pointer (some ⟨10,241,none⟩),.pointer (some ⟨w.heap.size,0,none⟩),.int .u64 150] 195)).alloc (.cells #[.int .i64 e] 32)).setCell t (.int .i64 e):=by
 have h6:=@run_callFunc_extern Tryz.prog 112 _ (fun args=>ReflectliteValue.unpack (args.getD 0 (.tuple #[]))) Tryz.func112 (by kernel_rfl) (by kernel_rfl) (by kernel_rfl) (by kernel_rfl);have h7:=@run_callFunc_extern Tryz.prog 231 _ (ReflectliteValue.methodAny (ReflectliteValue.valueError "reflectlite.Value.Type" 0) (fun t _ _ _=>ReflectliteType.toType t)) Tryz.func231 (by kernel_rfl) (by kernel_rfl) (by kernel_rfl) (by kernel_rfl);have h8:=@run_callFunc_extern Tryz.prog 232 _ (ReflectliteValue.method (ReflectliteValue.valueError "reflectlite.Value.IsNil" 0) ReflectliteValue.isNil) Tryz.func232 (by kernel_rfl) (by kernel_rfl) (by kernel_rfl) (by kernel_rfl);have h27:=@run_callFunc_extern Tryz.prog 339 _ (ReflectliteType.abiMethod fun t=>do pure (.int .u8 (←Rtype.kind t))) Tryz.func339 (by kernel_rfl) (by kernel_rfl) (by kernel_rfl) (by kernel_rfl)
 have h37:=@run_callFunc_extern Tryz.prog 350 _ (ReflectliteType.method ReflectliteType.elem) Tryz.func350 (by kernel_rfl) (by kernel_rfl) (by kernel_rfl) (by kernel_rfl);have h38:=@run_callFunc_extern Tryz.prog 351 _ (ReflectliteType.relation "Implements" ReflectliteType.implements_) Tryz.func351 (by kernel_rfl) (by kernel_rfl) (by kernel_rfl) (by kernel_rfl);have h10:=@run_callFunc_extern Tryz.prog 247 _ ReflectliteType.typeOf Tryz.func247 (by kernel_rfl) (by kernel_rfl) (by kernel_rfl) (by kernel_rfl);have h35:=@run_callFunc_extern Tryz.prog 348 _ (ReflectliteType.relation "AssignableTo" ReflectliteType.assignableTo) Tryz.func348 (by kernel_rfl) (by kernel_rfl) (by kernel_rfl) (by kernel_rfl)
 have h11:=@run_callFunc_extern Tryz.prog 275 _ (ReflectliteValue.method (ReflectliteValue.valueError "reflectlite.Value.Elem" 0) ReflectliteValue.elem) Tryz.func275 (by kernel_rfl) (by kernel_rfl) (by kernel_rfl) (by kernel_rfl);have h12:=@run_callFunc_extern Tryz.prog 276 _ ReflectliteValue.set Tryz.func276 (by kernel_rfl) (by kernel_rfl) (by kernel_rfl) (by kernel_rfl);have tO:=AS.Eg;have mA:=AS.qL;have a25:=AS.BM;have v25:=AS.OJ;have f6:=AS.OI;have f7:=AS.ZX;have mK:=AS.Jd;have mE:=AS.Je;have mI:=AS.ug;have k27:=AS.ZY;have k25:=AS.ZZ;have e27:=AS.a0a;have i25:=AS.BL;have n8:=AS.WV ⟨w.heap.size,0,none⟩ t ((w.alloc (.cells #[.pointer (some t)] 241)).alloc (.cells #[.pointer (some ⟨10,241,none⟩),.pointer (some ⟨w.heap.size,0,none⟩),.int .u64 150] 195)) (by simp)
 have hlt:0<w.heap.size:=World.block_lt_of_cell? w _ hg;have hg2:((w.alloc (.cells #[.pointer (some t)] 241)).alloc (.cells #[.pointer (some ⟨10,241,none⟩),.pointer (some ⟨w.heap.size,0,none⟩),.int .u64 150] 195)).cell? ⟨0,0,none⟩=some (.iface 245 (.agg #[.pointer (some ⟨10,38,none⟩)])):=by
  rw[World.cell?_alloc_lt _ _ ⟨0,0,none⟩ (by simp;try omega),World.cell?_alloc_lt _ _ ⟨0,0,none⟩ hlt];exact hg
 have htl:t.block<w.heap.size:=by
  rcases Nat.lt_or_ge t.block w.heap.size with h | h
  ·exact h
  simp[World.cell?,Array.getElem?_eq_none h] at ht0
 have el:=AS.WW ⟨w.heap.size,0,none⟩ t (((w.alloc (.cells #[.pointer (some t)] 241)).alloc (.cells #[.pointer (some ⟨10,241,none⟩),.pointer (some ⟨w.heap.size,0,none⟩),.int .u64 150] 195)).alloc (.cells #[.pointer (some ⟨10,241,none⟩),.pointer (some ⟨w.heap.size,0,none⟩),.int .u64 150] 195)) (by rw[World.cell?_alloc_lt _ _ ⟨w.heap.size,0,none⟩ (by simp;omega)];simp);have st:=AS.a4a t ⟨w.heap.size+1+1+1,0,none⟩ e old ((((w.alloc (.cells #[.pointer (some t)] 241)).alloc (.cells #[.pointer (some ⟨10,241,none⟩),.pointer (some ⟨w.heap.size,0,none⟩),.int .u64 150] 195)).alloc (.cells #[.pointer (some ⟨10,241,none⟩),.pointer (some ⟨w.heap.size,0,none⟩),.int .u64 150] 195)).alloc (.cells #[.int .i64 e] 32))
  (by rw[World.cell?_alloc_at _ _ _ _ (by simp)];rfl)
  (by rw[World.cell?_alloc_lt _ _ t (by simp;omega),World.cell?_alloc_lt _ _ t (by simp;omega),World.cell?_alloc_lt _ _ t (by simp;omega),World.cell?_alloc_lt _ _ t htl];exact ht0)
  (by rw[World.frozen?_alloc_old _ _ t (by simp;omega),World.frozen?_alloc_old _ _ t (by simp;omega),World.frozen?_alloc_old _ _ t (by simp;omega),World.frozen?_alloc_old _ _ t (Nat.ne_of_lt htl)];exact hf0)
 go_enter Tryz.func167,Tryz.ntmps167
 go_wp2
 refine wp_loop_rounds 1 ?_;rw[rounds_succ];go_wp2
 go_ret;exact⟨rfl,rfl⟩
end
section
open Go.RowKit Go.Extern.Stop Go.Stop Go.Extern
def Et (w:World):Prop:=w.cell? ⟨0,0,none⟩=some (.iface 245 (.agg #[.pointer (some ⟨10,38,none⟩)]))
theorem Et.since {w w':World}(h:Et w)(hs:Since w w'):Et w':=by
 unfold Et at *;rw[hs.cell (p:=⟨0,0,none⟩) (World.block_lt_of_cell? w _ h)];exact h
theorem SA (w:World):Calls Tryz.prog 99 #[.nilIface] w fun e w'=>e=.returned (.int .i64 0)∧w'=w:=by
 go_enter Tryz.func99,Tryz.ntmps99
 go_wp2_with fail
 go_ret;exact⟨rfl,rfl⟩
theorem SB (n:Int)(w:World)(hg:Et w):Calls Tryz.prog 99 #[.iface 32 (.int .i64 n)] w fun e w'=>e=.returned (.int .i64 n)∧Since w w':=by
 have hg2:(w.alloc (.cells #[.int .i64 0] 32)).cell? ⟨0,0,none⟩=some (.iface 245 (.agg #[.pointer (some ⟨10,38,none⟩)])):=Et.since hg ((Since.refl w).alloc _);have ht:(w.alloc (.cells #[.int .i64 0] 32)).cell? ⟨w.heap.size,0,none⟩=some (.int .i64 0):=by simp
 have hf:(w.alloc (.cells #[.int .i64 0] 32)).frozen? ⟨w.heap.size,0,none⟩=false:=by simp
 have HG:=(show Hid _ from hg2)
 clear hg hg2;go_enter Tryz.func99,Tryz.ntmps99
 go_wp2_with fail
 refine(a0b n ⟨w.heap.size,0,none⟩ (.int .i64 0) _ HG.o ht hf).mono ?_;rintro e w' ⟨rfl,hw'⟩;have hc:w'.cell? ⟨w.heap.size,0,none⟩=some (.int .i64 n):=by
  rw[hw'];refine World.cell?_setCell_same (u:=.int .i64 0) _ _ _ ?_;rw[World.cell?_alloc_lt _ _ ⟨w.heap.size,0,none⟩ (by simp;omega),World.cell?_alloc_lt _ _ ⟨w.heap.size,0,none⟩ (by simp;omega),World.cell?_alloc_lt _ _ ⟨w.heap.size,0,none⟩ (by simp;omega),World.cell?_alloc_lt _ _ ⟨w.heap.size,0,none⟩ (by simp)];exact ht
 have hS:Since w w':=by
  rw[hw'];exact(((((((Since.refl w).alloc _).alloc _).alloc _).alloc _).alloc _)).setCell (Nat.le_refl _) _
 clear hw' ht hf HG;go_wp2_with fail
 go_ret;exact⟨rfl,hS⟩
end
section
open Go.RowKit Go.Extern.Stop Go.Stop Go.Extern
theorem SC (v:Value)(w:World):(Instr.typeAssert (.iface 32 v) 38 178 true).run Tryz.prog w=.ok (.tuple #[.nilIface,.bool false]) w:=run_typeAssert_lacksB Tryz.underlying178 (by kernel_rfl) (by kernel_rfl) v 38 w
theorem SE (n:Int)(w:World):(Instr.typeAssert (.iface 32 (.int .i64 n)) 38 174 true).run Tryz.prog w=.ok (.tuple #[.pointer none,.bool false]) w:=by kernel_rfl
theorem OL (w:World):Calls Tryz.prog 41 #[.nilIface] w fun e w'=>e=.returned (.tuple #[.int .i64 0,.int .i64 (-1)])∧w'=w:=by
 go_enter Tryz.func41,Tryz.ntmps41
 go_wp2_with fail
 refine(SA _).mono ?_;rintro e w' ⟨rfl,rfl⟩;go_wp2_with fail
 refine wp_loop_rounds 1 ?_;rw[rounds_succ];go_wp2_with fail
 go_ret2;exact⟨rfl,rfl⟩
theorem OM (n:Int)(w:World)(hg:Et w):Calls Tryz.prog 41 #[.iface 32 (.int .i64 n)] w fun e w'=>e=.returned (.tuple #[.int .i64 n,.int .i64 (-1)])∧Since w w':=by
 go_enter Tryz.func41,Tryz.ntmps41
 go_wp2_with fail
 refine(SB n _ hg).mono ?_;rintro e w' ⟨rfl,hS⟩;clear hg;have a1:=SC;have a2:=SE;go_wp2_with fail
 refine wp_loop_rounds 1 ?_;rw[rounds_succ];go_wp2_with fail
 go_ret2;exact⟨rfl,hS⟩
theorem SF (w:World):Calls Tryz.prog 10 #[.nilIface,.int .i64 0] w fun e w'=>e=.returned (.bool true)∧w'=w:=by
 go_enter Tryz.func10,Tryz.ntmps10
 go_wp2_with fail
 refine(OL _).mono ?_;rintro e w' ⟨rfl,rfl⟩;go_wp2_with fail
 go_ret;exact⟨rfl,rfl⟩
theorem SG (n:Int)(w:World)(hg:Et w):Calls Tryz.prog 10 #[.iface 32 (.int .i64 n),.int .i64 n] w fun e w'=>e=.returned (.bool true)∧Since w w':=by
 go_enter Tryz.func10,Tryz.ntmps10
 go_wp2_with fail
 refine(OM n _ hg).mono ?_;rintro e w' ⟨rfl,hS⟩;go_wp2_with fail
 go_ret;exact⟨by simp,hS⟩
theorem oD (s:ByteArray)(w:World):Calls Tryz.prog 9 #[.string s] w fun e w'=>e=.returned (.bool (decide (60<s.size)))∧w'=w:=by
 go_enter Tryz.func9,Tryz.ntmps9
 go_wp2_with fail
 go_ret;refine⟨?_,rfl⟩;simp;omega
end
end Go.Proofs.YtlgbfkcpdelcbaaGreatDoor
