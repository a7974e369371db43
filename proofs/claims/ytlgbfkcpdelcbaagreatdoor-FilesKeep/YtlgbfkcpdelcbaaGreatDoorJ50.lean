import Derived.ProofKit
import Derived.OpenShut
import Derived.Deep.Grids
import Derived.Lay
import Derived.Test.YtlgbfkcpdelcbaaGreatDoorJ33
set_option linter.unusedSimpArgs false
set_option linter.unusedVariables false
set_option maxHeartbeats 8000000
set_option maxRecDepth 100000
namespace Go.Proofs.YtlgbfkcpdelcbaaGreatDoor
namespace En
open Go.ChangeShapes Go.WideShapes Go.ChangeAt Go.RowKit Go.Deep
section
variable {H:Type} {enc:TypeId × Value→H} {W:World} {fuel:Nat} {x:DataW H × List MemPlace}
theorem kc9:Tryz.prog.cellsOf 9=1:=by kernel_rfl
theorem kc3:Tryz.prog.cellsOf 3=1:=by kernel_rfl
end
/-! the library's variables -/
theorem wu {P:Program}{w:World}:∀(l:List (String × DataW Unit)) (ps:List MemPlace),DataW.LaidVars P w l ps→∀x,x ∈ l→∃g t cs fuel p,P.globalNamed x.1=some g∧(P.globals[g]?).map (·.type)=some t∧w.var? P x.1=some cs∧DataW.trod (fun _=>()) P w 0 (fun _=>true) false fuel t cs.toList=some (x.2,p)
 | [],_,_,x,hx=>by cases hx
 | (n,d)::r,ps,h,x,hx=>by
  obtain⟨g,t,cs,fuel,p,q,h1,h2,h3,h4,h5,_⟩:=h;rcases List.mem_cons.1 hx with rfl | hx
  ·exact⟨g,t,cs,fuel,p,h1,h2,h3,h4⟩
  exact wu r q h5 x hx
theorem b0m:Tryz.prog.globalNamed Xr=some 6:=by kernel_rfl
theorem a5R:(Tryz.prog.globals[6]?).map (·.type)=some 391:=by kernel_rfl
theorem b0n:Tryz.prog.cellsOf 88=1:=by kernel_rfl
theorem b0o:Tryz.prog.cellsOf 391=20:=by kernel_rfl
theorem a2S:(Rows.laid_internal_strconv_uint64pow10:DataW Unit)=Lib.tabData .u64 Lib.pow10Tab:=by kernel_rfl
theorem Ba {w:World}{l:List (String × DataW Unit)}{ps:List MemPlace}(h:DataW.LaidVars Tryz.prog w l ps){n nm:String}{d:DataW Unit}(hx:(n,DataW.iface nm d) ∈ l){g:Nat}(hg:Tryz.prog.globalNamed n=some g)(ht:(Tryz.prog.globals[g]?).map (·.type)=some 38):∃v,w.cell? ⟨g,0,none⟩=some v∧Tz v:=by
 obtain⟨g',t,cs,fuel,p,h1,h2,h3,h4⟩:=wu l ps h _ hx;obtain rfl:=Option.some.inj (hg.symm.trans h1);obtain rfl:=Option.some.inj (ht.symm.trans h2);obtain⟨_,u,v,hcs,_⟩:=iface_of_trod Tryz.underlying38 h4;refine⟨.iface u v,?_,Or.inr ⟨u,v,rfl⟩⟩;have:=World.var?_cell hg h3 0;rw[this];have:cs[0]?=cs.toList[0]?:=by simp
 rw[this,hcs]
 rfl
theorem Yt {w:World}{l:List (String × DataW Unit)}{ps:List MemPlace}(h:DataW.LaidVars Tryz.prog w l ps)(hx:(Xr,Lib.tabData .u64 Lib.pow10Tab) ∈ l):Lib.TabIs Tryz.prog w Xr .u64 Lib.pow10Tab:=by
 obtain⟨g',t,cs,fuel,p,h1,h2,h3,h4⟩:=wu l ps h _ hx;obtain rfl:=Option.some.inj (b0m.symm.trans h1);obtain rfl:=Option.some.inj (a5R.symm.trans h2);unfold Lib.TabIs;rw[h3,←Lib.cells_of_tab Tryz.underlying391 Tryz.underlying88 b0n b0o h4]
theorem UW {w:World}(h:w.ShapedOpen Tryz.prog):∃m,w.cell? ⟨3,0,none⟩=some (.int .i64 m):=
 Go.Proofs.cell_of_shapedOpen_int (zero:=#[.int .i64 0]) (t:=3) h (of_decide_eq_true (by kernel_rfl)) (by kernel_rfl) rfl (by kernel_rfl) (by kernel_rfl) Tryz.underlying3
end En
end Go.Proofs.YtlgbfkcpdelcbaaGreatDoor
