import Derived.ProofKit
import Derived.OpenShut
import Derived.Deep.Grids
import Derived.Lay
import Derived.Test.YtmhcfaaggkidjaaGreatDoorJ32
set_option linter.unusedSimpArgs false
set_option linter.unusedVariables false
namespace Go.Proofs.YtmhcfaaggkidjaaGreatDoor
set_option maxRecDepth 100000
namespace En
open Go.ChangeShapes Go.WideShapes Go.ChangeAt Go.RowKit Go.Deep
section
variable {H:Type} {enc:TypeId × Value→H} {W:World} {fuel:Nat} {x:DataW H × List MemPlace}
end
/-! the library's variables -/
theorem vV {P:Program} {w:World}:∀(l:List (String × DataW Unit)) (ps:List MemPlace),DataW.LaidVars P w l ps→∀x,x ∈ l→∃g t cs fuel p,P.globalNamed x.1=some g∧(P.globals[g]?).map (·.type)=some t∧w.var? P x.1=some cs∧DataW.trod (fun _=>()) P w 0 (fun _=>true) false fuel t cs.toList=some (x.2,p)
 | [],_,_,x,hx=>by cases hx
 | (n,d)::r,ps,h,x,hx=>by
  obtain⟨g,t,cs,fuel,p,q,h1,h2,h3,h4,h5,_⟩:=h;rcases List.mem_cons.1 hx with rfl | hx
  ·exact⟨g,t,cs,fuel,p,h1,h2,h3,h4⟩
  exact vV r q h5 x hx
theorem a3Q:Tryz.prog.globalNamed Ue=some 0:=by kernel_rfl
theorem a1i:(Tryz.prog.globals[0]?).map (·.type)=some 231:=by kernel_rfl
theorem a3R:Tryz.prog.cellsOf 183=1:=by kernel_rfl
theorem a3S:Tryz.prog.cellsOf 231=20:=by kernel_rfl
theorem YF:(Rows.laid_internal_strconv_uint64pow10:DataW Unit)=Lib.tabData .u64 Lib.pow10Tab:=by kernel_rfl
theorem AC {w:World} {l:List (String × DataW Unit)} {ps:List MemPlace} (h:DataW.LaidVars Tryz.prog w l ps) {n nm:String} {d:DataW Unit} (hx:(n,DataW.iface nm d) ∈ l) {g:Nat} (hg:Tryz.prog.globalNamed n=some g) (ht:(Tryz.prog.globals[g]?).map (·.type)=some 46):∃v,w.cell? ⟨g,0,none⟩=some v∧PL v:=by
 obtain⟨g',t,cs,fuel,p,h1,h2,h3,h4⟩:=vV l ps h _ hx;obtain rfl:=Option.some.inj (hg.symm.trans h1);obtain rfl:=Option.some.inj (ht.symm.trans h2);obtain⟨_,u,v,hcs,_⟩:=iface_of_trod Tryz.underlying46 h4;refine⟨.iface u v,?_,Or.inr ⟨u,v,rfl⟩⟩;have:=World.var?_cell hg h3 0;rw[this];have:cs[0]?=cs.toList[0]?:=by simp
 rw[this,hcs]
 rfl
theorem VH {w:World} {l:List (String × DataW Unit)} {ps:List MemPlace} (h:DataW.LaidVars Tryz.prog w l ps) (hx:(Ue,Lib.tabData .u64 Lib.pow10Tab) ∈ l):Lib.TabIs Tryz.prog w Ue .u64 Lib.pow10Tab:=by
 obtain⟨g',t,cs,fuel,p,h1,h2,h3,h4⟩:=vV l ps h _ hx;obtain rfl:=Option.some.inj (a3Q.symm.trans h1);obtain rfl:=Option.some.inj (a1i.symm.trans h2);unfold Lib.TabIs;rw[h3,←Lib.cells_of_tab Tryz.underlying231 Tryz.underlying183 a3R a3S h4]
theorem Rx {w:World} (h:w.ShapedOpen Tryz.prog):∃m,w.cell? ⟨1,0,none⟩=some (.int .i64 m):=
 Go.Proofs.cell_of_shapedOpen_int (zero:=#[.int .i64 0]) (t:=3) h (of_decide_eq_true (by kernel_rfl)) (by kernel_rfl) rfl (by kernel_rfl) (by kernel_rfl) Tryz.underlying3
end En
end Go.Proofs.YtmhcfaaggkidjaaGreatDoor
