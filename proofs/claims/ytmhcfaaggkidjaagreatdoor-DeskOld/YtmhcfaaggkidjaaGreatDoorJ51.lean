import Derived.Test.YtmhcfaaggkidjaaGreatDoorJ49
import Derived.Test.YtmhcfaaggkidjaaGreatDoorJ50
set_option linter.unusedSimpArgs false
set_option linter.unusedVariables false
namespace Go.Proofs.YtmhcfaaggkidjaaGreatDoor
set_option maxRecDepth 100000
namespace Fl
open Go.ChangeShapes Go.WideShapes Go.ChangeAt Go.RowKit Go.Deep
theorem Ry:Tryz.prog.cellsOf 180=1:=by kernel_rfl
theorem Rz:Tryz.prog.cellsOf 289=64:=by kernel_rfl
theorem Ki:Tryz.prog.globalNamed "saltern/sum.rounds"=some 5:=by kernel_rfl
theorem Fu:(Tryz.prog.globals[5]?).map (·.type)=some 289:=by kernel_rfl
def Kj:DataW Unit:=Lib.tabData .u32 ((List.range 64).map fun j=>((Sm.kn j).toNat:Int))
theorem Nt:(Rows.laid_saltern_sum_rounds:DataW Unit)=Kj:=by kernel_rfl
theorem Jc {w:World} {l:List (String × DataW Unit)} {ps:List MemPlace} (h:DataW.LaidVars Tryz.prog w l ps) (hx:("saltern/sum.rounds",Kj) ∈ l):Sm.jW w:=by
 obtain⟨g',t,cs,fuel,p,h1,h2,h3,h4⟩:=En.vV l ps h _ hx;obtain rfl:=Option.some.inj (Ki.symm.trans h1);obtain rfl:=Option.some.inj (Fu.symm.trans h2);have ht:Lib.TabIs Tryz.prog w "saltern/sum.rounds" .u32 ((List.range 64).map fun j=>((Sm.kn j).toNat:Int)):=by
  unfold Lib.TabIs;rw[h3,←Lib.cells_of_tab Tryz.underlying289 Tryz.underlying180 Ry Rz h4]
 intro j hj;have h5:=ht.cell Ki j (by simpa using hj);rw[h5];simp[Sm.U,hj,List.getD]
theorem a3T:Tryz.prog.globalNamed "strconv.ErrSyntax"=some 8:=by kernel_rfl
theorem a1j:(Tryz.prog.globals[8]?).map (·.type)=some 46:=by kernel_rfl
theorem a3U:Tryz.prog.globalNamed "strconv.ErrRange"=some 9:=by kernel_rfl
theorem a1k:(Tryz.prog.globals[9]?).map (·.type)=some 46:=by kernel_rfl
end Fl
end Go.Proofs.YtmhcfaaggkidjaaGreatDoor
