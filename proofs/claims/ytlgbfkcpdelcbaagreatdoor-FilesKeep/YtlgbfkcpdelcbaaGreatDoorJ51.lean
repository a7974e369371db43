import Derived.Test.YtlgbfkcpdelcbaaGreatDoorJ48
import Derived.Test.YtlgbfkcpdelcbaaGreatDoorJ49
import Derived.Test.YtlgbfkcpdelcbaaGreatDoorJ50
set_option linter.unusedSimpArgs false
set_option linter.unusedVariables false
set_option maxHeartbeats 8000000
set_option maxRecDepth 100000
namespace Go.Proofs.YtlgbfkcpdelcbaaGreatDoor
section
namespace Vl
open Go.ChangeShapes Go.WideShapes Go.ChangeAt Go.RowKit Go.Deep
section
variable {H:Type} {enc:TypeId × Value→H} {W:World} {fuel:Nat} {x:DataW H × List MemPlace}
theorem kc9:Tryz.prog.cellsOf 9=1:=by kernel_rfl
theorem kc3:Tryz.prog.cellsOf 3=1:=by kernel_rfl
end
end Vl
end
section
namespace Fl
open Go.ChangeShapes Go.WideShapes Go.ChangeAt Go.RowKit Go.Deep
section
variable {H:Type} {enc:TypeId × Value→H} {W:World} {fuel:Nat} {x:DataW H × List MemPlace}
end
theorem UX:Tryz.prog.cellsOf 81=1:=by kernel_rfl
theorem UY:Tryz.prog.cellsOf 83=64:=by kernel_rfl
theorem Nu:Tryz.prog.globalNamed "saltern/sum.rounds"=some 7:=by kernel_rfl
theorem GX:(Tryz.prog.globals[7]?).map (·.type)=some 83:=by kernel_rfl
def Nv:DataW Unit:=Lib.tabData .u32 ((List.range 64).map fun j=>((Sm.kn j).toNat:Int))
theorem Qp:(Rows.laid_saltern_sum_rounds:DataW Unit)=Nv:=by kernel_rfl
theorem Mc {w:World}{l:List (String × DataW Unit)}{ps:List MemPlace}(h:DataW.LaidVars Tryz.prog w l ps)(hx:("saltern/sum.rounds",Nv) ∈ l):Sm.kM w:=by
 obtain⟨g',t,cs,fuel,p,h1,h2,h3,h4⟩:=En.wu l ps h _ hx;obtain rfl:=Option.some.inj (Nu.symm.trans h1);obtain rfl:=Option.some.inj (GX.symm.trans h2);have ht:Lib.TabIs Tryz.prog w "saltern/sum.rounds" .u32 ((List.range 64).map fun j=>((Sm.kn j).toNat:Int)):=by
  unfold Lib.TabIs;rw[h3,←Lib.cells_of_tab Tryz.underlying83 Tryz.underlying81 UX UY h4]
 intro j hj;have h5:=ht.cell Nu j (by simpa using hj);rw[h5];simp[Sm.U,hj,List.getD]
theorem b0p:Tryz.prog.globalNamed "strconv.ErrSyntax"=some 1:=by kernel_rfl
theorem a5S:(Tryz.prog.globals[1]?).map (·.type)=some 38:=by kernel_rfl
theorem b0q:Tryz.prog.globalNamed "strconv.ErrRange"=some 2:=by kernel_rfl
theorem a5T:(Tryz.prog.globals[2]?).map (·.type)=some 38:=by kernel_rfl
end Fl
end
section
namespace Fl
open Go.ChangeShapes Go.WideShapes Go.ChangeAt Go.RowKit Go.Deep
section
variable {H:Type} {enc:TypeId × Value→H} {W:World} {fuel:Nat} {x:DataW H × List MemPlace}
theorem a5U:Tryz.prog.cellsOf 43=4:=by kernel_rfl
structure LD where
 wh:Int
 nn:Int
 z:ByteArray
 t:ByteArray
theorem UZ {cs:List Value}(h:DataW.trod enc Tryz.prog W 0 (fun _=>true) true fuel 43 cs=some x) :
  ∃o:LD,cs=[.int .i64 o.wh,.int .i64 o.nn,.string o.z,.string o.t]∧o.nn≤9223372036854775807:=by
 obtain⟨xs,m,_,_,hlen,hxl,hf⟩:=DataW.trod_struct Tryz.underlying43 h;rw[a5U] at hlen
 match cs,hlen with
 | [v0,v1,v2,v3],_=>
  have g0:DataW.trod enc Tryz.prog W 0 (fun _=>true) true m 3 ((([v0,v1,v2,v3]:List Value).drop 0).take (Tryz.prog.cellsOf 3))=xs[0]?:=hf 0 _ rfl;have g1:DataW.trod enc Tryz.prog W 0 (fun _=>true) true m 3 ((([v0,v1,v2,v3]:List Value).drop 1).take (Tryz.prog.cellsOf 3))=xs[1]?:=hf 1 _ rfl;have g2:DataW.trod enc Tryz.prog W 0 (fun _=>true) true m 9 ((([v0,v1,v2,v3]:List Value).drop 2).take (Tryz.prog.cellsOf 9))=xs[2]?:=hf 2 _ rfl;have g3:DataW.trod enc Tryz.prog W 0 (fun _=>true) true m 9 ((([v0,v1,v2,v3]:List Value).drop 3).take (Tryz.prog.cellsOf 9))=xs[3]?:=hf 3 _ rfl;rw[En.kc3] at g0 g1;rw[En.kc9] at g2 g3
  match xs,hxl with
  | [y0,y1,y2,y3],_=>
   obtain⟨n0,e0,_,_⟩:=DataW.trod_int Tryz.underlying3 g0;obtain⟨n1,e1,_,hw⟩:=DataW.trod_int Tryz.underlying3 g1;obtain⟨s2,e2,_,_⟩:=DataW.trod_string Tryz.underlying9 g2;obtain⟨s3,e3,_,_⟩:=DataW.trod_string Tryz.underlying9 g3;have f0:v0=.int .i64 n0:=by simpa using e0
   have f1:v1=.int .i64 n1:=by simpa using e1
   have f2:v2=.string s2:=by simpa using e2
   have f3:v3=.string s3:=by simpa using e3
   clear e0 e1 e2 e3;subst f0 f1 f2 f3;have e1:IntKind.i64.min=-9223372036854775808:=rfl;have e2:IntKind.i64.max=9223372036854775807:=rfl;have hw2:-9223372036854775808≤n1∧n1≤9223372036854775807:=by simpa [Lit.wf,e1,e2] using hw
   exact⟨⟨n0,n1,s2,s3⟩,rfl,hw2.2⟩
theorem Qq {a0:Option Addr}{len cap:Nat}(h:DataW.trod enc Tryz.prog W 0 (fun _=>true) true fuel 22 [.slice a0 len cap]=some x) :
  ∃o:Nat→LD,Ma W a0 len (fun j=>(o j).wh) (fun j=>(o j).nn) (fun j=>(o j).z) (fun j=>(o j).t):=by
 have b5g:Inhabited LD:=⟨⟨0,0,⟨#[]⟩,⟨#[]⟩⟩⟩
 rcases open_slice Tryz.underlying22 h with⟨hcs,hx⟩ | ⟨a,len',cap',mm,n,D,Pl,hcs,_,hl,hm,hmm,hx,hel⟩
 ·simp at hcs;obtain⟨rfl,rfl,rfl⟩:=hcs;exact⟨fun _=>⟨0,0,⟨#[]⟩,⟨#[]⟩⟩,fun h=>by omega,fun j hj=>by omega⟩
 simp at hcs;obtain⟨rfl,rfl,rfl⟩:=hcs;simp only[if_true] at hmm;subst hmm;rw[a5U] at hel;obtain⟨o,ho⟩:=choose_lt (α:=LD) (n:=mm) (p:=fun i o=>W.cells? 0 (a.add (i*4)) 4=some [.int .i64 o.wh,.int .i64 o.nn,.string o.z,.string o.t]∧o.nn≤9223372036854775807) (fun i hi=>by
  obtain⟨cs',h1,h2⟩:=hel i hi;obtain⟨o,rfl,r⟩:=UZ h2;exact⟨o,h1,r⟩)
 refine⟨o,fun hpos=>?_,fun j hj=>(ho j (by omega)).2⟩;obtain⟨b,off,spot⟩:=a;have hc0:=(World.cells?_some (ho 0 (by omega)).1).2.2 0 (by omega);have hspot:spot=none:=by simpa [Addr.add] using World.cell?_spot hc0
 subst hspot;refine⟨b,off,rfl,fun j hj i v hi=>?_⟩;have hi5:i<4:=by
  have:=(List.getElem?_eq_some_iff.1 hi).1
  simpa using this
 have hc:=(World.cells?_some (ho j (by omega)).1).2.2 i hi5;rw[Addr.add_mid,Addr.add_mid] at hc;rw[hc];exact hi
end
end Fl
end
end Go.Proofs.YtlgbfkcpdelcbaaGreatDoor
