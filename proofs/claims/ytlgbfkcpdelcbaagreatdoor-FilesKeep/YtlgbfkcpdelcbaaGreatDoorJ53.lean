import Derived.Test.YtlgbfkcpdelcbaaGreatDoorCards
import Derived.Test.YtlgbfkcpdelcbaaGreatDoorTie
import Derived.Test.YtlgbfkcpdelcbaaGreatDoorJ51
import Derived.Test.YtlgbfkcpdelcbaaGreatDoorJ52
set_option linter.unusedSimpArgs false
set_option linter.unusedVariables false
set_option maxHeartbeats 8000000
set_option maxRecDepth 100000
namespace Go.Proofs.YtlgbfkcpdelcbaaGreatDoor
open Go.ChangeShapes Go.WideShapes Go.ChangeAt Go.RowKit
theorem own:ownKnob Tryz.prog.godebug=none:=by kernel_rfl
theorem laidOut:laidOutB Tryz.prog=true:=by kernel_rfl
theorem et:Tryz.prog.globalNamed "errors.errorType"=some 0:=by kernel_rfl
theorem rt:(Tryz.prog.cutTypes.find? (·.1== "internal/reflectlite.rtype")).map (·.2)=some 245:=by kernel_rfl
theorem a2T:((List.range 424).filter fun t=>Tryz.prog.rowNamed t [101,114,114,111,114])=[38]:=by kernel_rfl
theorem a5V:Tryz.prog.types.size=424:=by kernel_rfl
def jy:List (String × DataW Unit):=[("math/bits.deBruijn32tab",Rows.laid_math_bits_deBruijn32tab),("math/bits.deBruijn64tab",Rows.laid_math_bits_deBruijn64tab),("internal/strconv.uint64pow10",Rows.laid_internal_strconv_uint64pow10),("unicode/utf8.acceptRanges",Rows.laid_unicode_utf8_acceptRanges),("strconv.ErrRange",Rows.laid_strconv_ErrRange),("strconv.ErrSyntax",Rows.laid_strconv_ErrSyntax),("saltern/sum.rounds",Rows.laid_saltern_sum_rounds),("unicode/utf8.first",Rows.laid_unicode_utf8_first)]
theorem yX {W:World}(h:laidMetH Tryz.prog Rows.filesKeepRow.laid W):laidMet Tryz.prog jy W∧handlesMet Tryz.prog [("errors.errorType",Rows.laid_errors_errorType)] W:=h
theorem yY {W:World}(h:laidMetH Tryz.prog Rows.filesKeepRow.laid W):Et W:=by
 obtain⟨name,u,ty,e1,e2,e3,e4,e5⟩:=(yX h).2 _ (List.mem_singleton.2 rfl);have en:name=[101,114,114,111,114]:=(Option.some.inj e1).symm;subst en;obtain rfl:=Option.some.inj (rt.symm.trans e2);have hm:ty ∈ (List.range 424).filter fun t=>Tryz.prog.rowNamed t [101,114,114,111,114]:=List.mem_filter.2 ⟨List.mem_range.2 (by rw[←a5V];exact e3),e4⟩
 rw[a2T] at hm;obtain rfl:=List.mem_singleton.1 hm;have hh:typeHandle Tryz.prog 38=.pointer (some ⟨10,38,none⟩):=by kernel_rfl
 rw[hh] at e5;unfold Et
 simpa using World.var?_cell et e5 0
theorem Mf {W:World}(h:laidMetH Tryz.prog Rows.filesKeepRow.laid W)(hs:W.ShapedOpen Tryz.prog):En.Lb W∧Sm.kM W:=by
 obtain⟨ps,hl,_⟩:=(yX h).1;refine⟨⟨En.Yt hl ?_,En.UW hs,En.Ba hl (n:= "strconv.ErrSyntax") (nm:= "*errors.errorString") (d:=.ptr (.agg [.lit (.string [105,110,118,97,108,105,100,32,115,121,110,116,97,120])])) ?_ Fl.b0p Fl.a5S,En.Ba hl (n:= "strconv.ErrRange") (nm:= "*errors.errorString") (d:=.ptr (.agg [.lit (.string [118,97,108,117,101,32,111,117,116,32,111,102,32,114,97,110,103,101])])) ?_ Fl.b0q Fl.a5T⟩,Fl.Mc hl ?_⟩
 ·rw[←En.a2S];exact List.mem_of_getElem? (i:=2) rfl
 ·exact List.mem_of_getElem? (i:=5) rfl
 ·exact List.mem_of_getElem? (i:=4) rfl
 rw[←Fl.Qp];exact List.mem_of_getElem? (i:=6) rfl
theorem Vz (os:Os)(args:Array Value):laidMetH Tryz.prog Rows.filesKeepRow.laid (((World.laidAll Tryz.prog os jy).setCell ⟨0,0,none⟩ (.iface 245 (.agg #[.pointer (some ⟨10,38,none⟩)]))).forCall (fun _ _=>0) ⟨#[],args,[]⟩).memory:=
 laidMetH_of_parts (laidMet_of_run' 8 (by kernel_rfl) (by kernel_rfl)) (by kernel_rfl)
theorem reads (os:Os){H:Type}(enc:TypeId × Value→H):∃places,DataW.whole enc Tryz.prog (((World.laidAll Tryz.prog os jy).setCell ⟨0,0,none⟩ (.iface 245 (.agg #[.pointer (some ⟨10,38,none⟩)]))).forCall (fun _ _=>0) ⟨#[],#[.slice none 0 0],[]⟩).memory Tryz.f3.params.toList Rows.filesKeepSpec.vars false
  (#[.slice none 0 0]:Array Value).toList 8=some ([.nil],[],places):=
 ⟨[],by kernel_rfl⟩
theorem contract (H:Type)(enc:TypeId × Value→H)(W:World)(base:Nat)(args:Array Value)(ds gs:List (DataW H))(before:List MemPlace)(hval:∀(j:Nat) t v,Tryz.f3.params[j]?=some t→args[j]?=some v→Value.okWide Tryz.prog W .any base t v)(hW:DataW.Whole enc Tryz.prog Tryz.f3.params.toList Rows.filesKeepSpec.vars false W args.toList ds gs before)(hL:laidMetH Tryz.prog Rows.filesKeepRow.laid W)(hsh:W.ShapedOpen Tryz.prog) :
  Calls Tryz.prog 3 args W fun e W'=>∃v,e=.returned v∧Rows.filesKeepSpec.post enc Tryz.prog Tryz.f3 false true false false W args v W':=by
 have hW':=hW;obtain⟨p,q,VE,hV,rfl,hfz,hnd⟩:=hW;have hA:DataW.TrodAll enc Tryz.prog W 0 (fun _=>true) true Tryz.f3.params.toList args.toList ds p:=VE;rw[Tryz.params3] at hA hval;obtain⟨v0,vs0,d0,ds0,p0,q0,hargs,rfl,rfl,h0,r0⟩:=trodAll_cons hA;obtain⟨rfl,rfl,rfl⟩:=trodAll_nil r0;obtain rfl:args=#[v0]:=by cases args;simp_all
 obtain⟨rfl,rfl⟩:=trodVars_none hV;obtain⟨a0,m0,c0,rfl⟩:=okWide_slice Tryz.underlying22 (hval 0 22 v0 rfl rfl);obtain⟨o,ho⟩:∃o:Nat→Fl.LD,Fl.Ma W a0 m0 (fun j=>(o j).wh) (fun j=>(o j).nn) (fun j=>(o j).z) (fun j=>(o j).t):=by
  obtain⟨fuel,hf⟩:=h0;exact Fl.Qq hf
 clear VE;obtain⟨hlb,htb⟩:=Mf hL hsh;simp only[List.append_nil,List.nil_append] at hW';have hlt:∀x ∈ p0,x.block<W.heap.size:=fun x hx=>by simpa using hW'.lt x (by simpa using hx)
 refine(Fl.Yp W a0 m0 c0 _ _ _ _ (yY hL) htb hlb Sm.RD ho).mono fun e W' ⟨he,hg⟩=>?_
 subst he;have bel:Below W.heap.size W W':=hg;refine⟨_,rfl,_,_,_,[],p0++[],[],hW',?_,?_,rfl,bel.frame _,fun h=>by cases h⟩
 ·exact trodAll_mk1 (shut_bool Tryz.underlying4 _)
 exact trodAll_cons_mk (Below.trod laidOut (by kernel_rfl) (of_decide_eq_true (by kernel_rfl)) h0 bel hlt) trodAll_mk0
theorem a2U (os:Os):World.variablesB Tryz.checked.prog (((World.laidAll Tryz.prog os jy).setCell ⟨0,0,none⟩ (.iface 245 (.agg #[.pointer (some ⟨10,38,none⟩)]))).forCall (fun x x_1=>0) { blocks:=#[],args:=#[.slice none 0 0] })=true:=by kernel_rfl
theorem a2V (os:Os):List.take ((begin Tryz.checked.prog (fun x x_1=>0) default).world.heap.size-Tryz.checked.prog.globals.size) (List.drop Tryz.checked.prog.globals.size (((World.laidAll Tryz.prog os jy).setCell ⟨0,0,none⟩ (.iface 245 (.agg #[.pointer (some ⟨10,38,none⟩)]))).forCall (fun x x_1=>0) { blocks:=#[],args:=#[.slice none 0 0] }).heap.toList)=List.drop Tryz.checked.prog.globals.size (begin Tryz.checked.prog (fun x x_1=>0) default).world.heap.toList:=by kernel_rfl
theorem b0r (os:Os):Input.okWideB Tryz.checked.prog (((World.laidAll Tryz.prog os jy).setCell ⟨0,0,none⟩ (.iface 245 (.agg #[.pointer (some ⟨10,38,none⟩)]))).forCall (fun x x_1=>0) { blocks:=#[],args:=#[.slice none 0 0] }) 3 { blocks:=#[],args:=#[.slice none 0 0] }=true:=by kernel_rfl
theorem b0s (W:World)(p:Addr)(v:Value):(W.setCell p v).os=W.os:=rfl
end Go.Proofs.YtlgbfkcpdelcbaaGreatDoor
