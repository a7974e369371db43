import Derived.Test.YtmhcfaaggkidjaaGreatDoorCards
import Derived.Test.YtmhcfaaggkidjaaGreatDoorTie
import Derived.Test.YtmhcfaaggkidjaaGreatDoorJ51
import Derived.Test.YtmhcfaaggkidjaaGreatDoorJ52
set_option linter.unusedSimpArgs false
set_option linter.unusedVariables false
namespace Go.Proofs.YtmhcfaaggkidjaaGreatDoor
open Go.ChangeShapes Go.WideShapes Go.ChangeAt Go.RowKit
theorem own:ownKnob Tryz.prog.godebug=none:=by kernel_rfl
theorem et:Tryz.prog.globalNamed "errors.errorType"=some 4:=by kernel_rfl
theorem rt:(Tryz.prog.cutTypes.find? (·.1== "internal/reflectlite.rtype")).map (·.2)=some 320:=by kernel_rfl
theorem YG:((List.range 381).filter fun t=>Tryz.prog.rowNamed t [101,114,114,111,114])=[46]:=by kernel_rfl
theorem a1l:Tryz.prog.types.size=381:=by kernel_rfl
def gG:List (String × DataW Unit):=[("math/bits.deBruijn32tab",Rows.laid_math_bits_deBruijn32tab),("math/bits.deBruijn64tab",Rows.laid_math_bits_deBruijn64tab),("internal/strconv.uint64pow10",Rows.laid_internal_strconv_uint64pow10),("unicode/utf8.acceptRanges",Rows.laid_unicode_utf8_acceptRanges),("strconv.ErrRange",Rows.laid_strconv_ErrRange),("strconv.ErrSyntax",Rows.laid_strconv_ErrSyntax),("saltern/sum.rounds",Rows.laid_saltern_sum_rounds),("unicode/utf8.first",Rows.laid_unicode_utf8_first)]
theorem yM {W:World} (h:laidMetH Tryz.prog Rows.deskOldRow.laid W):laidMet Tryz.prog gG W∧handlesMet Tryz.prog [("errors.errorType",Rows.laid_errors_errorType)] W:=h
theorem yN {W:World} (h:laidMetH Tryz.prog Rows.deskOldRow.laid W):Et W:=by
 obtain⟨name,u,ty,e1,e2,e3,e4,e5⟩:=(yM h).2 _ (List.mem_singleton.2 rfl);have en:name=[101,114,114,111,114]:=(Option.some.inj e1).symm;subst en;obtain rfl:=Option.some.inj (rt.symm.trans e2);have hm:ty ∈ (List.range 381).filter fun t=>Tryz.prog.rowNamed t [101,114,114,111,114]:=List.mem_filter.2 ⟨List.mem_range.2 (by rw[←a1l];exact e3),e4⟩
 rw[YG] at hm;obtain rfl:=List.mem_singleton.1 hm;have hh:typeHandle Tryz.prog 46=.pointer (some ⟨10,46,none⟩):=by kernel_rfl
 rw[hh] at e5;unfold Et
 simpa using World.var?_cell et e5 0
theorem Jf {W:World} (h:laidMetH Tryz.prog Rows.deskOldRow.laid W) (hs:W.ShapedOpen Tryz.prog):En.Lb W∧Sm.jW W:=by
 obtain⟨ps,hl,_⟩:=(yM h).1;refine⟨⟨En.VH hl ?_,En.Rx hs,En.AC hl (n:= "strconv.ErrSyntax") (nm:= "*errors.errorString") (d:=.ptr (.agg [.lit (.string [105,110,118,97,108,105,100,32,115,121,110,116,97,120])])) ?_ Fl.a3T Fl.a1j,En.AC hl (n:= "strconv.ErrRange") (nm:= "*errors.errorString") (d:=.ptr (.agg [.lit (.string [118,97,108,117,101,32,111,117,116,32,111,102,32,114,97,110,103,101])])) ?_ Fl.a3U Fl.a1k⟩,Fl.Jc hl ?_⟩
 ·rw[←En.YF];exact List.mem_of_getElem? (i:=2) rfl
 ·exact List.mem_of_getElem? (i:=5) rfl
 ·exact List.mem_of_getElem? (i:=4) rfl
 rw[←Fl.Nt];exact List.mem_of_getElem? (i:=6) rfl
theorem Si (os:Os) (args:Array Value):laidMetH Tryz.prog Rows.deskOldRow.laid (((World.laidAll Tryz.prog os gG).setCell ⟨4,0,none⟩ (.iface 320 (.agg #[.pointer (some ⟨10,46,none⟩)]))).forCall (fun _ _=>0) ⟨#[],args,[]⟩).memory:=
 laidMetH_of_parts (laidMet_of_run' 8 (by kernel_rfl) (by kernel_rfl)) (by kernel_rfl)
theorem reads (os:Os) {H:Type} (enc:TypeId × Value→H):∃places,DataW.whole enc Tryz.prog (((World.laidAll Tryz.prog os gG).setCell ⟨4,0,none⟩ (.iface 320 (.agg #[.pointer (some ⟨10,46,none⟩)]))).forCall (fun _ _=>0) ⟨#[],#[.string ⟨#[]⟩,.int .i64 0],[]⟩).memory Tryz.f4.params.toList Rows.deskOldSpec.vars false
  (#[.string ⟨#[]⟩,.int .i64 0]:Array Value).toList 8=some ([.lit (.string []),.lit (.int .i64 0)],[],places):=
 ⟨[],by kernel_rfl⟩
set_option maxRecDepth 100000 in
theorem contract (H:Type) (enc:TypeId × Value→H) (W:World) (base:Nat) (args:Array Value) (ds gs:List (DataW H)) (before:List MemPlace)
  (hval:∀(j:Nat) t v,Tryz.f4.params[j]?=some t→args[j]?=some v→Value.okWide Tryz.prog W .any base t v)
  (hW:DataW.Whole enc Tryz.prog Tryz.f4.params.toList Rows.deskOldSpec.vars false W args.toList ds gs before) (hL:laidMetH Tryz.prog Rows.deskOldRow.laid W) (hsh:W.ShapedOpen Tryz.prog) :
  Calls Tryz.prog 4 args W fun e W'=>∃v,e=.returned v∧Rows.deskOldSpec.post enc Tryz.prog Tryz.f4 false true false false W args v W':=by
 have hW':=hW;obtain⟨p,q,hA0,hV,rfl,hfz,hnd⟩:=hW;have hA:DataW.TrodAll enc Tryz.prog W 0 (fun _=>true) true Tryz.f4.params.toList args.toList ds p:=hA0;rw[Tryz.params4] at hA hval;obtain⟨v0,vs0,d0,ds0,p0,q0,hargs,rfl,rfl,h0,r0⟩:=trodAll_cons hA;obtain⟨v1,vs1,d1,ds1,p1,q1,a3V,rfl,rfl,h1,r1⟩:=trodAll_cons r0;obtain⟨rfl,rfl,rfl⟩:=trodAll_nil r1;obtain rfl:args=#[v0,v1]:=by cases args;simp_all
 obtain⟨rfl,rfl⟩:=trodVars_none hV;obtain⟨s0,rfl,rfl,rfl,z0⟩:=Go.ChangeMaps.open_string Tryz.underlying9 (hval 0 9 v0 rfl rfl) h0;obtain⟨n1,rfl,rfl,rfl,w1⟩:=open_int Tryz.underlying3 (hval 1 3 v1 rfl rfl) h1;have hn1:-9223372036854775808≤n1∧n1≤9223372036854775807:=by
  have e1:IntKind.i64.min=-9223372036854775808:=rfl;have e2:IntKind.i64.max=9223372036854775807:=rfl
  simpa [Lit.wf,e1,e2] using w1
 clear hA0;obtain⟨hlb,htb⟩:=Jf hL hsh;simp only[List.append_nil,List.nil_append] at hW';refine(Dk.WN W ⟨htb,hlb,yN hL⟩ s0 n1 hn1.1 hn1.2).mono fun e W' ⟨he,hg⟩=>?_
 subst he;have bel:Below W.heap.size W W':=hg;refine⟨_,rfl,_,_,_,[],[]++([]++[]),[],hW',?_,?_,rfl,bel.frame _,fun h=>by cases h⟩
 ·exact trodAll_mk1 (shut_bool Tryz.underlying4 _)
 exact trodAll_cons_mk (p:=[]) (Go.ChangeMaps.shut_string Tryz.underlying9 z0) (trodAll_cons_mk (p:=[]) (shut_int Tryz.underlying3 w1) trodAll_mk0)
theorem YH (os:Os):World.variablesB Tryz.checked.prog (((World.laidAll Tryz.prog os gG).setCell ⟨4,0,none⟩ (.iface 320 (.agg #[.pointer (some ⟨10,46,none⟩)]))).forCall (fun x x_1=>0) { blocks:=#[],args:=#[.string ⟨#[]⟩,.int .i64 0] })=true:=by kernel_rfl
theorem YI (os:Os):List.take ((begin Tryz.checked.prog (fun x x_1=>0) default).world.heap.size-Tryz.checked.prog.globals.size) (List.drop Tryz.checked.prog.globals.size (((World.laidAll Tryz.prog os gG).setCell ⟨4,0,none⟩ (.iface 320 (.agg #[.pointer (some ⟨10,46,none⟩)]))).forCall (fun x x_1=>0) { blocks:=#[],args:=#[.string ⟨#[]⟩,.int .i64 0] }).heap.toList)=List.drop Tryz.checked.prog.globals.size (begin Tryz.checked.prog (fun x x_1=>0) default).world.heap.toList:=by kernel_rfl
theorem a3W (os:Os):Input.okWideB Tryz.checked.prog (((World.laidAll Tryz.prog os gG).setCell ⟨4,0,none⟩ (.iface 320 (.agg #[.pointer (some ⟨10,46,none⟩)]))).forCall (fun x x_1=>0) { blocks:=#[],args:=#[.string ⟨#[]⟩,.int .i64 0] }) 4 { blocks:=#[],args:=#[.string ⟨#[]⟩,.int .i64 0] }=true:=by kernel_rfl
theorem a3X (W:World) (p:Addr) (v:Value):(W.setCell p v).os=W.os:=rfl
end Go.Proofs.YtmhcfaaggkidjaaGreatDoor
