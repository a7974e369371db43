import Derived.Deep.RegionHeld3
import Derived.Test.YtmhcfaaggkidjaaGreatDoorJ03
set_option linter.unusedSimpArgs false
set_option linter.unusedVariables false
namespace Go.Proofs.YtmhcfaaggkidjaaGreatDoor
set_option maxRecDepth 100000
namespace Tw
open Go.RowKit
theorem takeD {P:Program} {ops:Array Oper} {Q:Exit→Act→World→Prop} {md:Region.Mode} {S:World→Prop} {i d:Nat} {oi:Oper} {v:Value} {fuel:Nat} {listed:Array Bool} {tmps:Array Value} {dfs:List Deferred} {w:World} (hi:ops[i]?=some oi) (hd:oi.dst=some d)
  (hs:Region.noSelect ops=true) (hf:Region.free md ops listed i=true) (hr:(Region.ready md ops listed).contains i=true)
  (hQ:∀c a w,Q (.panic c) (a.put oi.dst v) w→Q (.panic c) a w) (hy:YieldsIf P ops S oi v ⟨tmps,dfs⟩) (hS:S w)
  (h:wpAnyH P md ops Q S fuel (listed.setIfInBounds i true) ⟨tmps.setIfInBounds d v,dfs⟩ w):wpAnyH P md ops Q S (fuel+1) listed ⟨tmps,dfs⟩ w:=
 wpAnyH_take hi hs hf hr hQ hy hS (by rw[hd];exact h)
theorem tk {P:Program} {ops:Array Oper} {Q:Exit→Act→World→Prop} {md:Region.Mode} {S:World→Prop} (i d:Nat) {oi:Oper} {v:Value} {fuel:Nat} {listed:Array Bool} {tmps tmps':Array Value} {dfs:List Deferred} {w:World} (hS:S w)
  (h:wpAnyH P md ops Q S fuel (listed.setIfInBounds i true) ⟨tmps',dfs⟩ w) (hi:ops[i]?=some oi:=by rfl) (hd:oi.dst=some d:=by rfl)
  (hs:Region.noSelect ops=true:=by kernel_rfl) (hf:Region.free md ops listed i=true:=by kernel_rfl) (hr:(Region.ready md ops listed).contains i=true:=by kernel_rfl)
  (hw:Region.wanted oi (yielded ops tmps)=true:=by first | rfl | exact Tw.gB rfl rfl rfl rfl)
  (hy:∀w,S w→(execOp (Act.eval ⟨tmps,dfs⟩) oi).run P w=.ok (.value v) w:=by intro w hSw;(first | obtain⟨s0,s1,s2,s3⟩:=hSw | obtain⟨s0,s1,s2⟩:=hSw | obtain⟨s0,s1⟩:=hSw | have s0:=hSw);go_simp;try with_reducible rfl)
  (hQ:∀c a w,Q (.panic c) (a.put oi.dst v) w→Q (.panic c) a w:=by first | exact fun _ _ _ h=>h | exact fun _ _ _ h=>HQP.out _ _ _ _ _ h)
  (ht:tmps.setIfInBounds d v=tmps':=by simp only[List.setIfInBounds_toArray,List.set_cons_zero,List.set_cons_succ];try rfl):wpAnyH P md ops Q S (fuel+1) listed ⟨tmps,dfs⟩ w:=
 wpAnyH_take hi hs hf hr hQ (Or.inl ⟨hw,hy⟩) hS (by rw[hd];subst ht;exact h)
theorem gB {ops:Array Oper} {o oj:Oper} {j d:Nat} {want:Bool} {tmps:Array Value} (hg:o.guard=some (j,want)) (hj:ops[j]?=some oj) (hd:oj.dst=some d) (ht:tmps[d]?=some (.bool want)):Region.wanted o (yielded ops tmps)=true:=by
 unfold Region.wanted yielded;rw[hg];simp only[hj,Option.bind_some,hd,ht];cases want<;>rfl
theorem eQ {ops:Array Oper} {o oj:Oper} {j d:Nat} {want x:Bool} {tmps:Array Value} (hg:o.guard=some (j,want)) (hj:ops[j]?=some oj) (hd:oj.dst=some d) (ht:tmps[d]?=some (.bool x)) (hne:x≠want):Region.wanted o (yielded ops tmps)=false:=by
 unfold Region.wanted yielded;rw[hg];simp only[hj,Option.bind_some,hd,ht];cases want<;>cases x<;>first | rfl | exact absurd rfl hne
theorem Tf (T:Tb) (j:Nat) (hj:j<73):(aa 73 (af T)).toArray[j]?=some (af T j):=by
 rw[List.getElem?_toArray];exact aU _ _ _ hj
theorem fK (T:Tb) (w:World):ak (w.alloc (.cells (aa 73 (af T)).toArray 163)) w.heap.size 73 (af T):=ak.new w _ _ _ _ (Tf T) _ rfl
theorem jg {T:Tb} {w:World} {b:Nat} (h:ak w b 73 (af T)):w.rangeAt b 1 (aa 72 (bO T)):=by
 have:=h.range 1 72 (by omega);rw[show (fun j=>af T (1+j))=bO T from funext (FD T)] at this;exact this
theorem dD {T:Tb} {w:World} {b:Nat} (h:ak w b 73 (af T)):w.rangeAt b 0 (aa 73 (af T)):=by
 have:=h.range 0 73 (by omega)
 simpa only[Nat.zero_add] using this
theorem kN (T:Tb) (k:Nat) (hk:k<24) (w:World):(Instr.index 161 (.agg (aa 72 (bO T)).toArray) (.int .i64 (k:Int))).run Tryz.prog w=.ok (.agg #[.int .i64 (T.aB k),.int .i64 (T.off k),.string (T.tag k)]) w:=by
 have ha:(isAgg 160).run Tryz.prog w=.ok true w:=Tryz.isAgg160 w;have hz:(Go.sizeOf 160).run Tryz.prog w=.ok 3 w:=Tryz.sizeOf160 w;have h2:(0:Int)≤k∧(k:Int)<24:=by omega
 have hx:(aa 72 (bO T)).toArray.extract (k*3) (k*3+3)=#[.int .i64 (T.aB k),.int .i64 (T.off k),.string (T.tag k)]:=by
  apply Array.ext_getElem?
  intro i;rw[Array.getElem?_extract];have hsz:(aa 72 (bO T)).toArray.size=72:=by simp[aa]
  by_cases hi:i<3
  ·rw[if_pos (by omega),List.getElem?_toArray,aU _ _ _ (by omega),NF T k i hi]
   match i,hi with
   | 0,_=>rfl
   | 1,_=>rfl
   | 2,_=>rfl
  rw[if_neg (by omega),Array.getElem?_eq_none (by simp;omega)]
 have hp:(part 160 (aa 72 (bO T)).toArray (k*3)).run Tryz.prog w=.ok (.agg #[.int .i64 (T.aB k),.int .i64 (T.off k),.string (T.tag k)]) w:=by
  simp only[part,Sem.run_bind,ha,Result.andThen_ok,if_true,hz,Sem.run_pure,hx]
 generalize (aa 72 (bO T)).toArray=cs at *;simp[Instr.index,go_sem,run_underlying Tryz.underlying161,hz,hk,Result.andThen];exact hx
theorem pW (T:Tb):(aa 73 (af T)).length=73:=ag _ _
end Tw
end Go.Proofs.YtmhcfaaggkidjaaGreatDoor
