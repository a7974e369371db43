import Derived.Deep.RegionWith
import Derived.OrdersHeld
import Derived.Test.YtmhcfaaggkidjaaGreatDoorJ02
set_option linter.unusedSimpArgs false
set_option linter.unusedVariables false
namespace Go.Proofs.YtmhcfaaggkidjaaGreatDoor
set_option maxRecDepth 100000
namespace Sm.Sr
open Go
section
variable {P:Program} {ops:Array Oper} {Q:Exit→Act→World→Prop} {md:Region.Mode} {S:World→Prop} {c:Nat}
def pU (P:Program) (md:Region.Mode) (ops:Array Oper) (Q:Exit→Act→World→Prop) (S:World→Prop) (c:Nat):Nat→Array Bool→Act→World→Prop
 | 0,listed,a,w=>Region.ready md ops listed=[]∧Q .normal a w
 | fuel+1,listed,a,w=>
  (Region.ready md ops listed=[]→Q .normal a w)∧
  ∀i ∈ Region.ready md ops listed,wpOp P ops Q i (fun a' w'=>(i=c∧wpAny P md ops Q fuel (listed.setIfInBounds i true) a' w')∨(i≠c∧S w'∧pU P md ops Q S c fuel (listed.setIfInBounds i true) a' w')) a w
theorem pV:∀(fuel:Nat) (listed:Array Bool) (a:Act) (w:World),pU P md ops Q S c fuel listed a w→wpAny P md ops Q fuel listed a w
 | 0,_,_,_,h=>h
 | fuel+1,_,_,_,h=>⟨h.1,fun i hi=>wpOp_mono (fun a' w' h'=>by
   rcases h' with h' | h'
   ·exact h'.2
   exact pV fuel _ a' w' h'.2.2) (h.2 i hi)⟩
theorem AV {i:Nat} {oi oc:Oper} {v:Value} (hi:ops[i]?=some oi) (hsel:∀(j:Nat) (o:Oper) cs b,ops[j]?=some o→o.op≠.select cs b)
  (hQ:∀c a w,Q (.panic c) (a.put oi.dst v) w→Q (.panic c) a w) (hic:i≠c) (hoc:ops[c]?=some oc) (NU:∃e ∈ oc.after,Region.binds md e=true∧e.on=i) :
  ∀(fuel:Nat) (listed:Array Bool) (a:Act) (w:World),
   (∀j oj,ops[j]?=some oj→j≠i→listed.getD j true=false→(∀e ∈ oj.after,Region.binds md e=true→e.on≠i)→oi.apart ops oj=true)→
   i ∈ Region.ready md ops listed→YieldsIf P ops S oi v a→S w→
   pU P md ops Q S c fuel (listed.setIfInBounds i true) (a.put oi.dst v) w→pU P md ops Q S c (fuel+1) listed a w:=by
 intro fuel;induction fuel with
 | zero=>
  intro listed a w _ hr hy hS H;refine⟨fun h=>(by rw[h] at hr;cases hr),fun j hj=>?_⟩;by_cases hji:j=i
  ·subst hji;exact hy.wpOp hi hS (Or.inr ⟨hic,hS,H⟩)
  have:=ready_mono hj hji;rw[H.1] at this;cases this
 | succ fuel ih=>
  intro listed a w hfree hr hy hS H;refine⟨fun h=>(by rw[h] at hr;cases hr),fun j hj=>?_⟩;by_cases hji:j=i
  ·subst hji;exact hy.wpOp hi hS (Or.inr ⟨hic,hS,H⟩)
  have h1:=H.2 j (ready_mono hj hji);obtain⟨hjun,oj,hoj,hall⟩:=mem_ready.1 hj;have hnot:∀e ∈ oj.after,Region.binds md e=true→e.on≠i:=fun e he hb heq=>by
   have h1:=hall e he hb;have h0:=(mem_ready.1 hr).1;rw[heq] at h1;rcases Nat.lt_or_ge i listed.size with h' | h'
   ·simp[h'] at h0 h1;rw[h0] at h1;cases h1
   simp[Array.getElem?_eq_none h'] at h1
  have hjc:j≠c:=fun e=>by
   subst e;rw[hoc] at hoj;injection hoj with hoj
   subst hoj;obtain⟨e,he,hb,heq⟩:=NU;exact hnot e he hb heq
  have h2:=wpOp_putIf hoj (hfree j oj hoj hji hjun hnot) (fun cs b=>hsel i oi cs b hi) (fun cs b=>hsel j oj cs b hoj) hQ hy h1;have hfree':∀k ok,ops[k]?=some ok→k≠i→(listed.setIfInBounds j true).getD k true=false→
    (∀e ∈ ok.after,Region.binds md e=true→e.on≠i)→oi.apart ops ok=true:=fun k ok hk hki hun hno=>by
   refine hfree k ok hk hki ?_ hno;by_cases hjk:j=k
   ·subst hjk;exact hjun
   rw[getD_set_ne true hjk] at hun;exact hun
  refine wpOp_mono (fun a' w' h3=>?_) h2;obtain⟨h3a,h3b⟩:=h3;rcases h3b with h3b | ⟨_,h3s,h3g⟩
  ·exact absurd h3b.1 hjc
  refine Or.inr ⟨hjc,h3s,ih (listed.setIfInBounds j true) a' w' hfree' (ready_mono hr (Ne.symm hji)) h3a h3s ?_⟩;rw[Array.setIfInBounds_comm _ _ hji];exact h3g
theorem dN {i:Nat} {oi oc:Oper} {v:Value} {fuel:Nat} {listed:Array Bool} {a:Act} {w:World} (hi:ops[i]?=some oi) (hoc:ops[c]?=some oc)
  (hs:Region.noSelect ops=true) (hf:Region.free md ops listed i=true) (hr:(Region.ready md ops listed).contains i=true) (hic:(i==c)=false) (NU:oc.after.any (fun e=>Region.binds md e&&e.on==i)=true)
  (hQ:∀c a w,Q (.panic c) (a.put oi.dst v) w→Q (.panic c) a w) (hy:YieldsIf P ops S oi v a) (hS:S w)
  (h:pU P md ops Q S c fuel (listed.setIfInBounds i true) (a.put oi.dst v) w):pU P md ops Q S c (fuel+1) listed a w:=by
 refine AV hi (Region.noSelect_spec hs) hQ (by simpa using hic) hoc ?_ fuel listed a w (Region.free_spec hi hf) (by simpa using hr) hy hS h;obtain⟨k,hk,he⟩:=Array.any_eq_true.1 NU;rw[Bool.and_eq_true,beq_iff_eq] at he;exact⟨_,Array.getElem_mem hk,he.1,he.2⟩
theorem qQ {fuel:Nat} {listed:Array Bool} {a:Act} {w:World} (hr:Region.ready md ops listed=[c]) (h:wpAny P md ops Q (fuel+1) listed a w):pU P md ops Q S c (fuel+1) listed a w:=by
 refine⟨h.1,fun i hi=>?_⟩;have h1:=h.2 i hi;rw[hr] at hi;have hic:i=c:=List.mem_singleton.1 hi;exact wpOp_mono (fun a' w' h'=>Or.inl ⟨hic,h'⟩) h1
end
end Sm.Sr
end Go.Proofs.YtmhcfaaggkidjaaGreatDoor
