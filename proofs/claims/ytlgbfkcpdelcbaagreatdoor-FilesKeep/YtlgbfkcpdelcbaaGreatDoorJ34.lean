import Derived.RangeFuncNested
import Derived.RangeFuncBound
import Derived.Shelf.RegionOpen
import Derived.OwnWalkIn
import Derived.LoopNIn
import Derived.LoopIn
import Derived.Test.YtlgbfkcpdelcbaaGreatDoorJ33
set_option linter.unusedSimpArgs false
set_option linter.unusedVariables false
set_option maxHeartbeats 8000000
set_option maxRecDepth 100000
namespace Go.Proofs.YtlgbfkcpdelcbaaGreatDoor
section
namespace En
open Go.RowKit Go.Shelf
attribute [local go_sem] Oper.semAt_some
abbrev Ln:={ t:ByteArray // t.size≤1000 }
def iX (l:List Ln):List (List UInt8):=l.map (fun x=>x.1.data.toList)
theorem uT (a b:List Ln):iX (a++b)=iX a++iX b:=by simp[iX]
def TL (x:Ln):Array Value:=#[.string x.1]
def a0u:Value→Nat
 | .string b=>b.size
 | _=>0
theorem a0v (s:List UInt8):(Lib.cut s [10]).1.length≤s.length:=by
 unfold Lib.cut;split
 ·simp;omega
 exact Nat.le_refl _
theorem JC (s:List UInt8)(h:s≠[]):dE s=(Lib.cut s [10]).1::dE (Lib.cut s [10]).2.1:=by
 rw[a0g,dif_neg h]
theorem Xu (s:ByteArray)(hs:s.size≤100000)(w:World)(m:Int)(hm:w.cell? ⟨3,0,none⟩=some (.int .i64 m)) :
  Calls Tryz.prog 163 #[.string s,.string ⟨#[10]⟩] w fun e w'=>e=.returned (.tuple #[.string ⟨(Lib.cut s.data.toList [10]).1.toArray⟩,.string ⟨(Lib.cut s.data.toList [10]).2.1.toArray⟩,.bool (Lib.cut s.data.toList [10]).2.2])∧∃n,w'=w.drewN n:=by
 refine(Tryz.strings_Cut s ⟨#[10]⟩ m w (by omega) hm).mono ?_;rintro e w' ⟨rfl,n,rfl⟩;exact⟨rfl,n,rfl⟩
theorem zw (w:World)(k:Nat):w.grownBy (w.drewN k) none:=
 have h:=(Since.refl w).drewN k
 ⟨h.os,h.tape,h.output,h.size,fun j hj _=>h.block j hj⟩
theorem Pt (n:Nat)(hn:1≤n)(l Bn n₀:Nat)(s:ByteArray)(hs:s.size≤1000)(J Jx:List Ln→World→Prop)(hJ:∀pre W k,J pre W→J pre (W.drewN k))(m:Int)(hY:∀pre x W,J pre W→pre.length<(dE s.data.toList).length→YieldAt Fence.wide (n-1) Tryz.prog l (TL x) W fun e W'=>
   (e=.returned (.bool true)∧J (pre++[x]) W'∧Below n₀ W W')∨(e=.returned (.bool false)∧Jx (pre++[x]) W'))(W:World)(hBn:W.cell? ⟨Bn,0,none⟩=some (.string s))(hm:W.cell? ⟨3,0,none⟩=some (.int .i64 m))(hg0:3<n₀)(h0:J [] W) :
  CallsIn Fence.wide n Tryz.prog 162 #[.func (.yield l) #[] #[],.pointer (some ⟨Bn,0,none⟩)] W fun e W'=>(∃v,e=.returned v)∧
   ((∃ys,iX ys=dE s.data.toList∧J ys W')∨(∃pre,iX pre <+: dE s.data.toList∧Jx pre W')):=by
 refine callsIn_of_wp Tryz.func162 rfl trivial ?_ rfl;simp only[Tryz.ntmps162,List.size_toArray,List.length_cons,List.length_nil,Nat.reduceAdd,Nat.reduceSub,Array.replicate_succ,Array.replicate_zero,List.push_toArray,List.append_toArray,List.nil_append,List.cons_append]
 gi_wp2
 have HY:Hid (∀pre x W,J pre W→pre.length<(dE s.data.toList).length→YieldAt Fence.wide (n-1) Tryz.prog l (TL x) W fun e W'=>
   (e=.returned (.bool true)∧J (pre++[x]) W'∧Below n₀ W W')∨(e=.returned (.bool false)∧Jx (pre++[x]) W')):=hY
 have HJ:=hid hJ;clear hY hJ
 gi_loopw [3,4,5,6] (fun p _ _ _ wr=>∃(pre:List Ln) (r:List UInt8),p=.string ⟨r.toArray⟩∧r.length≤1000∧iX pre++dE r=dE s.data.toList∧wr.cell? ⟨3,0,none⟩=some (.int .i64 m)∧J pre wr)
  (fun p _ _ _ wr=>a0u p)
 case atStart=>exact⟨[],s.data.toList,rfl,hs,rfl,hm,h0⟩
 obtain⟨pre,r,rfl,hr,hl,hmx,hJ⟩:=hrel;have HL:=hid hl;clear hl;have hdl:(⟨r.toArray⟩:ByteArray).toList=r:=by rw[Lib.toList_data]
 by_cases hne:r=[]
 ·have hz:(⟨r.toArray⟩:ByteArray).toList=[]:=by rw[hdl,hne]
  have hl2:=HL.o;rw[hne,a0g,dif_pos rfl,List.append_nil] at hl2;have HL2:=hid hl2;clear hl2 hne HL hdl
  gi_wp2
  go_end0
  exact⟨⟨_,rfl⟩,.inl ⟨pre,HL2.o,hJ⟩⟩
 have hz2:r.isEmpty=false:=by
  cases r with
  | nil=>exact absurd rfl hne
  | cons a b=>rfl
 have hc1:=a0v r;have hc2:=Tf r hne;have hl2:=HL.o;rw[JC r hne] at hl2;have hdr:(⟨r.toArray⟩:ByteArray).data.toList=r:=by simp
 have hsz:(⟨r.toArray⟩:ByteArray).size=r.length:=List.size_toArray;have hcut:=Xu ⟨r.toArray⟩ (by omega) wr m hmx;rw[hdr] at hcut;have a7G:=hid hcut;have IZ:=hid hsz;clear hcut hdr hdl hsz;generalize (Lib.cut r [10]).1=t at *;generalize (Lib.cut r [10]).2.1=b at *;generalize (Lib.cut r [10]).2.2=fd at *;have HL2:=hid hl2;clear hl2 HL;have htz:(⟨t.toArray⟩:ByteArray).size≤1000:=by rw[show (⟨t.toArray⟩:ByteArray).size=t.length from List.size_toArray];omega
 have HLX:Hid (iX (pre++[⟨⟨t.toArray⟩,htz⟩])=iX pre++[t]):=by
  show iX (pre++[⟨⟨t.toArray⟩,htz⟩])=_
  rw[uT];simp[iX]
 have He:Hid (pre.length<(dE s.data.toList).length):=by
  show pre.length<(dE s.data.toList).length
  rw[←HL2.o];simp[iX]
 generalize hx:(⟨⟨t.toArray⟩,htz⟩:Ln)=x at *;have hx1:x.1=⟨t.toArray⟩:=by rw[←hx]
 have rU:=hid hx1;clear hx hx1
 gi_wp2
 refine⟨trivial,?_⟩;refine(callsIn_wide.2 a7G.o).mono ?_;rintro e w1 ⟨rfl,kd,hw1⟩;have hJ1:J pre w1:=by rw[hw1];exact HJ.o _ _ _ hJ
 have a7H:w1.cell? ⟨3,0,none⟩=some (.int .i64 m):=by rw[hw1,((Since.refl wr).drewN kd).cell (p:=⟨3,0,none⟩) (World.block_lt_of_cell? _ _ hmx)];exact hmx
 clear hw1 hmx hJ;obtain⟨fn,tmps,assign,body,hy,hR⟩:=HY.o pre x w1 hJ1 He.o;have hy':(Instr.yield l #[.string ⟨t.toArray⟩]).run Tryz.prog w1=.ok (.round l fn tmps assign body) w1:=by
  have:=hy;unfold TL at this;rw[rU.o] at this;exact this
 clear hy
 gi_wp2
 refine hR.mono ?_;rintro e W3 (⟨rfl,hJ3,hk3⟩ | ⟨rfl,hJx3⟩)
 ·have a7I:W3.cell? ⟨3,0,none⟩=some (.int .i64 m):=(hk3.cell (p:=⟨3,0,none⟩) hg0).trans a7H
  gi_wp2
  go_roundw
  case rel=>exact⟨pre++[x],b,rfl,by omega,by rw[HLX.o,←HL2.o];simp,a7I,hJ3⟩
  show (⟨b.toArray⟩:ByteArray).size<(⟨r.toArray⟩:ByteArray).size
  rw[IZ.o,show (⟨b.toArray⟩:ByteArray).size=b.length from List.size_toArray];exact hc2
 gi_wp2
 refine bodyPost_ret (results_none rfl _ _ _) rfl ?_;refine⟨⟨_,rfl⟩,.inr ⟨pre++[x],?_,hJx3⟩⟩;rw[HLX.o,←HL2.o];exact⟨dE b,by simp⟩
theorem EI (n:Nat)(hn:1≤n)(Bn n₀:Nat)(s:ByteArray)(hs:s.size≤1000)(w:World)(hn₀:n₀≤w.heap.size)(hg0:3<n₀)(hc:w.cell? ⟨Bn,0,none⟩=some (.string s))(m:Int)(hm:w.cell? ⟨3,0,none⟩=some (.int .i64 m)) :
  SeqStopsK Fence.wide n Tryz.prog 162 #[.pointer (some ⟨Bn,0,none⟩)] TL (Below n₀) (fun ys=>iX ys=dE s.data.toList) (fun pre=>iX pre <+: dE s.data.toList) (dE s.data.toList).length w:=fun l J Jx W hW hJ _ hY h0=>
 Pt n hn l Bn n₀ s hs J Jx (fun pre W' k h=>hJ pre W' _ none h (zw W' k) (fun r e=>by cases e)) m hY W ((hW.cell (p:=⟨Bn,0,none⟩) (World.block_lt_of_cell? _ _ hc)).trans hc) ((hW.cell (p:=⟨3,0,none⟩) (by show 3<_;omega)).trans hm) hg0 h0
theorem TM (n:Nat)(s:ByteArray)(w:World) :
  CallsIn Fence.wide n Tryz.prog 96 #[.string s] w fun e w'=>e=.returned (.func (.func 162) #[] #[.pointer (some ⟨w.heap.size,0,none⟩)])∧w'=w.alloc (.cells #[.string s] 9):=by
 refine callsIn_of_wp Tryz.func96 rfl trivial ?_ rfl;simp only[Tryz.ntmps96,List.size_toArray,List.length_cons,List.length_nil,Nat.reduceAdd,Nat.reduceSub,Array.replicate_succ,Array.replicate_zero,List.push_toArray,List.append_toArray,List.nil_append,List.cons_append]
 gi_wp2
 go_ret;exact⟨rfl,rfl⟩
end En
end
section
namespace En
open Go.RowKit Go.Shelf
attribute [local go_sem] Oper.semAt_some
theorem iU:∀(a b:List (List UInt8)),readAll (a++b)=(match readAll a,readAll b with | some x,some y=>some (x++y) | _,_=>none)
 | [],b=>by
  simp only[List.nil_append,readAll];cases readAll b<;>rfl
 | t::r,b=>by
  rw[List.cons_append,readAll,iU r b];simp only[readAll];cases gJ t with
  | none=>cases readAll r<;>cases readAll b<;>rfl
  | some f=>cases readAll r<;>cases readAll b<;>rfl
theorem oL:∀(l:List (List UInt8)) (m:List Fi),readAll l=some m→m.length=l.length
 | [],m,h=>by simp only[readAll] at h;injection h with h;subst h;rfl
 | t::r,m,h=>by
  rw[readAll] at h;cases hf:gJ t with
  | none=>rw[hf] at h;cases h
  | some f=>
   cases hr:readAll r with
   | none=>rw[hf,hr] at h;cases h
   | some x=>
    rw[hf,hr] at h;injection h with h
    subst h;simp[oL r x hr]
theorem yx:∀(l:List (List UInt8)) (L:List Int),eZ l=some L→∀x,x ∈ L→-9223372036854775808≤x∧x≤9223372036854775807
 | [],L,h,x,hx=>by simp only[eZ] at h;injection h with h;subst h;cases hx
 | a::r,L,h,x,hx=>by
  rw[eZ] at h;cases hn:oG a with
  | none=>rw[hn] at h;cases h
  | some v=>
   cases hr:eZ r with
   | none=>rw[hn,hr] at h;cases h
   | some M=>
    rw[hn,hr] at h;injection h with h
    subst h;rcases List.mem_cons.1 hx with rfl | hx
    ·unfold oG at hn;cases ha:Lib.atoiAll a with
     | ok u=>rw[ha] at hn;injection hn with hn;subst hn;exact Lib.atoiAll_bounds ha
     | «syntax»=>rw[ha] at hn;cases hn
     | range=>rw[ha] at hn;cases hn
    exact yx r M hr x hx
theorem EJ {t:List UInt8}{f:Fi}(h:gJ t=some f):-9223372036854775808≤f.sz∧f.sz≤9223372036854775807:=by
 unfold gJ at h;generalize Lib.splitK [32] 0 (min 26 (t.length+1)-1) t=ws at h
 match ws,h with
 | a::b::r,h=>
  simp only[qj] at h;split at h
  ·cases hn:eZ (b::r) with
   | none=>rw[hn] at h;cases h
   | some L=>
    rw[hn] at h;cases L with
    | nil=>cases h
    | cons v M=>
     injection h with h
     subst h;exact yx _ _ hn v (by simp)
  cases h
theorem qo:∀(l:List (List UInt8)) (m:List Fi),readAll l=some m→lV m
 | [],m,h,f,hf=>by simp only[readAll] at h;injection h with h;subst h;cases hf
 | t::r,m,h,f,hf=>by
  rw[readAll] at h;cases hp:gJ t with
  | none=>rw[hp] at h;cases h
  | some g=>
   cases hr:readAll r with
   | none=>rw[hp,hr] at h;cases h
   | some x=>
    rw[hp,hr] at h;injection h with h
    subst h;rcases List.mem_cons.1 hf with rfl | hf
    ·exact EJ hp
    exact qo r x hr f hf
theorem JD {s:List UInt8}{pre:List Ln}(hp:iX pre <+: dE s)(h:readAll (iX pre)=none∨8<pre.length):parse s=none:=by
 obtain⟨r,hr⟩:=hp;unfold parse;rw[←hr,iU];rcases h with h | h
 ·rw[h]
 cases h1:readAll (iX pre) with
 | none=>rfl
 | some a=>
  cases h2:readAll r with
  | none=>rfl
  | some b=>
   have hl:=oL _ _ h1;simp only[iX,List.length_map] at hl;have:right (a++b)=false:=by
    rw[right,decide_eq_false (by simp;omega)];rfl
   simp[this]
theorem kX {fn:Func}{p q:Tmp}{ty ty':TypeId}(h:fn.results=#[.cell p ty,.cell q ty'])(tmps:Array Value)(P:Program)(w:World)(b b':Nat)(x y:Value)(hx:tmps.getD p undef=.pointer (some ⟨b,0,none⟩))(hy:tmps.getD q undef=.pointer (some ⟨b',0,none⟩))(hcx:w.cell? ⟨b,0,none⟩=some x)(hcy:w.cell? ⟨b',0,none⟩=some y)(ha:∀w,(isAgg ty).run P w=.ok false w)(hb:∀w,(isAgg ty').run P w=.ok false w) :
  (results fn tmps).run P w=.ok (.tuple #[x,y]) w:=by
 simp only[results,h];have h2:tmps[p]?.getD undef=.pointer (some ⟨b,0,none⟩):=by simpa using hx
 have h3:tmps[q]?.getD undef=.pointer (some ⟨b',0,none⟩):=by simpa using hy
 have l1:(loadVar ty ⟨b,0,none⟩).run P w=.ok x w:=by simp[loadVar,ha,go_sem,hcx]
 have l2:(loadVar ty' ⟨b',0,none⟩).run P w=.ok y w:=by simp[loadVar,hb,go_sem,hcy]
 simp[asAddr,h2,h3,l1,l2]
theorem EK {W W':World}(h:Since W W'):KeepsOthers W W':=⟨h.size,fun k o hk _=>by rw[h.block k (bO hk)];exact hk⟩
theorem yz:(Tryz.prog.info? 129).map (fun i=>(i.zero,i.size,i.bytes))=some (some (.agg #[.string ByteArray.empty,.int .i64 0,.slice none 0 0]),3,48):=by kernel_rfl
def gy (p:List (Fi × Value)):List Value:=p.flatMap (fun x=>[.string x.1.nm,.int .i64 x.1.sz,x.2])
theorem uU (p:List (Fi × Value))(f:Fi)(cv:Value):gy (p++[(f,cv)])=gy p++[.string f.nm,.int .i64 f.sz,cv]:=by simp[gy]
theorem qQ:∀(p:List (Fi × Value)) (j:Nat) (x:Fi × Value),p[j]?=some x→(gy p)[j*3]?=some (.string x.1.nm)∧(gy p)[j*3+1]?=some (.int .i64 x.1.sz)∧(gy p)[j*3+2]?=some x.2
 | [],j,x,h=>by simp at h
 | y::r,0,x,h=>by
  simp at h;subst h;exact⟨rfl,rfl,rfl⟩
 | y::r,j+1,x,h=>by
  have ih:=qQ r j x (by simpa using h);have e:gy (y::r)=.string y.1.nm::.int .i64 y.1.sz::y.2::gy r:=rfl;rw[e,show (j+1)*3=j*3+1+1+1 by omega];exact ih
structure Row (b:Nat)(W:World)(v:Value)(p:List (Fi × Value)):Prop where
 own:W.ownsRow b 129 3 v p.length (gy p)
 ints:∀x,x ∈ p→Ints W x.2 x.1.cs
 far:∀x,x ∈ p→∀k o n c,x.2=.slice (some ⟨k,o,none⟩) n c→b+3≤k∧∃cur fz,W.heap[k]?=some (.cells cur 3 fz)
theorem Row.AB {b:Nat}{W:World}{v:Value}{p:List (Fi × Value)}(h:Row b W v p):fA W v (p.map (fun x=>x.1)):=by
 rcases h.own.2 with⟨hv,h0⟩ | ⟨g,cap,cur,hv,hb,hg,hc,hm,hs,ht⟩
 ·obtain rfl:=List.length_eq_zero_iff.1 h0;exact⟨none,0,hv,Nat.le_refl _,fun h=>by simp at h⟩
 subst hv;refine⟨some ⟨g,0,none⟩,cap,by rw[List.length_map],by rw[List.length_map];exact hc,fun _=>⟨g,0,rfl,bO hg,fun j f hj=>?_⟩⟩;rw[List.getElem?_map] at hj;cases hx:p[j]? with
 | none=>rw[hx] at hj;cases hj
 | some x=>
  rw[hx] at hj;injection hj with hj
  subst hj;have hjl:=(List.getElem?_eq_some_iff.1 hx).1;obtain⟨e1,e2,e3⟩:=qQ p j x hx;have c:=fun i hi=>h.own.cellAt i hi
  refine⟨x.2,h.ints x (List.mem_of_getElem? hx),?_,?_,?_⟩
  ·rw[Nat.zero_add,c _ (by omega)];exact e1
  ·rw[Nat.zero_add,c _ (by omega)];exact e2
  rw[Nat.zero_add,c _ (by omega)];exact e3
theorem Ints.kept {W W':World}{row:Option Nat}{v:Value}{cs:List Int}(h:Ints W v cs)(hg:W.grownBy W' row)(hr:∀r,row=some r→∃o:Obj,W.heap[r]?=some o∧o.isCells=false):Ints W' v cs:=by
 obtain⟨a,c,hv,hc,h⟩:=h;refine⟨a,c,hv,hc,fun hn=>?_⟩;obtain⟨k,o,ha,hk,hcell⟩:=h hn;exact⟨k,o,ha,Nat.lt_of_lt_of_le hk hg.size,fun j x hj=>cell_kept (hcell j x hj) hg hr⟩
theorem Row.kept {b:Nat}{W W':World}{row:Option Nat}{v:Value}{p:List (Fi × Value)}(h:Row b W v p)(hg:W.grownBy W' row)(hr:∀r,row=some r→∃o:Obj,W.heap[r]?=some o∧o.isCells=false):Row b W' v p:=by
 refine⟨h.own.kept hg ?_,fun x hx=>(h.ints x hx).kept hg hr,fun x hx k o n c e=>?_⟩
 ·rcases h.own.2 with⟨hv,_⟩ | ⟨g,cap,cur,hv,hb,hgg,_⟩
  ·rw[hv];exact Or.inl rfl
  refine Or.inr ?_;rw[hv];intro e;obtain⟨o,ho,hc⟩:=hr g e.symm;rw[hgg] at ho;injection ho with ho
  subst ho;cases hc
 obtain⟨h1,cur,fz,h2⟩:=h.far x hx k o n c e;refine⟨h1,cur,fz,(hg.block k (bO h2) (fun e=>?_)).trans h2⟩;obtain⟨o,ho,hc⟩:=hr k e.symm;rw[h2] at ho;injection ho with ho
 subst ho;cases hc
theorem Row.since {b:Nat}{W W':World}{v:Value}{p:List (Fi × Value)}(h:Row b W v p)(hs:Since W W'):Row b W' v p:=⟨bf h.own hs,fun x hx=>(h.ints x hx).since hs,fun x hx k o n c e=>by obtain⟨h1,cur,fz,h2⟩:=h.far x hx k o n c e;exact⟨h1,cur,fz,(hs.block k (bO h2)).trans h2⟩⟩
theorem Ints.grown {W W':World}{row:Option Nat}{v:Value}{cs:List Int}(h:Ints W v cs)(hg:W.grownBy W' row)(hr:∀k o n c,v=.slice (some ⟨k,o,none⟩) n c→row≠some k):Ints W' v cs:=by
 obtain⟨a,c,hv,hc,h⟩:=h;refine⟨a,c,hv,hc,fun hn=>?_⟩;obtain⟨k,o,ha,hk,hcell⟩:=h hn;exact⟨k,o,ha,Nat.lt_of_lt_of_le hk hg.size,fun j x hj=>(World.cell?_of_block (w:=W) (a:=⟨k,o+j,none⟩) (hg.block k hk (fun e=>hr k o _ _ (by rw[hv,ha]) e.symm))).trans (hcell j x hj)⟩
theorem Row.set {b B:Nat}{W:World}{v u:Value}{t:TypeId}{p:List (Fi × Value)}(h:Row b W v p)(hB:B<b+3)(hb:Boxed W B t u)(u':Value)(ht:t≠129:=by decide):Row b (W.setCell ⟨B,0,none⟩ u') v p:=by
 have hk:∀x,x ∈ p→∀k o n c,x.2=.slice (some ⟨k,o,none⟩) n c→some B≠some k:=fun x hx k o n c e e2=>by
  have h1:=(h.far x hx k o n c e).1;injection e2 with e2
  omega
 refine⟨h.own.kept (grownBy_setCell' W B u') (.inr (hb.not_row ht h.own).symm),fun x hx=>(h.ints x hx).grown (grownBy_setCell' W B u') (hk x hx),fun x hx k o n c e=>?_⟩;obtain⟨h1,cur,fz,h2⟩:=h.far x hx k o n c e;refine⟨h1,cur,fz,?_⟩;rw[Below.heap_setCell _ _ _ _ (fun e2=>hk x hx k o n c e (by rw[e2]))];exact h2
theorem fA.kept {W W':World}{row:Option Nat}{v:Value}{l:List Fi}(h:fA W v l)(hg:W.grownBy W' row)(hr:∀r,row=some r→∃o:Obj,W.heap[r]?=some o∧o.isCells=false):fA W' v l:=by
 obtain⟨a,c,hv,hc,h⟩:=h;refine⟨a,c,hv,hc,fun hn=>?_⟩;obtain⟨k,o,ha,hk,hcell⟩:=h hn;refine⟨k,o,ha,Nat.lt_of_lt_of_le hk hg.size,fun j f hj=>?_⟩;obtain⟨cv,h1,h2,h3,h4⟩:=hcell j f hj;exact⟨cv,h1.kept hg hr,cell_kept h2 hg hr,cell_kept h3 hg hr,cell_kept h4 hg hr⟩
def PI (w:World)(pre:List Ln)(W:World):Prop:=
 ∃p v,readAll (iX pre)=some (p.map (fun x=>x.1))∧p.length≤8∧Boxed W (w.heap.size+1+1) 52 v∧Row w.heap.size W v p∧Boxed W w.heap.size 52 (.slice none 0 0)∧Boxed W (w.heap.size+1) 38 .nilIface∧Below w.heap.size w W
def PX (w:World)(c:Code)(pre:List Ln)(W:World):Prop:=
 c=.ret∧(readAll (iX pre)=none∨8<pre.length)∧Boxed W w.heap.size 52 (.slice none 0 0)∧Boxed W (w.heap.size+1) 38 (fF 3)∧Below w.heap.size w W
theorem kH {W W':World}{row:Option Nat}{B:Nat}{t:TypeId}{v:Value}(h:Boxed W B t v)(hg:W.grownBy W' row)(hr:∀r,row=some r→∃o:Obj,W.heap[r]?=some o∧o.isCells=false):Boxed W' B t v:=h.kept hg (fun e=>by
  obtain⟨o,ho,hc⟩:=hr B e.symm;rw[show W.heap[B]?=_ from h] at ho;injection ho with ho
  subst ho;cases hc)
theorem bE {W W':World}{B:Nat}{t:TypeId}{v:Value}(h:Boxed W B t v)(hs:Since W W'):Boxed W' B t v:=(hs.block B h.lt).trans h
theorem PI.own (w:World)(B:Nat)(hB:w.heap.size≤B):OwnFrom B (PI w):=fun pre W W' row h hg hr=>by
 obtain⟨p,v,h1,h2,h3,h4,h5,h6,h7⟩:=h;have hr':=fun r e=>(hr r e).2
 exact⟨p,v,h1,h2,kH h3 hg hr',h4.kept hg hr',kH h5 hg hr',kH h6 hg hr',ownFrom_below (Nat.le_refl _) hB pre W W' row h7 hg hr⟩
theorem PX.own (w:World)(B:Nat)(hB:w.heap.size≤B)(c:Code):OwnFrom B (PX w c):=fun pre W W' row h hg hr=>by
 obtain⟨h1,h2,h3,h4,h5⟩:=h;have hr':=fun r e=>(hr r e).2
 exact⟨h1,h2,kH h3 hg hr',kH h4 hg hr',ownFrom_below (Nat.le_refl _) hB pre W W' row h5 hg hr⟩
theorem Pv (s:ByteArray)(hs:s.size≤1000)(w:World)(hb:Lb w) :
  Calls Tryz.prog 40 #[.string s] w fun e w'=>((∃l v,parse s.data.toList=some l∧e=.returned (.tuple #[v,.nilIface])∧fA w' v l∧∃p,p.map (fun x=>x.1)=l∧Row w.heap.size w' v p)∨(parse s.data.toList=none∧e=.returned (.tuple #[.slice none 0 0,fF 3])))∧Since w w':=by
 have HB:Hid (Lb w):=hb;obtain⟨m,hm⟩:=hb.max;have hgl:=World.block_lt_of_cell? _ _ hm;clear hb;refine(callsIn_wide (n:=6)).1 ?_;refine callsIn_of_wp_marks Tryz.func40 rfl trivial ?_ rfl;simp only[Tryz.ntmps40,List.size_toArray,List.length_cons,List.length_nil,Nat.reduceAdd,Nat.reduceSub,Array.replicate_succ,Array.replicate_zero,List.push_toArray,List.append_toArray,List.nil_append,List.cons_append]
 gi_wp2_with (refine⟨trivial,?_⟩;gi_at_call 96;refine(TM _ _ _).mono ?_;rintro e w' ⟨rfl,rfl⟩)
 have b2:=(((Boxed.new w 52 (.slice none 0 0)).alloc (.cells #[.nilIface] 38)).alloc (.cells #[.slice none 0 0] 52)).alloc (.cells #[.string s] 9);have b3:=((Boxed.new (w.alloc (.cells #[.slice none 0 0] 52)) 38 .nilIface).alloc (.cells #[.slice none 0 0] 52)).alloc (.cells #[.string s] 9);have b4:=(Boxed.new ((w.alloc (.cells #[.slice none 0 0] 52)).alloc (.cells #[.nilIface] 38)) 52 (.slice none 0 0)).alloc (.cells #[.string s] 9);have b5:=Boxed.new (((w.alloc (.cells #[.slice none 0 0] 52)).alloc (.cells #[.nilIface] 38)).alloc (.cells #[.slice none 0 0] 52)) 9 (.string s);simp only[World.size_alloc] at b3 b4 b5;have hB0:Since w ((((w.alloc (.cells #[.slice none 0 0] 52)).alloc (.cells #[.nilIface] 38)).alloc (.cells #[.slice none 0 0] 52)).alloc (.cells #[.string s] 9)):=((((Since.refl w).alloc _).alloc _).alloc _).alloc _
 obtain⟨W0,hW0⟩:∃W0,(((w.alloc (.cells #[.slice none 0 0] 52)).alloc (.cells #[.nilIface] 38)).alloc (.cells #[.slice none 0 0] 52)).alloc (.cells #[.string s] 9)=W0:=⟨_,rfl⟩
 rw[hW0] at b2 b3 b4 b5 hB0 ⊢;clear hW0;have hm0:=(hB0.cell (p:=⟨3,0,none⟩) hgl).trans hm;refine wpIn_rangeFunc_ownF (F:=Fence.wide) (n:=6) rfl (by omega) (gf:=162) (lb:=#[.pointer (some ⟨w.heap.size+1+1+1,0,none⟩)]) rfl trivial (enters_of Tryz.func162 (by kernel_rfl) rfl)
  (EI 5 (by omega) (w.heap.size+1+1+1) w.heap.size s hs W0 hB0.size hgl b5.cell m hm0) belowK_t (belowK_b hB0.size) (Below.refl _ _) (fun _=>rfl)
  (PI w) (PX w) (PI.own w _ hB0.size) (fun c=>PX.own w _ hB0.size c)
  ⟨[],.slice none 0 0,rfl,by simp,b4,⟨World.ownsRow_nil _ _ _ _,(fun x hx=>by cases hx),(fun x hx=>by cases hx)⟩,b2,b3,hB0⟩
  (fun x=>{ tmps:=#[.string s,undef,.pointer (some ⟨w.heap.size,0,none⟩),.pointer (some ⟨w.heap.size+1,0,none⟩),.pointer (some ⟨w.heap.size+1+1,0,none⟩),.string x.1,undef,undef,undef,undef,.string s,.func (.func 162) #[] #[.pointer (some ⟨w.heap.size+1+1+1,0,none⟩)],.string x.1,undef,undef,undef,undef,undef,undef,undef,undef,undef,undef,undef,undef,undef,undef,undef,undef,undef,undef,undef,undef,undef,undef,undef,undef,undef,undef,undef,undef,undef,undef,undef],defers:=[] })
  ?assign ?body ?done ?stop
 case assign=>
  intro l x W K hK;simp only[TL]
  gi_wp2
  exact hK
 case body=>
  rintro l pre ⟨x,hx⟩ W ⟨p,v,h1,h2,h3,h4,h5,h6,h7⟩ hlt;have H1:Hid (readAll (iX pre)=some (p.map (fun x=>x.1))):=h1;have H3:Hid (Boxed W (w.heap.size+1+1) 52 v):=h3;have H4:Hid (Row w.heap.size W v p):=h4;have H5:Hid (Boxed W w.heap.size 52 (.slice none 0 0)):=h5;have H6:Hid (Boxed W (w.heap.size+1) 38 .nilIface):=h6;have H7:Hid (Below w.heap.size w W):=h7;have HPX:Hid (iX (pre++[(⟨x,hx⟩:Ln)])=iX pre++[x.data.toList]):=uT _ _;have BZ:Hid (pre.length=p.length):=by
   have:=oL _ _ h1;simp only[iX,List.length_map] at this;exact this.symm
  have hw4:w.heap.size+3≤W.heap.size:=by have:=h3.lt;omega
  clear h1 h3 h4 h5 h6 h7;dsimp only
  gi_wp2
  refine⟨trivial,?_⟩;refine(CallsIn.inRound l (callsIn_wide.2 (nY x hx W (HB.o.since H7.o)))).mono ?_;rintro e W1 ⟨he,hs1⟩;have g3:=(bE H3.o hs1)
  have g5:=(bE H5.o hs1)
  have g6:=(bE H6.o hs1)
  have G4:Hid (Row w.heap.size W1 v p):=H4.o.since hs1;have G7:Hid (Since w W1):=Since.trans H7.o hs1;have GK:Hid (KeepsOthers W W1):=EK hs1;have GB:Hid (Below w.heap.size W W1):=Below.mono hs1 (Below.size H7.o);have HOWN:Hid (W.ownsRow w.heap.size 129 3 v p.length (gy p)):=H4.o.own;clear hs1 H3 H4 H5 H6;rcases he with⟨f,cv,hrp,rfl,hin,hfr⟩ | ⟨hrp,rfl⟩
  ·have HF:Hid (readAll (iX (pre++[(⟨x,hx⟩:Ln)]))=some ((p++[(f,cv)]).map (fun x=>x.1))):=by
    show readAll (iX (pre++[(⟨x,hx⟩:Ln)]))=_
    rw[HPX.o,iU,H1.o,readAll,hrp];simp[readAll]
   obtain⟨ca,cc,rfl⟩:∃ca cc,cv=.slice ca f.cs.length cc:=by
    obtain⟨ca,cc,h,_⟩:=hin;exact⟨ca,cc,h⟩
   have DY:Hid (Ints W1 (.slice ca f.cs.length cc) f.cs):=hin;clear hin hrp;obtain⟨va,vc,rfl⟩:∃va vc,v=.slice va p.length vc:=by
    rcases G4.out.own.2 with⟨h,h0⟩ | ⟨g,cap,cur,h,_⟩
    ·exact⟨none,0,by rw[h,h0]⟩
    exact⟨_,_,h⟩
   unfold dF;have a4:=g3.alloc (.cells #[.string f.nm,.int .i64 f.sz,.slice ca f.cs.length cc] 129);have c4:=a4.cell;have f4:=a4.frozen;by_cases h8:p.length=8
   ·have HN:Hid (readAll (iX (pre++[(⟨x,hx⟩:Ln)]))=none∨8<(pre++[(⟨x,hx⟩:Ln)]).length):=Or.inr (by have:=BZ.o;simp;omega);have h8':((p.length:Int)==8)=true:=by rw[h8];rfl
    have a5:=g5.alloc (.cells #[.string f.nm,.int .i64 f.sz,.slice ca f.cs.length cc] 129);have a6:=(g6.alloc (.cells #[.string f.nm,.int .i64 f.sz,.slice ca f.cs.length cc] 129)).other (B':=w.heap.size) (by omega) (.slice none 0 0);have c5:=a5.cell;have c6:=a6.cell;have f5:=a5.frozen;have f6:=a6.frozen;have G5:Hid (Boxed (((W1.alloc (.cells #[.string f.nm,.int .i64 f.sz,.slice ca f.cs.length cc] 129)).setCell ⟨w.heap.size,0,none⟩ (.slice none 0 0)).setCell ⟨w.heap.size+1,0,none⟩ (fF 3)) w.heap.size 52 (.slice none 0 0)):=(a5.set (.slice none 0 0)).other (B':=w.heap.size+1) (by omega) _;have G6:Hid (Boxed (((W1.alloc (.cells #[.string f.nm,.int .i64 f.sz,.slice ca f.cs.length cc] 129)).setCell ⟨w.heap.size,0,none⟩ (.slice none 0 0)).setCell ⟨w.heap.size+1,0,none⟩ (fF 3)) (w.heap.size+1) 38 (fF 3)):=a6.set (fF 3)
    have GS:Hid (Since w (((W1.alloc (.cells #[.string f.nm,.int .i64 f.sz,.slice ca f.cs.length cc] 129)).setCell ⟨w.heap.size,0,none⟩ (.slice none 0 0)).setCell ⟨w.heap.size+1,0,none⟩ (fF 3))):=((G7.out.alloc _).setCell (p:=⟨w.heap.size,0,none⟩) (Nat.le_refl _) _).setCell (p:=⟨w.heap.size+1,0,none⟩) (Nat.le_succ _) _;have GKK:Hid (KeepsOthers W (((W1.alloc (.cells #[.string f.nm,.int .i64 f.sz,.slice ca f.cs.length cc] 129)).setCell ⟨w.heap.size,0,none⟩ (.slice none 0 0)).setCell ⟨w.heap.size+1,0,none⟩ (fF 3))):=((GK.out.trans (KeepsOthers.alloc _ _)).trans (KeepsOthers.setCell _ _ _)).trans (KeepsOthers.setCell _ _ _);clear a4 a5 a6 g3 g5 g6 h8
    gi_wp2
    exact⟨GKK.out,rfl,HN.o,G5.out,G6.out,GS.out⟩
   have h8':((p.length:Int)==8)=false:=beq_false_of_ne (by omega);obtain⟨i0,hi,hz0,hz1,hz2⟩:=info_parts yz;have HI:Hid (Tryz.prog.info? 129=some i0∧i0.zero=some (.agg #[.string ByteArray.empty,.int .i64 0,.slice none 0 0])∧i0.size=3∧i0.bytes=48):=⟨hi,hz0,hz1,hz2⟩
   clear hi hz0 hz1 hz2;have GA:Hid (Boxed (W1.alloc (.cells #[.string f.nm,.int .i64 f.sz,.slice ca f.cs.length cc] 129)) (w.heap.size+1+1) 52 (.slice va p.length vc)):=a4;have GR:Hid ((W1.alloc (.cells #[.string f.nm,.int .i64 f.sz,.slice ca f.cs.length cc] 129)).ownsRow w.heap.size 129 3 (.slice va p.length vc) p.length (gy p)):=G4.out.own.alloc _;have G5:Hid (Boxed (W1.alloc (.cells #[.string f.nm,.int .i64 f.sz,.slice ca f.cs.length cc] 129)) w.heap.size 52 (.slice none 0 0)):=g5.alloc _;have G6:Hid (Boxed (W1.alloc (.cells #[.string f.nm,.int .i64 f.sz,.slice ca f.cs.length cc] 129)) (w.heap.size+1) 38 .nilIface):=g6.alloc _;have GS:Hid (Since w (W1.alloc (.cells #[.string f.nm,.int .i64 f.sz,.slice ca f.cs.length cc] 129))):=G7.out.alloc _
   have GI:Hid (∀y,y ∈ p++[(f,.slice ca f.cs.length cc)]→Ints (W1.alloc (.cells #[.string f.nm,.int .i64 f.sz,.slice ca f.cs.length cc] 129)) y.2 y.1.cs):=fun y hy=>by
    rcases List.mem_append.1 hy with hy | hy
    ·exact(G4.out.ints y hy).since ((Since.refl _).alloc _)
    rw[List.mem_singleton] at hy;subst hy;exact DY.o.since ((Since.refl _).alloc _)
   have GFR:Hid (∀y,y ∈ p++[(f,.slice ca f.cs.length cc)]→∀k o n c,y.2=.slice (some ⟨k,o,none⟩) n c→w.heap.size+3≤k∧∃cur fz,(W1.alloc (.cells #[.string f.nm,.int .i64 f.sz,.slice ca f.cs.length cc] 129)).heap[k]?=some (.cells cur 3 fz)):=fun y hy k o n c e=>by
    have key:w.heap.size+3≤k∧∃cur fz,W1.heap[k]?=some (.cells cur 3 fz):=by
     rcases List.mem_append.1 hy with hy | hy
     ·exact G4.out.far y hy k o n c e
     rw[List.mem_singleton] at hy;subst hy;have h1:=hfr k o n c e;exact⟨by omega,h1.2⟩
    obtain⟨h1,cur,fz,h2⟩:=key;exact⟨h1,cur,fz,(((Since.refl W1).alloc _).block k (bO h2)).trans h2⟩
   have GKA:Hid (KeepsOthers W (W1.alloc (.cells #[.string f.nm,.int .i64 f.sz,.slice ca f.cs.length cc] 129))):=GK.out.trans (KeepsOthers.alloc _ _);have GBA:Hid (Below w.heap.size W (W1.alloc (.cells #[.string f.nm,.int .i64 f.sz,.slice ca f.cs.length cc] 129))):=GB.out.alloc (Nat.le_trans (Nat.le_of_lt (by omega)) GB.out.size) _;have GBX:Hid (aA (W1.alloc (.cells #[.string f.nm,.int .i64 f.sz,.slice ca f.cs.length cc] 129)) W1.heap.size 3 (fun j=>(#[.string f.nm,.int .i64 f.sz,.slice ca f.cs.length cc]:Array Value).getD j undef)):=Bx.new W1 f (.slice ca f.cs.length cc);clear a4 g3 g5 g6 hfr;have hsz:(W1.alloc (.cells #[.string f.nm,.int .i64 f.sz,.slice ca f.cs.length cc] 129)).heap.size=W1.heap.size+1:=World.size_alloc _ _;have x0:=GBX.out.cell 0 (by omega);have x1:=GBX.out.cell 1 (by omega);have x2:=GBX.out.cell 2 (by omega)
   have HE1:Hid (Ending.returned (.bool true)=Ending.returned (.bool true)):=rfl;clear HE1
   gi_wp2_with (gi_at_builtin;refine wpListIn_append_own _ rfl _ _ 52 rfl w.heap.size 129 i0 _ 3 48 Tryz.underlying52 HI.o.1 HI.o.2.1 HI.o.2.2.1 HI.o.2.2.2 rfl (by decide) _ _ _ rfl (World.ownsRow.alloc GR.out _) ⟨W1.heap.size+1,0,none⟩ 1 1 [.string f.nm,.int .i64 f.sz,.slice ca f.cs.length cc] rfl rfl (by rw[←hsz];exact World.news_of_block (heap_alloc_new _ _)) (by simp[Value.oneCell']) (by unfold maxLen;omega) (by omega) (by have:=GS.out.size;simp at this ⊢;omega) ?_;intro v' w2 hown' hgrow _;obtain⟨g',cap',rfl⟩:=ownsRow_succ hown';obtain⟨hv1,hv2,hr2,hk2,hb2⟩:=GA.out.appended (by decide) GR.out GS.out.size (by omega) hown' hgrow;have hc1:=hv1.cell;have hf1:=hv1.frozen)
   have hnr:∀y,y ∈ p++[(f,.slice ca f.cs.length cc)]→∀k o n c,y.2=.slice (some ⟨k,o,none⟩) n c→(Value.slice va p.length vc).ownBlock≠some k:=fun y hy k o n c e e2=>by
    obtain⟨_,cur,fz,h2⟩:=GFR.out y hy k o n c e;rcases GR.out.2 with⟨h,_⟩ | ⟨g,cap,a7M,h,_,h3,_⟩
    ·rw[h] at e2;cases e2
    rw[h] at e2;injection e2 with e2
    have e3:g=k:=e2;subst e3;rw[h3] at h2;injection h2 with h2
    injection h2 with _ h2
    cases h2
   have hb4:∀y,y ∈ p++[(f,.slice ca f.cs.length cc)]→∀k o n c,y.2=.slice (some ⟨k,o,none⟩) n c→some (w.heap.size+1+1)≠some k:=fun y hy k o n c e e2=>by
    have h1:=(GFR.out y hy k o n c e).1;injection e2 with e2
    omega
   have hga:World.grownBy _ _ _:=World.grownBy_alloc (W1.alloc (.cells #[.string f.nm,.int .i64 f.sz,.slice ca f.cs.length cc] 129)) (.cells #[.string f.nm,.int .i64 f.sz,.slice ca f.cs.length cc] 129) none;have q5:=((G5.out.alloc (.cells #[.string f.nm,.int .i64 f.sz,.slice ca f.cs.length cc] 129)).kept hgrow (G5.out.not_row (by decide) GR.out)).other (B':=w.heap.size+1+1) (by omega) (.slice (some ⟨g',0,none⟩) (p.length+1) cap');have q6:=((G6.out.alloc (.cells #[.string f.nm,.int .i64 f.sz,.slice ca f.cs.length cc] 129)).kept hgrow (G6.out.not_row (by decide) GR.out)).other (B':=w.heap.size+1+1) (by omega) (.slice (some ⟨g',0,none⟩) (p.length+1) cap');refine⟨GKA.out.trans hk2,GBA.out.trans hb2,p++[(f,.slice ca f.cs.length cc)],_,HF.o,by simp;omega,hv2,⟨?_,fun y hy=>?_,fun y hy k o n c e=>?_⟩,q5,q6,Below.trans GS.out hb2⟩
   ·rw[List.length_append,uU];exact hr2
   ·exact(((GI.out y hy).since ((Since.refl _).alloc _)).grown hgrow (hnr y hy)).grown (grownBy_setCell' w2 (w.heap.size+1+1) _) (hb4 y hy)
   obtain⟨h1,cur,fz,h2⟩:=GFR.out y hy k o n c e;refine⟨h1,cur,fz,?_⟩;rw[Below.heap_setCell _ _ _ _ (fun e2=>hb4 y hy k o n c e (by rw[e2])),hgrow.block k (by have:=bO h2;simp at this ⊢;omega) (fun e2=>hnr y hy k o n c e e2.symm),((Since.refl _).alloc _).block k (bO h2)];exact h2
  have HN:Hid (readAll (iX (pre++[(⟨x,hx⟩:Ln)]))=none∨8<(pre++[(⟨x,hx⟩:Ln)]).length):=Or.inl (by
   rw[HPX.o,iU,H1.o,readAll,hrp])
  have a5:=g5.alloc (.cells #[.string ⟨#[]⟩,.int .i64 0,.slice none 0 0] 129);have a6:=(g6.alloc (.cells #[.string ⟨#[]⟩,.int .i64 0,.slice none 0 0] 129)).other (B':=w.heap.size) (by omega) (.slice none 0 0);have c5:=a5.cell;have c6:=a6.cell;have f5:=a5.frozen;have f6:=a6.frozen;have G5:Hid (Boxed (((W1.alloc (.cells #[.string ⟨#[]⟩,.int .i64 0,.slice none 0 0] 129)).setCell ⟨w.heap.size,0,none⟩ (.slice none 0 0)).setCell ⟨w.heap.size+1,0,none⟩ (fF 3)) w.heap.size 52 (.slice none 0 0)):=(a5.set (.slice none 0 0)).other (B':=w.heap.size+1) (by omega) _;have G6:Hid (Boxed (((W1.alloc (.cells #[.string ⟨#[]⟩,.int .i64 0,.slice none 0 0] 129)).setCell ⟨w.heap.size,0,none⟩ (.slice none 0 0)).setCell ⟨w.heap.size+1,0,none⟩ (fF 3)) (w.heap.size+1) 38 (fF 3)):=a6.set (fF 3)
  have GS:Hid (Since w (((W1.alloc (.cells #[.string ⟨#[]⟩,.int .i64 0,.slice none 0 0] 129)).setCell ⟨w.heap.size,0,none⟩ (.slice none 0 0)).setCell ⟨w.heap.size+1,0,none⟩ (fF 3))):=((G7.out.alloc _).setCell (p:=⟨w.heap.size,0,none⟩) (Nat.le_refl _) _).setCell (p:=⟨w.heap.size+1,0,none⟩) (Nat.le_succ _) _;have GKK:Hid (KeepsOthers W (((W1.alloc (.cells #[.string ⟨#[]⟩,.int .i64 0,.slice none 0 0] 129)).setCell ⟨w.heap.size,0,none⟩ (.slice none 0 0)).setCell ⟨w.heap.size+1,0,none⟩ (fF 3))):=((GK.out.trans (KeepsOthers.alloc _ _)).trans (KeepsOthers.setCell _ _ _)).trans (KeepsOthers.setCell _ _ _);clear a5 a6 g3 g5 g6 hrp;unfold TE
  gi_wp2
  exact⟨GKK.out,rfl,HN.o,G5.out,G6.out,GS.out⟩
 case done=>
  rintro Dd zs W ZM hS ⟨p,v,h1,h2,h3,h4,h5,h6,h7⟩ hK;rw[hS] at h1;have HR:Hid (readAll (dE s.data.toList)=some (p.map (fun x=>x.1))):=h1;have HF:Hid (fA W v (p.map (fun x=>x.1))):=h4.AB;have HZ:Hid (lV (p.map (fun x=>x.1))):=qo _ _ h1;have HLB:Hid (Lb W):=HB.o.since h7;have H3:Hid (Boxed W (w.heap.size+1+1) 52 v):=h3;have H5:Hid (Boxed W w.heap.size 52 (.slice none 0 0)):=h5;have H6:Hid (Boxed W (w.heap.size+1) 38 .nilIface):=h6;have H7:Hid (Since w W):=h7;obtain⟨va,vc,rfl⟩:∃va vc,v=.slice va p.length vc:=by
   obtain⟨va,vc,h,_⟩:=h4.AB;exact⟨va,vc,by rw[h,List.length_map]⟩
  have c3:=h3.cell;have HRW:Hid (Row w.heap.size W (.slice va p.length vc) p):=h4;clear h1 h3 h4 h5 h6 h7 hS;obtain⟨L,hL⟩:∃L,p.map (fun x=>x.1)=L:=⟨_,rfl⟩
  have BZ:Hid (p.map (fun x=>x.1)=L):=hL;rw[hL] at HR HF HZ;clear hL
  gi_wp2
  refine⟨trivial,?_⟩;cases hrt:right L with
  | false=>
   have HN:Hid (parse s.data.toList=none):=by
    show parse s.data.toList=none
    unfold parse;rw[HR.o];simp[hrt]
   refine(callsIn_wide.2 (TC L _ W HF.o HZ.o hrt)).mono ?_;rintro e W2 ⟨rfl,hs2⟩;have hK2:W2.heap[Dd]?=some (.deferred (some [])):=(hs2.block Dd (bO hK)).trans hK;have a5:=bE H5.o hs2;have a6:=(bE H6.o hs2).other (B':=w.heap.size) (by omega) (.slice none 0 0);have d5:=a5.cell;have d6:=a6.cell;have f5:=a5.frozen;have f6:=a6.frozen;have G5:Hid (Boxed ((W2.setCell ⟨w.heap.size,0,none⟩ (.slice none 0 0)).setCell ⟨w.heap.size+1,0,none⟩ (fF 3)) w.heap.size 52 (.slice none 0 0)):=(a5.set (.slice none 0 0)).other (B':=w.heap.size+1) (by omega) _;have G6:Hid (Boxed ((W2.setCell ⟨w.heap.size,0,none⟩ (.slice none 0 0)).setCell ⟨w.heap.size+1,0,none⟩ (fF 3)) (w.heap.size+1) 38 (fF 3)):=a6.set (fF 3)
   have GS:Hid (Since w ((W2.setCell ⟨w.heap.size,0,none⟩ (.slice none 0 0)).setCell ⟨w.heap.size+1,0,none⟩ (fF 3))):=((H7.o.trans hs2).setCell (p:=⟨w.heap.size,0,none⟩) (Nat.le_refl _) _).setCell (p:=⟨w.heap.size+1,0,none⟩) (Nat.le_succ _) _;have hK3:((W2.setCell ⟨w.heap.size,0,none⟩ (.slice none 0 0)).setCell ⟨w.heap.size+1,0,none⟩ (fF 3)).heap[Dd]?=some (.deferred (some [])):=((KeepsOthers.setCell W2 ⟨w.heap.size,0,none⟩ (.slice none 0 0)).trans (KeepsOthers.setCell _ _ _)).same Dd _ hK2 rfl;have HK:Hid (((W2.setCell ⟨w.heap.size,0,none⟩ (.slice none 0 0)).setCell ⟨w.heap.size+1,0,none⟩ (fF 3)).heap[Dd]?=some (.deferred (some []))):=hK3;clear a5 a6 hK2 hK3 hrt hs2;unfold fF
   gi_wp2
   refine⟨by simp,.inl ⟨_,_,rfl,run_takeDeferred HK.o,?_⟩⟩;have hk:∀r,some Dd=some r→∃o:Obj,((W2.setCell ⟨w.heap.size,0,none⟩ (.slice none 0 0)).setCell ⟨w.heap.size+1,0,none⟩ (fF 3)).heap[r]?=some o∧o.isCells=false:=fun r e=>by cases e;exact⟨_,HK.o,rfl⟩
   refine⟨_,kX Tryz.results40 _ _ _ w.heap.size (w.heap.size+1) _ _ (by rfl) (by rfl) (cell_kept G5.out.cell (grownBy_putObj' _ Dd (.deferred none)) hk) (cell_kept G6.out.cell (grownBy_putObj' _ Dd (.deferred none)) hk) Tryz.isAgg52 Tryz.isAgg38,?_⟩;exact⟨Or.inr ⟨HN.o,rfl⟩,Below.trans GS.out (belowK_b (w:=W0) hB0.size _ Dd _ _ ZM HK.o rfl rfl)⟩
  | true=>
   refine(callsIn_wide.2 (Aq L _ W HF.o HZ.o HLB.o hrt)).mono ?_;rintro e W2 ⟨rfl,hs2⟩;have hK2:W2.heap[Dd]?=some (.deferred (some [])):=(hs2.block Dd (bO hK)).trans hK;have hsd:s.toList=s.data.toList:=Lib.toList_data s;by_cases hpe:print L=s.data.toList
   ·have HN:Hid (parse s.data.toList=some L):=by
     show parse s.data.toList=some L
     unfold parse;rw[HR.o];simp[hrt,hpe]
    have hcmp:(print L==s.data.toList)=true:=by simp[hpe]
    have a5:=bE H5.o hs2;have a4:=bE H3.o hs2;have a6:=(bE H6.o hs2).other (B':=w.heap.size) (by omega) (.slice va p.length vc);have d4:=a4.cell;have d5:=a5.cell;have d6:=a6.cell;have f5:=a5.frozen;have f6:=a6.frozen;have G5:Hid (Boxed ((W2.setCell ⟨w.heap.size,0,none⟩ (.slice va p.length vc)).setCell ⟨w.heap.size+1,0,none⟩ .nilIface) w.heap.size 52 (.slice va p.length vc)):=(a5.set (.slice va p.length vc)).other (B':=w.heap.size+1) (by omega) _;have G6:Hid (Boxed ((W2.setCell ⟨w.heap.size,0,none⟩ (.slice va p.length vc)).setCell ⟨w.heap.size+1,0,none⟩ .nilIface) (w.heap.size+1) 38 .nilIface):=a6.set .nilIface;have GS:Hid (Since w ((W2.setCell ⟨w.heap.size,0,none⟩ (.slice va p.length vc)).setCell ⟨w.heap.size+1,0,none⟩ .nilIface)):=((H7.o.trans hs2).setCell (p:=⟨w.heap.size,0,none⟩) (Nat.le_refl _) _).setCell (p:=⟨w.heap.size+1,0,none⟩) (Nat.le_succ _) _
    have hK3:((W2.setCell ⟨w.heap.size,0,none⟩ (.slice va p.length vc)).setCell ⟨w.heap.size+1,0,none⟩ .nilIface).heap[Dd]?=some (.deferred (some [])):=((KeepsOthers.setCell W2 ⟨w.heap.size,0,none⟩ (.slice va p.length vc)).trans (KeepsOthers.setCell _ _ _)).same Dd _ hK2 rfl;have HK:Hid (((W2.setCell ⟨w.heap.size,0,none⟩ (.slice va p.length vc)).setCell ⟨w.heap.size+1,0,none⟩ .nilIface).heap[Dd]?=some (.deferred (some []))):=hK3;have HS2:Hid (Since W W2):=hs2;clear a4 a5 a6 hK2 hK3 hrt hpe;have HFS:Hid (fA ((W2.setCell ⟨w.heap.size,0,none⟩ (.slice va p.length vc)).setCell ⟨w.heap.size+1,0,none⟩ .nilIface) (.slice va p.length vc) L):=by
     have h1:=(HRW.o.since hs2).set (B:=w.heap.size) (by omega) (bE H5.o hs2) (.slice va p.length vc);have h2:=h1.set (B:=w.heap.size+1) (by omega) ((bE H6.o hs2).other (B':=w.heap.size) (by omega) _) .nilIface;show fA _ _ L
     rw[←BZ.o];exact h2.AB
    have Qz:Hid (Row w.heap.size ((W2.setCell ⟨w.heap.size,0,none⟩ (.slice va p.length vc)).setCell ⟨w.heap.size+1,0,none⟩ .nilIface) (.slice va p.length vc) p):=by
     have h1:=(HRW.o.since hs2).set (B:=w.heap.size) (by omega) (bE H5.o hs2) (.slice va p.length vc);exact h1.set (B:=w.heap.size+1) (by omega) ((bE H6.o hs2).other (B':=w.heap.size) (by omega) _) .nilIface
    clear hs2
    gi_wp2
    refine⟨by simp,.inl ⟨_,_,rfl,run_takeDeferred HK.o,?_⟩⟩;have hk:∀r,some Dd=some r→∃o:Obj,((W2.setCell ⟨w.heap.size,0,none⟩ (.slice va p.length vc)).setCell ⟨w.heap.size+1,0,none⟩ .nilIface).heap[r]?=some o∧o.isCells=false:=fun r e=>by cases e;exact⟨_,HK.o,rfl⟩
    refine⟨_,kX Tryz.results40 _ _ _ w.heap.size (w.heap.size+1) _ _ (by rfl) (by rfl) (cell_kept G5.out.cell (grownBy_putObj' _ Dd (.deferred none)) hk) (cell_kept G6.out.cell (grownBy_putObj' _ Dd (.deferred none)) hk) Tryz.isAgg52 Tryz.isAgg38,?_⟩;exact⟨Or.inl ⟨L,_,HN.o,rfl,HFS.o.kept (grownBy_putObj' _ Dd (.deferred none)) hk,p,BZ.o,Qz.o.kept (grownBy_putObj' _ Dd (.deferred none)) hk⟩,Below.trans GS.out (belowK_b (w:=W0) hB0.size _ Dd _ _ ZM HK.o rfl rfl)⟩
   have HN:Hid (parse s.data.toList=none):=by
    show parse s.data.toList=none
    unfold parse;rw[HR.o];simp[hrt,hpe]
   have hcmp:(print L==s.data.toList)=false:=beq_false_of_ne hpe;have a5:=bE H5.o hs2;have a6:=(bE H6.o hs2).other (B':=w.heap.size) (by omega) (.slice none 0 0);have d5:=a5.cell;have d6:=a6.cell;have f5:=a5.frozen;have f6:=a6.frozen;have G5:Hid (Boxed ((W2.setCell ⟨w.heap.size,0,none⟩ (.slice none 0 0)).setCell ⟨w.heap.size+1,0,none⟩ (fF 3)) w.heap.size 52 (.slice none 0 0)):=(a5.set (.slice none 0 0)).other (B':=w.heap.size+1) (by omega) _;have G6:Hid (Boxed ((W2.setCell ⟨w.heap.size,0,none⟩ (.slice none 0 0)).setCell ⟨w.heap.size+1,0,none⟩ (fF 3)) (w.heap.size+1) 38 (fF 3)):=a6.set (fF 3);have GS:Hid (Since w ((W2.setCell ⟨w.heap.size,0,none⟩ (.slice none 0 0)).setCell ⟨w.heap.size+1,0,none⟩ (fF 3))):=((H7.o.trans hs2).setCell (p:=⟨w.heap.size,0,none⟩) (Nat.le_refl _) _).setCell (p:=⟨w.heap.size+1,0,none⟩) (Nat.le_succ _) _
   have hK3:((W2.setCell ⟨w.heap.size,0,none⟩ (.slice none 0 0)).setCell ⟨w.heap.size+1,0,none⟩ (fF 3)).heap[Dd]?=some (.deferred (some [])):=((KeepsOthers.setCell W2 ⟨w.heap.size,0,none⟩ (.slice none 0 0)).trans (KeepsOthers.setCell _ _ _)).same Dd _ hK2 rfl;have HK:Hid (((W2.setCell ⟨w.heap.size,0,none⟩ (.slice none 0 0)).setCell ⟨w.heap.size+1,0,none⟩ (fF 3)).heap[Dd]?=some (.deferred (some []))):=hK3;clear a5 a6 hK2 hK3 hrt hs2 hpe
   gi_wp2
   refine⟨by simp,.inl ⟨_,_,rfl,run_takeDeferred HK.o,?_⟩⟩;have hk:∀r,some Dd=some r→∃o:Obj,((W2.setCell ⟨w.heap.size,0,none⟩ (.slice none 0 0)).setCell ⟨w.heap.size+1,0,none⟩ (fF 3)).heap[r]?=some o∧o.isCells=false:=fun r e=>by cases e;exact⟨_,HK.o,rfl⟩
   refine⟨_,kX Tryz.results40 _ _ _ w.heap.size (w.heap.size+1) _ _ (by rfl) (by rfl) (cell_kept G5.out.cell (grownBy_putObj' _ Dd (.deferred none)) hk) (cell_kept G6.out.cell (grownBy_putObj' _ Dd (.deferred none)) hk) Tryz.isAgg52 Tryz.isAgg38,?_⟩;exact⟨Or.inr ⟨HN.o,rfl⟩,Below.trans GS.out (belowK_b (w:=W0) hB0.size _ Dd _ _ ZM HK.o rfl rfl)⟩
 rintro Dd c pre W ZM hpre ⟨rfl,h2,h3,h4,h5⟩ hK
 gi_wp2
 refine⟨by simp,.inl ⟨_,_,rfl,run_takeDeferred hK,?_⟩⟩;have hk:∀r,some Dd=some r→∃o:Obj,W.heap[r]?=some o∧o.isCells=false:=fun r e=>by cases e;exact⟨_,hK,rfl⟩
 refine⟨_,kX Tryz.results40 _ _ _ w.heap.size (w.heap.size+1) _ _ (by rfl) (by rfl) (cell_kept h3.cell (grownBy_putObj' _ Dd (.deferred none)) hk) (cell_kept h4.cell (grownBy_putObj' _ Dd (.deferred none)) hk) Tryz.isAgg52 Tryz.isAgg38,?_⟩;exact⟨Or.inr ⟨JD hpre h2,rfl⟩,h5.trans (belowK_b (w:=W0) hB0.size _ Dd _ _ ZM hK rfl rfl)⟩
end En
end
section
namespace En
open Go.RowKit
theorem TN {w w2:World}{b n:Nat}{g:Option Nat}{f:Nat→Value}(h:aA w b n f)(hn:0<n)(hg:w.grownBy w2 g)(hne:some b≠g):aA w2 b n f:=
 ⟨fun j hj=>by
   have hc:=h.cell j hj;rw[World.cell?_of_block (w:=w) (a:=⟨b,j,none⟩) (hg.block b (World.block_lt_of_cell? w _ hc) hne)];exact hc,fun j hj=>by
   have hc:=h.cell j hj;rw[World.frozen?_of_block (w:=w) (a:=⟨b,j,none⟩) (hg.block b (World.block_lt_of_cell? w _ hc) hne)];exact h.frozen j hj⟩
theorem grownBy_set (W:World)(b o:Nat)(v:Value):W.grownBy (W.setCell ⟨b,o,none⟩ v) (some b):=
 ⟨rfl,rfl,rfl,by simp[World.setCell],fun k _ hk=>Below.heap_setCell _ _ _ k (fun e=>hk (by rw[e]))⟩
theorem TP {W:World}{b:Nat}{v:Value}{L:List Int}{n:Nat}(hn:L.length=n)(h:W.ownsRow b 3 1 v n (bV L)):Ints W v L∧∀k o n c,v=.slice (some ⟨k,o,none⟩) n c→∃cur fz,W.heap[k]?=some (.cells cur 3 fz):=by
 subst hn;rcases h.2 with⟨hv,h0⟩ | ⟨g,cap,cur,hv,hb,hg,hc,hm,hs,ht⟩
 ·obtain rfl:=List.length_eq_zero_iff.1 h0;refine⟨⟨none,0,hv,Nat.le_refl _,fun h=>by simp at h⟩,fun k o n c e=>?_⟩;rw[hv] at e;cases e
 subst hv;refine⟨⟨some ⟨g,0,none⟩,cap,rfl,hc,fun _=>⟨g,0,rfl,bO hg,fun j x hj=>?_⟩⟩,fun k o n c e=>?_⟩
 ·have hj2:=(List.getElem?_eq_some_iff.1 hj).1;rw[Nat.zero_add,h.cellAt j (by omega)];simp[bV,hj]
 injection e with e
 injection e with e
 injection e with e
 subst e;exact⟨_,_,hg⟩
structure oM (b:Nat)(W:World)(v:Value)(p:List (Fi × Value)):Prop where
 own:W.ownsRow b 129 3 v p.length (gy p)
 ints:∀x,x ∈ p→Ints W x.2 x.1.cs
 typ:∀x,x ∈ p→∀k o n c,x.2=.slice (some ⟨k,o,none⟩) n c→∃cur fz,W.heap[k]?=some (.cells cur 3 fz)
 new:∀x,x ∈ p→∀k o n c,x.2=.slice (some ⟨k,o,none⟩) n c→b≤k
theorem oM.AB {b:Nat}{W:World}{v:Value}{p:List (Fi × Value)}(h:oM b W v p):fA W v (p.map (fun x=>x.1)):=by
 rcases h.own.2 with⟨hv,h0⟩ | ⟨g,cap,cur,hv,hb,hg,hc,hm,hs,ht⟩
 ·obtain rfl:=List.length_eq_zero_iff.1 h0;exact⟨none,0,hv,Nat.le_refl _,fun h=>by simp at h⟩
 subst hv;refine⟨some ⟨g,0,none⟩,cap,by rw[List.length_map],by rw[List.length_map];exact hc,fun _=>⟨g,0,rfl,bO hg,fun j f hj=>?_⟩⟩;rw[List.getElem?_map] at hj;cases hx:p[j]? with
 | none=>rw[hx] at hj;cases hj
 | some x=>
  rw[hx] at hj;injection hj with hj
  subst hj;have hjl:=(List.getElem?_eq_some_iff.1 hx).1;obtain⟨e1,e2,e3⟩:=qQ p j x hx;have c:=fun i hi=>h.own.cellAt i hi
  refine⟨x.2,h.ints x (List.mem_of_getElem? hx),?_,?_,?_⟩
  ·rw[Nat.zero_add,c _ (by omega)];exact e1
  ·rw[Nat.zero_add,c _ (by omega)];exact e2
  rw[Nat.zero_add,c _ (by omega)];exact e3
theorem oM.since {b:Nat}{W W':World}{v:Value}{p:List (Fi × Value)}(h:oM b W v p)(hs:Since W W'):oM b W' v p:=
 ⟨bf h.own hs,fun x hx=>(h.ints x hx).since hs,fun x hx k o n c e=>by
  obtain⟨cur,fz,h2⟩:=h.typ x hx k o n c e;exact⟨cur,fz,(hs.block k (bO h2)).trans h2⟩,h.new⟩
theorem oM.more {b:Nat}{W W1 W':World}{v v':Value}{p:List (Fi × Value)}{f:Fi}{cv:Value}(h:oM b W v p)(hs:Since W W1)(hi:Ints W1 cv f.cs)(ht:∀k o n c,cv=.slice (some ⟨k,o,none⟩) n c→∃cur fz,W1.heap[k]?=some (.cells cur 3 fz))(hnw:∀k o n c,cv=.slice (some ⟨k,o,none⟩) n c→b≤k)(hown:W'.ownsRow b 129 3 v' (p.length+1) (gy p++[.string f.nm,.int .i64 f.sz,cv]))(hg:W1.grownBy W' v.ownBlock):oM b W' v' (p++[(f,cv)]):=by
 have h1:=h.since hs;have key:∀y,y ∈ p++[(f,cv)]→Ints W1 y.2 y.1.cs∧∀k o n c,y.2=.slice (some ⟨k,o,none⟩) n c→∃cur fz,W1.heap[k]?=some (.cells cur 3 fz):=fun y hy=>by
  rcases List.mem_append.1 hy with hy | hy
  ·exact⟨h1.ints y hy,h1.typ y hy⟩
  rw[List.mem_singleton] at hy;subst hy;exact⟨hi,ht⟩
 have hnr:∀y,y ∈ p++[(f,cv)]→∀k o n c,y.2=.slice (some ⟨k,o,none⟩) n c→v.ownBlock≠some k:=fun y hy k o n c e e2=>by
  obtain⟨cur,fz,h2⟩:=(key y hy).2 k o n c e;rcases h1.own.2 with⟨h,_⟩ | ⟨g,cap,a7M,h,_,h3,_⟩
  ·rw[h] at e2;cases e2
  rw[h] at e2;injection e2 with e2
  have e3:g=k:=e2;subst e3;rw[h3] at h2;injection h2 with h2
  injection h2 with _ h2
  cases h2
 refine⟨?_,fun y hy=>(key y hy).1.grown hg (hnr y hy),fun y hy k o n c e=>?_,fun y hy=>?_⟩
 ·rw[List.length_append,uU];exact hown
 ·obtain⟨cur,fz,h2⟩:=(key y hy).2 k o n c e;exact⟨cur,fz,(hg.block k (bO h2) (fun e2=>hnr y hy k o n c e e2.symm)).trans h2⟩
 rcases List.mem_append.1 hy with hy | hy
 ·exact h.new y hy
 rw[List.mem_singleton] at hy;subst hy;exact hnw
def vU (s:ByteArray)(c:UInt8):List ByteArray:=Lib.splitB ⟨#[c]⟩ 0 (Lib.countB s ⟨#[c]⟩) s
theorem EL (s:ByteArray)(c:UInt8):(vU s c).map (fun x=>x.data.toList)=Lib.split s.data.toList [c]:=by
 unfold vU;rw[Lib.splitB_data]
 rfl
theorem vV (s:ByteArray)(c:UInt8):(vU s c).length=Lib.countB s ⟨#[c]⟩+1:=Lib.splitB_all ⟨#[c]⟩ (Nat.le_refl 1) 0 _ s rfl
theorem JE (s:ByteArray)(c:UInt8):(vU s c).length≤s.size+1:=by
 rw[vV];have:=Lib.countB_le ⟨#[c]⟩ (Nat.le_refl 1) s.size s (Nat.le_refl _);omega
theorem AC (s:ByteArray)(c:UInt8)(hs:s.size≤100000)(w:World)(h:Lb w) :
  Calls Tryz.prog 87 #[.string s,.string ⟨#[c]⟩] w fun e w'=>e=.returned (.slice (some ⟨w.heap.size,0,none⟩) (vU s c).length (vU s c).length)∧w'=w.alloc (.cells ((vU s c).map Value.string).toArray 9):=by
 obtain⟨m,hm⟩:=h.max;have:=Tryz.strings_Split s ⟨#[c]⟩ m w (by omega) hm (Nat.le_refl 1);rw[←vV] at this;exact this
theorem EM (t:List UInt8):-9223372036854775808≤gN t∧gN t≤9223372036854775807:=by
 unfold gN;cases h:Lib.atoiAll t with
 | ok v=>exact Lib.atoiAll_bounds h
 | «syntax»=>exact⟨show -9223372036854775808≤(0:Int) by decide,show (0:Int)≤9223372036854775807 by decide⟩
 | range=>exact Lib.atoiSat_bounds t
def a0w (V:List ByteArray):Fi:=⟨V.getD 0 ⟨#[]⟩,gN (V.getD 1 ⟨#[]⟩).data.toList,((V.drop 2).take (V.length-3)).map (fun x=>gN x.data.toList)⟩
theorem MV (t:ByteArray):a0w (vU (t++⟨#[32]⟩) 32)=gK t.data.toList:=by
 have e:(vU (t++⟨#[32]⟩) 32).map (fun x=>x.data.toList)=Lib.split (t.data.toList++[32]) [32]:=by
  rw[EL];have:(t++⟨#[32]⟩:ByteArray).data.toList=t.data.toList++[32]:=by simp[ByteArray.data_append]
  rw[this]
 unfold a0w gK;rw[←e];generalize vU (t++⟨#[32]⟩) 32=V;simp only[List.length_map,←List.map_drop,←List.map_take,List.map_map];have h0:∀i,((V.map (fun x=>x.data.toList)).getD i [])=(V.getD i ⟨#[]⟩).data.toList:=fun i=>by
  simp only[List.getD,List.getElem?_map];cases V[i]?<;>rfl
 rw[h0,h0]
 rfl
theorem Pw (s:ByteArray):(vU s 10).dropLast.map (fun t=>gK t.data.toList)=(oH s.data.toList).map gK:=by
 unfold oH;rw[←EL,←List.map_dropLast,List.map_map]
 rfl
theorem uq (s:ByteArray)(c:UInt8):∀x,x ∈ vU s c→x.size≤s.size:=ng _ _ s s.size (Nat.le_refl _)
theorem MW (t:ByteArray):2≤(vU (t++⟨#[32]⟩) 32).length:=by
 rw[vV];have h:Lib.countB (t++⟨#[32]⟩) ⟨#[32]⟩=Lib.count (t++⟨#[32]⟩:ByteArray).data.toList [32]:=rfl;have e:(t++⟨#[32]⟩:ByteArray).data.toList=t.data.toList++[32]:=by simp[ByteArray.data_append]
 rw[h,Lib.count_one,e,List.count_append];simp
def TQ (V:List ByteArray)(m:Nat):List Int:=((V.drop 2).take m).map (fun x=>gN x.data.toList)
theorem TR (V:List ByteArray)(m:Nat)(h:m+2<V.length):TQ V (m+1)=TQ V m++[gN V[m+2].data.toList]:=by
 unfold TQ;rw[List.take_add_one,List.getElem?_drop,show 2+m=m+2 by omega,List.getElem?_eq_getElem h];simp
theorem Xv (V:List ByteArray)(m:Nat)(h:m+2≤V.length):(TQ V m).length=m:=by
 unfold TQ;simp;omega
theorem EN (t:ByteArray)(h:t.size≤400):(gK t.data.toList).cs.length≤1000∧(gK t.data.toList).nm.size≤100000:=by
 rw[←MV];have htz:(t++(⟨#[32]⟩:ByteArray)).size≤401:=by
  rw[ByteArray.size_append];have:(⟨#[32]⟩:ByteArray).size=1:=rfl;omega
 have h1:=JE (t++⟨#[32]⟩) 32;have h2:=uq (t++⟨#[32]⟩) 32;have h3:=MW t;generalize vU (t++⟨#[32]⟩) 32=V at *;constructor
 ·show (((V.drop 2).take (V.length-3)).map (fun x=>gN x.data.toList)).length≤1000
  simp;omega
 show (V.getD 0 ⟨#[]⟩).size≤100000
 rw[List.getD,List.getElem?_eq_getElem (by omega)];have:=h2 V[0] (List.getElem_mem _);show V[0].size≤100000
 omega
theorem JF (s:ByteArray)(hs:s.size≤400)(w:World)(hb:Lb w) :
  Calls Tryz.prog 35 #[.string s] w fun e w'=>((∃l v,eP s.data.toList=some l∧e=.returned (.tuple #[v,.int .i64 0])∧fA w' v l∧∃b p,w.heap.size≤b∧p.map (fun x:Fi × Value=>x.1)=l∧oM b w' v p)∨(eP s.data.toList=none∧e=.returned (.tuple #[.slice none 0 0,.int .i64 3])))∧Since w w':=by
 have HB:=hid hb;have hsp:=AC s 10 (by omega) w hb;have hle:=JE s 10;have h1:1≤(vU s 10).length:=by rw[vV];omega
 have HLR:=hid (Pw s);have HSM:Hid (∀x,x ∈ vU s 10→x.size≤400):=fun x hx=>Nat.le_trans (uq s 10 x hx) hs
 have HDL:Hid ((vU s 10).dropLast.length=(vU s 10).length-1):=List.length_dropLast;have HDG:Hid (∀k,k<(vU s 10).length-1→(vU s 10).dropLast[k]?=(vU s 10)[k]?):=fun k hk=>by
  rw[List.dropLast_eq_take,List.getElem?_take_of_lt hk]
 generalize vU s 10=D at *;have qI:Hid (Since w (w.alloc (.cells (D.map Value.string).toArray 9))):=(Since.refl w).alloc _;have VD:Hid (∀k (hk:k<D.length),(w.alloc (.cells (D.map Value.string).toArray 9)).cell? ⟨w.heap.size,k,none⟩=some (.string D[k])):=fun k hk=>by
  rw[World.cell?_alloc_new];simp[hk]
 clear hb;go_enter Tryz.func35,Tryz.ntmps35
 go_wp2_with fail
 refine hsp.mono ?_;rintro e w0 ⟨rfl,hw0⟩;rw[←hw0] at qI VD;clear hw0 hsp;have hD1:(1:Int)≤D.length:=by omega
 have hD2:(0:Int)≤(D.length:Int)-1:=by omega
 have hD3:(D.length:Int)-1≤D.length:=by omega
 go_wp2_with fail
 have HB0:=hid (HB.o.since qI.o);obtain⟨i0,hi,hz0,hz1,hz2⟩:=info_parts info3';have HI3:=hid (an hi (an hz0 (an hz1 hz2)));clear hi hz0 hz1 hz2;obtain⟨iF,hi,hz0,hz1,hz2⟩:=info_parts yz;have TS:=hid (an hi (an hz0 (an hz1 hz2)));clear hi hz0 hz1 hz2;go_loopw [23,4,7,8,9,10,11,12] (fun i v _ _ _ _ _ _ wr=>∃(k:Nat) (p:List (Fi × Value)),k≤D.length-1∧i=.int .i64 k∧p.map (fun x=>x.1)=(D.take k).map (fun t=>gK t.data.toList)∧oM w0.heap.size wr v p∧Since w0 wr) (fun i _ _ _ _ _ _ _ _=>D.length-1-(intOf i).toNat)
 case atStart=>exact⟨0,[],by omega,rfl,rfl,⟨World.ownsRow_nil _ _ _ _,(fun x hx=>by cases hx),(fun x hx=>by cases hx),(fun x hx=>by cases hx)⟩,Since.refl _⟩
 obtain⟨k,p,hk,rfl,hpm,hrow,hs⟩:=hrel;have Wm:=hid hpm;have BZ:Hid (p.length=k):=by
  show p.length=k
  have:=congrArg List.length hpm;simp at this;omega
 have Px:=hid hrow;have HS:=hid hs;clear hpm hrow hs;by_cases hlt:k<D.length-1
 ·have hlt2:(k:Int)<((D.length-1:Nat):Int):=by omega
  have hkD:k<D.length:=by omega
  have q:=(HS.o.cell (p:=⟨w.heap.size,k,none⟩) (World.block_lt_of_cell? _ _ (VD.o k hkD))).trans (VD.o k hkD);have HTS:=hid (HSM.o D[k] (List.getElem_mem hkD));have HPN:Hid ((D.take (k+1)).map (fun t=>gK t.data.toList)=(D.take k).map (fun t=>gK t.data.toList)++[gK D[k].data.toList]):=by
   show (D.take (k+1)).map (fun t=>gK t.data.toList)=_
   rw[lW D k hkD,List.map_append]
   rfl
  generalize D[k]=t at *;have hts:=HTS.o;have htz:(t++(⟨#[32]⟩:ByteArray)).size≤401:=by
   rw[ByteArray.size_append];have:(⟨#[32]⟩:ByteArray).size=1:=rfl;omega
  have hsp2:=AC (t++⟨#[32]⟩) 32 (by omega) wr (HB0.o.since HS.o);have hV2:=MW t;have hVl:=JE (t++⟨#[32]⟩) 32;have HFE:=hid (MV t);have HVS:Hid (∀x,x ∈ vU (t++⟨#[32]⟩) 32→x.size≤401):=fun x hx=>Nat.le_trans (uq _ 32 x hx) htz
  have HSP:=hid hsp2;clear hsp2;generalize vU (t++⟨#[32]⟩) 32=V at *;have HSV:Hid (Since wr (wr.alloc (.cells (V.map Value.string).toArray 9))):=(Since.refl wr).alloc _;have HCV:Hid (∀k (hk:k<V.length),(wr.alloc (.cells (V.map Value.string).toArray 9)).cell? ⟨wr.heap.size,k,none⟩=some (.string V[k])):=fun k hk=>by
   rw[World.cell?_alloc_new];simp[hk]
  go_wp2_with fail
  refine HSP.o.mono ?_;rintro e wv ⟨rfl,hwv⟩;rw[←hwv] at HSV HCV;clear hwv HSP;have b3P:(2:Int)≤V.length:=by omega
  have b3Q:(1:Int)<V.length:=by omega
  have b3R:(0:Int)<V.length:=by omega
  have q0:=HCV.o 0 (by omega);have HG0:Hid (V.getD 0 ⟨#[]⟩=V[0]):=by show V.getD 0 ⟨#[]⟩=V[0];rw[List.getD,List.getElem?_eq_getElem (by omega)];rfl
  have rq:Hid (V.getD 1 ⟨#[]⟩=V[1]):=by show V.getD 1 ⟨#[]⟩=V[1];rw[List.getD,List.getElem?_eq_getElem (by omega)];rfl
  have a7N:Hid (V[1].size≤401):=HVS.o V[1] (List.getElem_mem _);have HQ1:=hid (HCV.o 1 (by omega));have jm:Hid (aA (wv.alloc (.cells #[.string V[0],.int .i64 0,.slice none 0 0] 129)) wv.heap.size 3 (fun j=>(#[.string V[0],.int .i64 0,.slice none 0 0]:Array Value).getD j undef)):=aA.new wv 3 _ _ _ (fun j hj=>by
   obtain rfl | rfl | rfl:j=0∨j=1∨j=2:=by omega
   all_goals rfl) _ rfl
  have Pm:Hid (Since wv (wv.alloc (.cells #[.string V[0],.int .i64 0,.slice none 0 0] 129))):=(Since.refl _).alloc _;generalize V[0]=n0 at *;generalize V[1]=n1 at *;go_upto_region 8 with fail
  generalize wv.alloc (.cells #[.string n0,.int .i64 0,.slice none 0 0] 129)=wb at *;have q1:=(Pm.o.cell (p:=⟨wr.heap.size,1,none⟩) (World.block_lt_of_cell? _ _ HQ1.o)).trans HQ1.o;clear q0 q;go_wp2_with fail
  refine(yj n1 (by have:=a7N.o;omega) _ (((HB0.o.since HS.o).since HSV.o).since Pm.o)).mono ?_;rintro e wa ⟨⟨er,rfl,_⟩,ha⟩;have Ho:=hid (jm.o.since ha);have a4F:=hid (Pm.o.trans ha);have hbl:wv.heap.size<wb.heap.size:=jm.o.lt (by omega);have hal:=ha.size;clear ha q1;have b1:=Ho.o.cell 1 (by omega);have f1:=Ho.o.frozen 1 (by omega);have HBC:Hid (aA (wa.setCell ⟨wv.heap.size,1,none⟩ (.int .i64 (gN n1.data.toList))) wv.heap.size 3 (fun j=>(#[.string n0,.int .i64 (gN n1.data.toList),.slice none 0 0]:Array Value).getD j undef)):=(Ho.o.set 1 (by omega) _).congr (fun j hj=>by
   obtain rfl | rfl | rfl:j=0∨j=1∨j=2:=by omega
   all_goals rfl)
  have QA:Hid (Since wv (wa.setCell ⟨wv.heap.size,1,none⟩ (.int .i64 (gN n1.data.toList)))):=a4F.o.setCell (p:=⟨wv.heap.size,1,none⟩) (Nat.le_refl _) _;have hsz:(wa.setCell ⟨wv.heap.size,1,none⟩ (.int .i64 (gN n1.data.toList))).heap.size=wa.heap.size:=by simp[World.setCell]
  go_upto_region 9 with fail
  generalize wa.setCell ⟨wv.heap.size,1,none⟩ (.int .i64 (gN n1.data.toList))=ws at *;clear b1 f1 Ho jm a4F;obtain⟨wo,hwo⟩:∃wo,wo=wr:=⟨_,rfl⟩
  subst hwo;go_wp2_with fail
  go_loopw [10,11,12] (fun i _ _ wq=>∃(m:Nat) (cq:Value),m≤V.length-3∧i=.int .i64 ((m:Int)+2)∧aA wq wv.heap.size 3 (fun j=>(#[.string n0,.int .i64 (gN n1.data.toList),cq]:Array Value).getD j undef)∧wq.ownsRow (wv.heap.size+1) 3 1 cq m (bV (TQ V m))∧Since wv wq) (fun i _ _ _=>V.length-(intOf i).toNat)
  case atStart=>exact⟨0,.slice none 0 0,by omega,rfl,HBC.o,World.ownsRow_nil _ _ _ _,QA.o⟩
  obtain⟨m,cq,hm,rfl,hbx,hown,hsq⟩:=hrel;have HBQ:=hid hbx;have HOQ:=hid hown;have HSQ:=hid hsq;clear hbx hown hsq;obtain⟨qa,qc,rfl⟩:∃qa qc,cq=.slice qa m qc:=by
   rcases HOQ.o.2 with⟨h,h0⟩ | ⟨g,cap,cur,h,_⟩
   ·exact⟨none,0,by rw[h,h0]⟩
   exact⟨_,_,h⟩
  by_cases Qt:m+3<V.length
  ·have hmI:(m:Int)+2<(V.length:Int)-1:=by omega
   have hmV:m+2<V.length:=by omega
   have b3V:(m:Int)+2<(V.length:Int):=by omega
   have q0:=HCV.o (m+2) hmV;have q:=(HSQ.o.cell (p:=⟨wo.heap.size,m+2,none⟩) (World.block_lt_of_cell? _ _ q0)).trans q0;have HXS:=hid (HVS.o V[m+2] (List.getElem_mem hmV));have HNS:=hid (TR V m hmV);clear q0;generalize V[m+2]=x at *;go_wp2_with fail
   refine(yj x (by have:=HXS.o;omega) _ ((((HB0.o.since HS.o).since HSV.o).since HSQ.o))).mono ?_;rintro e wa2 ⟨⟨er2,rfl,_⟩,ha⟩;have HB2:=hid (HBQ.o.since ha);have Cb:=hid (bf HOQ.o ha);have HS2:=hid (HSQ.o.trans ha);clear ha q;generalize gN x.data.toList=nv at *;have hlt2:wv.heap.size<wa2.heap.size:=HB2.o.lt (by omega);have b2:=HB2.o.cell 2 (by omega);have b1I:m≤1000:=by omega
   go_wp2_with (at_builtin;refine wpList_append_own _ (by rfl) _ _ _ (by rfl) (wv.heap.size+1) 3 i0 _ 1 8 Tryz.underlying61 HI3.o.1 HI3.o.2.1 HI3.o.2.2.1 HI3.o.2.2.2 (by rfl) (by decide) _ m (bV (TQ V m)) (by rfl) (World.ownsRow.alloc Cb.o _) ⟨wa2.heap.size,0,none⟩ 1 1 [.int .i64 nv] (by rfl) (by rfl) (World.news_of_block (heap_alloc_new wa2 _)) (by simp[Value.oneCell']) (by unfold maxLen;omega) (by omega) (by have:=HS2.o.size;simp;omega) ?_;intro x' w5 hown1 hgrow _;obtain⟨g',cap',rfl⟩:=ownsRow_succ hown1;have hv1:=TN (HB2.o.since ((Since.refl wa2).alloc (.cells #[.int .i64 nv] 3))) (by omega) hgrow (fun e=>by have:=(Cb.o.lt _ e.symm).1;omega);have c2:=hv1.cell 2 (by omega);have f2:=hv1.frozen 2 (by omega))
   have hk1:Since wv w5:=Below.grown (Below.mono (HS2.o.alloc (.cells #[.int .i64 nv] 3)) (Nat.le_refl _)) hgrow (by have:=HS2.o.size;simp;omega) (fun j hj=>by have:=(Cb.o.lt j hj).1;omega);refine⟨⟨m+1,.slice (some ⟨g',0,none⟩) (m+1) cap',by omega,by simp;omega,?_,?_,?_⟩,?_⟩
   ·exact(hv1.set 2 (by omega) _).congr (fun j hj=>by
     obtain rfl | rfl | rfl:j=0∨j=1∨j=2:=by omega
     all_goals rfl)
   ·rw[HNS.o];have h6:=hown1.kept (grownBy_set w5 wv.heap.size 2 (.slice (some ⟨g',0,none⟩) (m+1) cap')) (.inr (fun e=>by
     have:=(hown1.lt _ e).1;omega))
    simpa [bV] using h6
   ·exact hk1.setCell (p:=⟨wv.heap.size,2,none⟩) (Nat.le_refl _) _
   simp[intOf];omega
  have hmI:¬((m:Int)+2<(V.length:Int)-1):=by omega
  have hmE:m=V.length-3:=by omega
  have HFI:Hid (gK t.data.toList=⟨n0,gN n1.data.toList,TQ V m⟩):=by
   show gK t.data.toList=_
   rw[←HFE.o];unfold a0w TQ;rw[HG0.o,rq.o,hmE]
  clear hmE;obtain⟨hin,hty⟩:=TP (Xv V m (by omega)) HOQ.o;have DY:=hid hin;have HTY:=hid hty;have HR1:=hid ((Px.o.since HSV.o).since HSQ.o);have kN:=hid ((HS.o.trans HSV.o).trans HSQ.o);obtain⟨va,vc,rfl⟩:∃va vc,u4=.slice va k vc:=by
   rcases HR1.o.own.2 with⟨h,h0⟩ | ⟨g,cap,cur,h,_⟩
   ·exact⟨none,0,by rw[h,←BZ.o,h0]⟩
   exact⟨_,_,by rw[h,BZ.o]⟩
  have HOW:Hid (wr.ownsRow w0.heap.size 129 3 (.slice va k vc) k (gy p)):=by
   have:=HR1.o.own;rw[BZ.o] at this;exact this
  have x0:=HBQ.o.cell 0 (by omega);have x1:=HBQ.o.cell 1 (by omega);have x2:=HBQ.o.cell 2 (by omega);clear hin hty;go_wp2_with (at_builtin;refine wpList_append_own _ (by rfl) _ _ _ (by rfl) w0.heap.size 129 iF _ 3 48 Tryz.underlying52 TS.o.1 TS.o.2.1 TS.o.2.2.1 TS.o.2.2.2 (by rfl) (by decide) _ k (gy p) (by rfl) (World.ownsRow.alloc HOW.o _) ⟨wr.heap.size,0,none⟩ 1 1 [.string n0,.int .i64 (gN n1.data.toList),.slice qa m qc] (by rfl) (by rfl) (World.news_of_block (heap_alloc_new wr _)) (by simp[Value.oneCell']) (by unfold maxLen;omega) (by omega) (by have:=kN.o.size;simp;omega) ?_;intro x' w5 hown1 hgrow _;obtain⟨g',cap',rfl⟩:=ownsRow_succ hown1)
  have hmore:=oM.more (f:=⟨n0,gN n1.data.toList,TQ V m⟩) HR1.o ((Since.refl wr).alloc (.cells #[.string n0,.int .i64 (gN n1.data.toList),.slice qa m qc] 129)) (DY.o.since ((Since.refl wr).alloc _)) (fun k o n c e=>by
   obtain⟨cur,fz,h2⟩:=HTY.o k o n c e;exact⟨cur,fz,(((Since.refl wr).alloc _).block k (bO h2)).trans h2⟩) (fun k o n c e=>by
   have h1:=(HOQ.o.lt k (by rw[e];rfl)).1;have h2:=HS.o.size;have h3:=HSV.o.size;omega) (by rw[BZ.o];exact hown1) hgrow
  have hk1:Since w0 w5:=Below.grown (Below.mono (kN.o.alloc (.cells #[.string n0,.int .i64 (gN n1.data.toList),.slice qa m qc] 129)) (Nat.le_refl _)) hgrow (by have:=kN.o.size;simp;omega) (fun j hj=>by have:=(HOW.o.lt j hj).1;omega);refine⟨⟨k+1,p++[(⟨n0,gN n1.data.toList,TQ V m⟩,.slice qa m qc)],by omega,by simp,?_,hmore,hk1⟩,?_⟩
  ·rw[HPN.o,List.map_append,Wm.o,HFI.o]
   rfl
  simp[intOf];omega
 have hlt2:¬((k:Int)<((D.length-1:Nat):Int)):=by omega
 have hkE:k=D.length-1:=by omega
 have HL:Hid (p.map (fun x=>x.1)=(oH s.data.toList).map gK):=by
  show p.map (fun x=>x.1)=_
  rw[Wm.o,←HLR.o,hkE,List.dropLast_eq_take]
 have BN:Hid (∀f,f ∈ p.map (fun x=>x.1)→f.cs.length≤1000∧f.nm.size≤100000):=fun f hf=>by
  rw[Wm.o] at hf;obtain⟨t,ht,rfl⟩:=List.mem_map.1 hf;exact EN t (HSM.o t (List.mem_of_mem_take ht))
 have Cx:=hid Px.o.AB;have He:Hid ((p.map (fun x=>x.1)).length≤1000):=by
  show (p.map (fun x=>x.1)).length≤1000
  rw[List.length_map,BZ.o];omega
 have IZ:Hid (lV (p.map (fun x=>x.1))):=fun f hf=>by
  rw[Wm.o] at hf;obtain⟨t,ht,rfl⟩:=List.mem_map.1 hf;exact EM _
 have Xw:Hid (eP s.data.toList=if right (p.map (fun x=>x.1))=true∧print (p.map (fun x=>x.1))=s.data.toList then some (p.map (fun x=>x.1)) else none):=by
  show eP _=_
  unfold eP;rw[HL.o]
 have HRW:Hid (∃b q,w.heap.size≤b∧q.map (fun x:Fi × Value=>x.1)=p.map (fun x=>x.1)∧oM b wr u4 q):=⟨w0.heap.size,p,qI.o.size,rfl,Px.o⟩
 clear Px;generalize p.map (fun x=>x.1)=l at *;have HSF:=hid (qI.o.trans HS.o);have HBF:=hid (HB0.o.since HS.o);cases hr:right l with
 | false=>
  have HN:Hid (eP s.data.toList=none):=by
   show eP _=_
   rw[Xw.o,hr];simp
  go_wp2_with fail
  refine(Ps l u4 wr Cx.o IZ.o He.o BN.o hr).mono ?_;rintro e wz ⟨rfl,hz⟩;go_wp2_with fail
  go_ret2;exact⟨Or.inr ⟨HN.o,rfl⟩,HSF.o.trans hz⟩
 | true=>
  cases hp:(print l==s.data.toList) with
  | false=>
   have HN:Hid (eP s.data.toList=none):=by
    show eP _=_
    rw[Xw.o,if_neg (fun h=>by rw[h.2] at hp;simp at hp)]
   have hne:(print l==s.toList)=false:=by rw[Lib.toList_data];exact hp
   go_wp2_with fail
   refine(qP l u4 wr Cx.o HBF.o hr).mono ?_;rintro e wz ⟨rfl,hz⟩;go_wp2_with fail
   go_ret2;exact⟨Or.inr ⟨HN.o,rfl⟩,HSF.o.trans hz⟩
  | true=>
   have hp2:print l=s.data.toList:=by simpa using hp
   have HN:Hid (eP s.data.toList=some l):=by
    show eP _=_
    rw[Xw.o,if_pos ⟨hr,hp2⟩]
   have hE:(⟨(print l).toArray⟩:ByteArray)=s:=by rw[hp2]
   go_wp2_with fail
   refine(qP l u4 wr Cx.o HBF.o hr).mono ?_;rintro e wz ⟨rfl,hz⟩;rw[hE];have hss:(s.data.toList==s.data.toList)=true:=by simp
   go_wp2_with fail
   go_ret2;obtain⟨b,q,hb1,hb2,hb3⟩:=HRW.o;exact⟨Or.inl ⟨l,u4,HN.o,rfl,Cx.o.since hz,b,q,hb1,hb2,hb3.since hz⟩,HSF.o.trans hz⟩
end En
end
section
namespace En
open Go.RowKit
theorem Xx {L:List Int}{p:Int}(h:p ∉ L):put L p=L++[p]:=by
 unfold put;rw[if_neg h]
theorem jZ (l:List Fi)(v:Value)(w:World)(hl:fA w v l)(hr:right l=true) :
  Calls Tryz.prog 52 #[v] w fun e w'=>∃x,e=.returned x∧w'.ownsRow w.heap.size 3 1 x (bD l).length (bV (bD l))∧Since w w':=by
 obtain⟨a,c,rfl,hcap,hrest⟩:=hl;have HL:Hid (fA w (.slice a l.length c) l):=⟨a,c,rfl,hcap,hrest⟩
 have hr2:=hr;rw[right,Bool.and_eq_true,decide_eq_true_eq] at hr2;have Cw:=hr2.1;have HN:Hid ((∀c,c ∈ bi l→3≤c∧c<24)∧(bi l).Nodup):=by
  obtain⟨h1,h2,_⟩:=gZ l _ _ hr2.2;exact⟨h1,h2⟩
 have HG:=hid (fw hr);clear hrest hr hr2;have hmm:=@run_makeMap Tryz.prog;have HM:=hid ((MapKept.heap_alloc w (.map #[] 0)).1);have qI:Hid (Since w (w.alloc (.map #[] 0))):=(Since.refl _).alloc _;go_enter Tryz.func52,Tryz.ntmps52
 go_upto_region 2 with fail
 clear hmm;generalize w.alloc (.map #[] 0)=w0 at *;go_wp2_with fail
 go_loopw [13,5,7] (fun i _ _ wr=>∃k:Nat,k≤l.length∧i=.int .i64 k∧aS wr w.heap.size (.bool true) (bi (l.take k))∧Since w wr) (fun i _ _ _=>l.length-(intOf i).toNat)
 case atStart=>exact⟨0,by omega,rfl,HM.o,qI.o⟩
 obtain⟨k,hk,rfl,hset,hs⟩:=hrel;have jl:=hid hset;have HS:=hid hs;clear hset hs;by_cases hlt:k<l.length
 ·have hlt2:(k:Int)<l.length:=by omega
  have hE:Hid (l[k]?=some l[k]):=List.getElem?_eq_getElem hlt;have Pn:=hid (HG.o l[k] (List.getElem_mem hlt));have HAT:=hid (Aw l k l[k] hE.out);have Qz:Hid (∀j c,l[k].cs[j]?=some c→c ∉ bi (l.take k)++l[k].cs.take j):=fun j c hj=>yo HN.o.2 hE.out hj
  generalize l[k]=f at *;obtain⟨kb,ko,cv,rfl,hi,hkb,q0,q1,q2⟩:=(HL.o.since HS.o).at_ hE.out;have HI:=hid hi;clear hi;obtain⟨ca,cc,rfl⟩:∃ca cc,cv=.slice ca f.cs.length cc:=by
   obtain⟨ca,cc,h,_⟩:=HI.o;exact⟨ca,cc,h⟩
  have kN:Hid (Since wr (wr.alloc (.cells #[.string f.nm,.int .i64 f.sz,.slice ca f.cs.length cc] 129))):=(Since.refl _).alloc _;have hcl:=Pn.o.Am;go_wp2_with fail
  have EF:=hid (jl.o.since kN.o);have HI1:=hid (HI.o.since kN.o);have cK:=hid (HS.o.trans kN.o);clear q0 q1 q2 kN HI jl HS;generalize wr.alloc (.cells #[.string f.nm,.int .i64 f.sz,.slice ca f.cs.length cc] 129)=w1 at *;go_loopw [20,7] (fun i _ wq=>∃j:Nat,j≤f.cs.length∧i=.int .i64 j∧aS wq w.heap.size (.bool true) (bi (l.take k)++f.cs.take j)∧Ints wq (.slice ca f.cs.length cc) f.cs∧Since w wq) (fun i _ _=>f.cs.length-(intOf i).toNat)
  case atStart=>exact⟨0,by omega,rfl,by simpa using EF.o,HI1.o,cK.o⟩
  obtain⟨j,hj,rfl,hset,hi,hs⟩:=hrel;have jl:=hid hset;have HI:=hid hi;have HS:=hid hs;clear hset hi hs;by_cases hjl:j<f.cs.length
  ·have Xt:(j:Int)<f.cs.length:=by omega
   obtain⟨a',c',hv,_,h2⟩:=HI.o;obtain⟨ib,io,ha,_,hcell⟩:=h2 (by omega);injection hv with e1 e2 e3
   subst e1;subst ha;have q:=hcell j f.cs[j] (List.getElem?_eq_getElem hjl);have TG:=Qz.o j f.cs[j] (List.getElem?_eq_getElem hjl);have hrg:=Pn.o.cell f.cs[j] (List.getElem_mem hjl);have HE:Hid (bi (l.take k)++f.cs.take (j+1)=bi (l.take k)++f.cs.take j++[f.cs[j]]):=by
    show bi (l.take k)++f.cs.take (j+1)=_
    rw[lW _ _ hjl];simp
   clear hcell h2 e2 e3;generalize f.cs[j]=x at *;have hup:=AA wr w.heap.size _ x jl.o;rw[Xx TG] at hup;clear TG;go_wp2_with fail
   go_roundw
   case rel=>exact⟨j+1,by omega,by go_num,by rw[HE.o];simp only[List.append_assoc];exact sG jl.o,HI.o.fr jl.o (jM _ _ _ _),Fr.since (jM _ _ _ _) HS.o (Nat.le_refl _) (fun k e=>by cases e)⟩
   case measure=>simp[intOf];omega
  have JB:j=f.cs.length:=by omega
  subst JB;rw[List.take_length] at jl;have TH:Hid (aS wr w.heap.size (.bool true) (bi (l.take (k+1)))):=by
   show aS wr _ _ (bi (l.take (k+1)))
   rw[HAT.o];exact jl.o
  go_wp2_with fail
  go_roundw
  case rel=>exact⟨k+1,by omega,by go_num,TH.o,HS.o⟩
  case measure=>simp[intOf];omega
 have hke:k=l.length:=by omega
 subst hke;rw[List.take_length] at jl;obtain⟨i0,hi,hz0,hz1,hz2⟩:=info_parts info3';have HI:=hid (an hi (an hz0 (an hz1 hz2)));clear hi hz0 hz1 hz2;have Oj:=hid (Ar l);have TI:=hid jl.o;generalize bi l=A at *;go_wp2_with fail
 go_loopw [9,8] (fun i x wq=>∃k:Nat,k≤21∧i=.int .i64 ((k:Int)+3)∧wq.ownsRow (w.heap.size+1) 3 1 x (eD A k).length (bV (eD A k))∧aS wq w.heap.size (.bool true) A∧Since w wq) (fun i _ _=>24-(intOf i).toNat)
 case atStart=>exact⟨0,by omega,rfl,World.ownsRow_nil _ _ _ _,TI.o,HS.o⟩
 obtain⟨k,hk,rfl,hown,hset,hs⟩:=hrel;have HOW:=hid hown;have yt:=hid hset;have HSk:=hid hs;clear hown hset hs;have hfl:=Av A k;by_cases h21:k<21
 ·have a7B:(k:Int)+3<24:=by omega
  have Xm:=Pp wr w.heap.size A ((k:Int)+3) yt.o;by_cases hin:(k:Int)+3 ∈ A
  ·rw[decide_eq_true hin] at Xm;have HE:=hid (EE hin);clear hin;go_wp2_with fail
   go_roundw
   case rel=>exact⟨k+1,by omega,by go_num,by rw[HE.o];exact HOW.o,yt.o,HSk.o⟩
   case measure=>simp[intOf];omega
  rw[decide_eq_false hin] at Xm;have HE:=hid (Au hin);have HOA:=hid HOW.o;have kN:=hid HSk.o;have HSE:=hid yt.o;clear hin;obtain⟨wa,hwa⟩:∃wa,wa=wr:=⟨_,rfl⟩
  subst hwa;have hsl:=HSE.o.lt;go_wp2_with (at_builtin;refine wpList_append_own _ (by rfl) _ _ _ (by rfl) (w.heap.size+1) 3 i0 _ 1 8 Tryz.underlying61 HI.o.1 HI.o.2.1 HI.o.2.2.1 HI.o.2.2.2 (by rfl) (by decide) _ (eD A k).length (bV (eD A k)) (by rfl) (World.ownsRow.alloc HOA.o _) ⟨wa.heap.size,0,none⟩ 1 1 [.int .i64 ((k:Int)+3)] (by rfl) (by rfl) (World.news_of_block (heap_alloc_new wa _)) (by simp[Value.oneCell']) (by unfold maxLen;omega) (by omega) (by simp;omega) ?_;intro x' w3 hown1 hgrow _)
  have pK:Hid (w3.ownsRow (w.heap.size+1) 3 1 x' (eD A (k+1)).length (bV (eD A (k+1)))):=by
   show World.ownsRow _ _ _ _ _ _ _
   rw[HE.o,List.length_append,show bV (eD A k++[(k:Int)+3])=bV (eD A k)++[.int .i64 ((k:Int)+3)] from by simp[bV]];exact hown1
  have HB1:Hid (Below (w.heap.size+1) wa w3):=Below.grown (Below.alloc (Below.refl _ wa) (by omega) _) hgrow (by simp;omega) (fun j hj=>(HOA.o.lt j hj).1);have rq:Hid (Since w w3):=Below.trans (show Below w.heap.size w wa from kN.o) (Below.mono HB1.o (Nat.le_succ _));have a0s:Hid (aS w3 w.heap.size (.bool true) A):=(HB1.o.block w.heap.size (Nat.lt_succ_self _)).trans HSE.o;clear hown1 hgrow;go_roundw
  case rel=>exact⟨k+1,by omega,by go_num,pK.o,a0s.o,rq.o⟩
  case measure=>simp[intOf];omega
 have hke:k=21:=by omega
 subst hke;rw[Oj.o] at HOW;go_wp2_with fail
 go_ret;exact⟨_,rfl,ED HOW.o (Nat.le_succ _),HSk.o⟩
end En
end
end Go.Proofs.YtlgbfkcpdelcbaaGreatDoor
