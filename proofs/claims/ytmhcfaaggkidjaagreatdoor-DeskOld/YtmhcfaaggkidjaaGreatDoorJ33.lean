import Derived.RangeFuncNested
import Derived.RangeFuncBound
import Derived.Shelf.RegionOpen
import Derived.OwnWalkIn
import Derived.LoopNIn
import Derived.LoopIn
import Derived.Test.YtmhcfaaggkidjaaGreatDoorJ32
set_option linter.unusedSimpArgs false
set_option linter.unusedVariables false
section
namespace Go.Proofs.YtmhcfaaggkidjaaGreatDoor
set_option maxRecDepth 100000
namespace En
open Go.RowKit Go.Shelf
attribute [local go_sem] Oper.semAt_some
abbrev Ln:={ t:ByteArray // t.size≤1000 }
def gm (l:List Ln):List (List UInt8):=l.map (fun x=>x.1.data.toList)
theorem uO (a b:List Ln):gm (a++b)=gm a++gm b:=by simp[gm]
def PU (x:Ln):Array Value:=#[.string x.1]
def PV:Value→Nat
 | .string b=>b.size
 | _=>0
theorem XP (s:List UInt8):(Lib.cut s [10]).1.length≤s.length:=by
 unfold Lib.cut;split
 ·simp;omega
 exact Nat.le_refl _
theorem Hz (s:List UInt8) (h:s≠[]):bQ s=(Lib.cut s [10]).1::bQ (Lib.cut s [10]).2.1:=by
 rw[oF,dif_neg h]
theorem Uh (s:ByteArray) (hs:s.size≤100000) (w:World) (m:Int) (hm:w.cell? ⟨1,0,none⟩=some (.int .i64 m)) :
  Calls Tryz.prog 173 #[.string s,.string ⟨#[10]⟩] w fun e w'=>e=.returned (.tuple #[.string ⟨(Lib.cut s.data.toList [10]).1.toArray⟩,.string ⟨(Lib.cut s.data.toList [10]).2.1.toArray⟩,.bool (Lib.cut s.data.toList [10]).2.2])∧∃n,w'=w.drewN n:=by
 refine(Tryz.strings_Cut s ⟨#[10]⟩ m w (by omega) hm).mono ?_;rintro e w' ⟨rfl,n,rfl⟩;exact⟨rfl,n,rfl⟩
theorem zi (w:World) (k:Nat):w.grownBy (w.drewN k) none:=
 have h:=(Since.refl w).drewN k
 ⟨h.os,h.tape,h.output,h.size,fun j hj _=>h.block j hj⟩
set_option maxHeartbeats 1000000 in
theorem LM (n:Nat) (hn:1≤n) (l Bn n₀:Nat) (s:ByteArray) (hs:s.size≤1000) (J Jx:List Ln→World→Prop) (hJ:∀pre W k,J pre W→J pre (W.drewN k)) (m:Int)
  (hY:∀pre x W,J pre W→pre.length<(bQ s.data.toList).length→YieldAt Fence.wide (n-1) Tryz.prog l (PU x) W fun e W'=>
   (e=.returned (.bool true)∧J (pre++[x]) W'∧Below n₀ W W')∨(e=.returned (.bool false)∧Jx (pre++[x]) W'))
  (W:World) (hBn:W.cell? ⟨Bn,0,none⟩=some (.string s)) (hm:W.cell? ⟨1,0,none⟩=some (.int .i64 m)) (hg0:1<n₀) (h0:J [] W) :
  CallsIn Fence.wide n Tryz.prog 172 #[.func (.yield l) #[] #[],.pointer (some ⟨Bn,0,none⟩)] W fun e W'=>(∃v,e=.returned v)∧
   ((∃ys,gm ys=bQ s.data.toList∧J ys W')∨(∃pre,gm pre <+: bQ s.data.toList∧Jx pre W')):=by
 refine callsIn_of_wp Tryz.func172 rfl trivial ?_ rfl;simp only[Tryz.ntmps172,List.size_toArray,List.length_cons,List.length_nil,Nat.reduceAdd,Nat.reduceSub,Array.replicate_succ,Array.replicate_zero,List.push_toArray,List.append_toArray,List.nil_append,List.cons_append]
 gi_wp2
 have HY:Hid (∀pre x W,J pre W→pre.length<(bQ s.data.toList).length→YieldAt Fence.wide (n-1) Tryz.prog l (PU x) W fun e W'=>
   (e=.returned (.bool true)∧J (pre++[x]) W'∧Below n₀ W W')∨(e=.returned (.bool false)∧Jx (pre++[x]) W')):=hY
 have HJ:Hid (∀pre W k,J pre W→J pre (W.drewN k)):=hJ;clear hY hJ
 gi_loopw [3,4,5,6] (fun p _ _ _ wr=>∃(pre:List Ln) (r:List UInt8),p=.string ⟨r.toArray⟩∧r.length≤1000∧gm pre++bQ r=bQ s.data.toList∧wr.cell? ⟨1,0,none⟩=some (.int .i64 m)∧J pre wr)
  (fun p _ _ _ wr=>PV p)
 case atStart=>exact⟨[],s.data.toList,rfl,hs,rfl,hm,h0⟩
 obtain⟨pre,r,rfl,hr,hl,hmx,hJ⟩:=hrel;have HL:Hid (gm pre++bQ r=bQ s.data.toList):=hl;clear hl;have hdl:(⟨r.toArray⟩:ByteArray).toList=r:=by rw[Lib.toList_data]
 by_cases hne:r=[]
 ·have hz:(⟨r.toArray⟩:ByteArray).toList=[]:=by rw[hdl,hne]
  have hl2:=HL.out;rw[hne,oF,dif_pos rfl,List.append_nil] at hl2;have HL2:Hid (gm pre=bQ s.data.toList):=hl2;clear hl2 hne HL hdl
  gi_wp2
  go_end0
  exact⟨⟨_,rfl⟩,.inl ⟨pre,HL2.out,hJ⟩⟩
 have hz2:r.isEmpty=false:=by
  cases r with
  | nil=>exact absurd rfl hne
  | cons a b=>rfl
 have hc1:=XP r;have hc2:=Hd r hne;have hl2:=HL.out;rw[Hz r hne] at hl2;have hdr:(⟨r.toArray⟩:ByteArray).data.toList=r:=by simp
 have hsz:(⟨r.toArray⟩:ByteArray).size=r.length:=List.size_toArray;have hcut:=Uh ⟨r.toArray⟩ (by omega) wr m hmx;rw[hdr] at hcut;have a2X:Hid (Calls Tryz.prog 173 #[.string ⟨r.toArray⟩,.string ⟨#[10]⟩] wr fun e w'=>e=.returned (.tuple #[.string ⟨(Lib.cut r [10]).1.toArray⟩,.string ⟨(Lib.cut r [10]).2.1.toArray⟩,.bool (Lib.cut r [10]).2.2])∧∃n,w'=wr.drewN n):=hcut;have Sw:Hid ((⟨r.toArray⟩:ByteArray).size=r.length):=hsz;clear hcut hdr hdl hsz;generalize (Lib.cut r [10]).1=t at *;generalize (Lib.cut r [10]).2.1=b at *;generalize (Lib.cut r [10]).2.2=fd at *;have HL2:Hid (gm pre++t::bQ b=bQ s.data.toList):=hl2;clear hl2 HL;have htz:(⟨t.toArray⟩:ByteArray).size≤1000:=by rw[show (⟨t.toArray⟩:ByteArray).size=t.length from List.size_toArray];omega
 have HLX:Hid (gm (pre++[⟨⟨t.toArray⟩,htz⟩])=gm pre++[t]):=by
  show gm (pre++[⟨⟨t.toArray⟩,htz⟩])=_
  rw[uO];simp[gm]
 have Gb:Hid (pre.length<(bQ s.data.toList).length):=by
  show pre.length<(bQ s.data.toList).length
  rw[←HL2.out];simp[gm]
 generalize hx:(⟨⟨t.toArray⟩,htz⟩:Ln)=x at *;have hx1:x.1=⟨t.toArray⟩:=by rw[←hx]
 have yZ:Hid (x.1=⟨t.toArray⟩):=hx1;clear hx hx1
 gi_wp2
 refine⟨trivial,?_⟩;refine(callsIn_wide.2 a2X.out).mono ?_;rintro e w1 ⟨rfl,kd,hw1⟩;have hJ1:J pre w1:=by rw[hw1];exact HJ.out _ _ _ hJ
 have a2Y:w1.cell? ⟨1,0,none⟩=some (.int .i64 m):=by rw[hw1,((Since.refl wr).drewN kd).cell (p:=⟨1,0,none⟩) (World.block_lt_of_cell? _ _ hmx)];exact hmx
 clear hw1 hmx hJ;obtain⟨fn,tmps,assign,body,hy,hR⟩:=HY.out pre x w1 hJ1 Gb.out;have hy':(Instr.yield l #[.string ⟨t.toArray⟩]).run Tryz.prog w1=.ok (.round l fn tmps assign body) w1:=by
  have:=hy;unfold PU at this;rw[yZ.out] at this;exact this
 clear hy
 gi_wp2
 refine hR.mono ?_;rintro e W3 (⟨rfl,hJ3,hk3⟩ | ⟨rfl,hJx3⟩)
 ·have a2Z:W3.cell? ⟨1,0,none⟩=some (.int .i64 m):=(hk3.cell (p:=⟨1,0,none⟩) hg0).trans a2Y
  gi_wp2
  go_roundw
  case rel=>exact⟨pre++[x],b,rfl,by omega,by rw[HLX.out,←HL2.out];simp,a2Z,hJ3⟩
  show (⟨b.toArray⟩:ByteArray).size<(⟨r.toArray⟩:ByteArray).size
  rw[Sw.out,show (⟨b.toArray⟩:ByteArray).size=b.length from List.size_toArray];exact hc2
 gi_wp2
 refine bodyPost_ret (results_none rfl _ _ _) rfl ?_;refine⟨⟨_,rfl⟩,.inr ⟨pre++[x],?_,hJx3⟩⟩;rw[HLX.out,←HL2.out];exact⟨bQ b,by simp⟩
theorem Eo (n:Nat) (hn:1≤n) (Bn n₀:Nat) (s:ByteArray) (hs:s.size≤1000) (w:World) (hn₀:n₀≤w.heap.size) (hg0:1<n₀) (hc:w.cell? ⟨Bn,0,none⟩=some (.string s)) (m:Int) (hm:w.cell? ⟨1,0,none⟩=some (.int .i64 m)) :
  SeqStopsK Fence.wide n Tryz.prog 172 #[.pointer (some ⟨Bn,0,none⟩)] PU (Below n₀) (fun ys=>gm ys=bQ s.data.toList) (fun pre=>gm pre <+: bQ s.data.toList) (bQ s.data.toList).length w:=fun l J Jx W hW hJ _ hY h0=>
 LM n hn l Bn n₀ s hs J Jx (fun pre W' k h=>hJ pre W' _ none h (zi W' k) (fun r e=>by cases e)) m hY W ((hW.cell (p:=⟨Bn,0,none⟩) (World.block_lt_of_cell? _ _ hc)).trans hc) ((hW.cell (p:=⟨1,0,none⟩) (by show 1<_;omega)).trans hm) hg0 h0
theorem PW (n:Nat) (s:ByteArray) (w:World) :
  CallsIn Fence.wide n Tryz.prog 117 #[.string s] w fun e w'=>e=.returned (.func (.func 172) #[] #[.pointer (some ⟨w.heap.size,0,none⟩)])∧w'=w.alloc (.cells #[.string s] 9):=by
 refine callsIn_of_wp Tryz.func117 rfl trivial ?_ rfl;simp only[Tryz.ntmps117,List.size_toArray,List.length_cons,List.length_nil,Nat.reduceAdd,Nat.reduceSub,Array.replicate_succ,Array.replicate_zero,List.push_toArray,List.append_toArray,List.nil_append,List.cons_append]
 gi_wp2
 go_ret;exact⟨rfl,rfl⟩
end En
end Go.Proofs.YtmhcfaaggkidjaaGreatDoor
end
section
namespace Go.Proofs.YtmhcfaaggkidjaaGreatDoor
set_option maxRecDepth 100000
namespace En
open Go.RowKit Go.Shelf
attribute [local go_sem] Oper.semAt_some
theorem gT:∀(a b:List (List UInt8)),readAll (a++b)=(match readAll a,readAll b with | some x,some y=>some (x++y) | _,_=>none)
 | [],b=>by
  simp only[List.nil_append,readAll];cases readAll b<;>rfl
 | t::r,b=>by
  rw[List.cons_append,readAll,gT r b];simp only[readAll];cases eU t with
  | none=>cases readAll r<;>cases readAll b<;>rfl
  | some f=>cases readAll r<;>cases readAll b<;>rfl
theorem nL:∀(l:List (List UInt8)) (m:List Fi),readAll l=some m→m.length=l.length
 | [],m,h=>by simp only[readAll] at h;injection h with h;subst h;rfl
 | t::r,m,h=>by
  rw[readAll] at h;cases hf:eU t with
  | none=>rw[hf] at h;cases h
  | some f=>
   cases hr:readAll r with
   | none=>rw[hf,hr] at h;cases h
   | some x=>
    rw[hf,hr] at h;injection h with h
    subst h;simp[nL r x hr]
theorem xQ:∀(l:List (List UInt8)) (L:List Int),dJ l=some L→∀x,x ∈ L→-9223372036854775808≤x∧x≤9223372036854775807
 | [],L,h,x,hx=>by simp only[dJ] at h;injection h with h;subst h;cases hx
 | a::r,L,h,x,hx=>by
  rw[dJ] at h;cases hn:nD a with
  | none=>rw[hn] at h;cases h
  | some v=>
   cases hr:dJ r with
   | none=>rw[hn,hr] at h;cases h
   | some M=>
    rw[hn,hr] at h;injection h with h
    subst h;rcases List.mem_cons.1 hx with rfl | hx
    ·unfold nD at hn;cases ha:Lib.atoiAll a with
     | ok u=>rw[ha] at hn;injection hn with hn;subst hn;exact Lib.atoiAll_bounds ha
     | «syntax»=>rw[ha] at hn;cases hn
     | range=>rw[ha] at hn;cases hn
    exact xQ r M hr x hx
theorem Ep {t:List UInt8} {f:Fi} (h:eU t=some f):-9223372036854775808≤f.sz∧f.sz≤9223372036854775807:=by
 unfold eU at h;generalize Lib.splitK [32] 0 (min 26 (t.length+1)-1) t=ws at h
 match ws,h with
 | a::b::r,h=>
  simp only[nG] at h;split at h
  ·cases hn:dJ (b::r) with
   | none=>rw[hn] at h;cases h
   | some L=>
    rw[hn] at h;cases L with
    | nil=>cases h
    | cons v M=>
     injection h with h
     subst h;exact xQ _ _ hn v (by simp)
  cases h
theorem pE:∀(l:List (List UInt8)) (m:List Fi),readAll l=some m→pz m
 | [],m,h,f,hf=>by simp only[readAll] at h;injection h with h;subst h;cases hf
 | t::r,m,h,f,hf=>by
  rw[readAll] at h;cases hp:eU t with
  | none=>rw[hp] at h;cases h
  | some g=>
   cases hr:readAll r with
   | none=>rw[hp,hr] at h;cases h
   | some x=>
    rw[hp,hr] at h;injection h with h
    subst h;rcases List.mem_cons.1 hf with rfl | hf
    ·exact Ep hp
    exact pE r x hr f hf
theorem Ia {s:List UInt8} {pre:List Ln} (hp:gm pre <+: bQ s) (h:readAll (gm pre)=none∨8<pre.length):parse s=none:=by
 obtain⟨r,hr⟩:=hp;unfold parse;rw[←hr,gT];rcases h with h | h
 ·rw[h]
 cases h1:readAll (gm pre) with
 | none=>rfl
 | some a=>
  cases h2:readAll r with
  | none=>rfl
  | some b=>
   have hl:=nL _ _ h1;simp only[gm,List.length_map] at hl;have:right (a++b)=false:=by
    rw[right,decide_eq_false (by simp;omega)];rfl
   simp[this]
theorem ky {fn:Func} {p q:Tmp} {ty ty':TypeId} (h:fn.results=#[.cell p ty,.cell q ty']) (tmps:Array Value) (P:Program) (w:World) (b b':Nat) (x y:Value)
  (hx:tmps.getD p undef=.pointer (some ⟨b,0,none⟩)) (hy:tmps.getD q undef=.pointer (some ⟨b',0,none⟩)) (hcx:w.cell? ⟨b,0,none⟩=some x) (hcy:w.cell? ⟨b',0,none⟩=some y)
  (ha:∀w,(isAgg ty).run P w=.ok false w) (hb:∀w,(isAgg ty').run P w=.ok false w) :
  (results fn tmps).run P w=.ok (.tuple #[x,y]) w:=by
 simp only[results,h];have h2:tmps[p]?.getD undef=.pointer (some ⟨b,0,none⟩):=by simpa using hx
 have h3:tmps[q]?.getD undef=.pointer (some ⟨b',0,none⟩):=by simpa using hy
 have l1:(loadVar ty ⟨b,0,none⟩).run P w=.ok x w:=by simp[loadVar,ha,go_sem,hcx]
 have l2:(loadVar ty' ⟨b',0,none⟩).run P w=.ok y w:=by simp[loadVar,hb,go_sem,hcy]
 simp[asAddr,h2,h3,l1,l2]
theorem Es {W W':World} (h:Since W W'):KeepsOthers W W':=⟨h.size,fun k o hk _=>by rw[h.block k (df hk)];exact hk⟩
theorem JM:(Tryz.prog.info? 122).map (fun i=>(i.zero,i.size,i.bytes))=some (some (.agg #[.string ByteArray.empty,.int .i64 0,.slice none 0 0]),3,48):=by kernel_rfl
def iF (p:List (Fi × Value)):List Value:=p.flatMap (fun x=>[.string x.1.nm,.int .i64 x.1.sz,x.2])
theorem Eu (p:List (Fi × Value)) (f:Fi) (cv:Value):iF (p++[(f,cv)])=iF p++[.string f.nm,.int .i64 f.sz,cv]:=by simp[iF]
theorem xR:∀(p:List (Fi × Value)) (j:Nat) (x:Fi × Value),p[j]?=some x→(iF p)[j*3]?=some (.string x.1.nm)∧(iF p)[j*3+1]?=some (.int .i64 x.1.sz)∧(iF p)[j*3+2]?=some x.2
 | [],j,x,h=>by simp at h
 | y::r,0,x,h=>by
  simp at h;subst h;exact⟨rfl,rfl,rfl⟩
 | y::r,j+1,x,h=>by
  have ih:=xR r j x (by simpa using h);have e:iF (y::r)=.string y.1.nm::.int .i64 y.1.sz::y.2::iF r:=rfl;rw[e,show (j+1)*3=j*3+1+1+1 by omega];exact ih
structure Row (b:Nat) (W:World) (v:Value) (p:List (Fi × Value)):Prop where
 own:W.ownsRow b 122 3 v p.length (iF p)
 ints:∀x,x ∈ p→Ints W x.2 x.1.cs
 far:∀x,x ∈ p→∀k o n c,x.2=.slice (some ⟨k,o,none⟩) n c→b+3≤k∧∃cur fz,W.heap[k]?=some (.cells cur 3 fz)
theorem Row.LP {b:Nat} {W:World} {v:Value} {p:List (Fi × Value)} (h:Row b W v p):iX W v (p.map (fun x=>x.1)):=by
 rcases h.own.2 with⟨hv,h0⟩ | ⟨g,cap,cur,hv,hb,hg,hc,hm,hs,ht⟩
 ·obtain rfl:=List.length_eq_zero_iff.1 h0;exact⟨none,0,hv,Nat.le_refl _,fun h=>by simp at h⟩
 subst hv;refine⟨some ⟨g,0,none⟩,cap,by rw[List.length_map],by rw[List.length_map];exact hc,fun _=>⟨g,0,rfl,df hg,fun j f hj=>?_⟩⟩;rw[List.getElem?_map] at hj;cases hx:p[j]? with
 | none=>rw[hx] at hj;cases hj
 | some x=>
  rw[hx] at hj;injection hj with hj
  subst hj;have hjl:=(List.getElem?_eq_some_iff.1 hx).1;obtain⟨e1,e2,e3⟩:=xR p j x hx;have c:=fun i hi=>h.own.cellAt i hi
  refine⟨x.2,h.ints x (List.mem_of_getElem? hx),?_,?_,?_⟩
  ·rw[Nat.zero_add,c _ (by omega)];exact e1
  ·rw[Nat.zero_add,c _ (by omega)];exact e2
  rw[Nat.zero_add,c _ (by omega)];exact e3
theorem Ints.kept {W W':World} {row:Option Nat} {v:Value} {cs:List Int} (h:Ints W v cs) (hg:W.grownBy W' row) (hr:∀r,row=some r→∃o:Obj,W.heap[r]?=some o∧o.isCells=false):Ints W' v cs:=by
 obtain⟨a,c,hv,hc,h⟩:=h;refine⟨a,c,hv,hc,fun hn=>?_⟩;obtain⟨k,o,ha,hk,hcell⟩:=h hn;exact⟨k,o,ha,Nat.lt_of_lt_of_le hk hg.size,fun j x hj=>cell_kept (hcell j x hj) hg hr⟩
theorem Row.kept {b:Nat} {W W':World} {row:Option Nat} {v:Value} {p:List (Fi × Value)} (h:Row b W v p) (hg:W.grownBy W' row) (hr:∀r,row=some r→∃o:Obj,W.heap[r]?=some o∧o.isCells=false):Row b W' v p:=by
 refine⟨h.own.kept hg ?_,fun x hx=>(h.ints x hx).kept hg hr,fun x hx k o n c e=>?_⟩
 ·rcases h.own.2 with⟨hv,_⟩ | ⟨g,cap,cur,hv,hb,hgg,_⟩
  ·rw[hv];exact Or.inl rfl
  refine Or.inr ?_;rw[hv];intro e;obtain⟨o,ho,hc⟩:=hr g e.symm;rw[hgg] at ho;injection ho with ho
  subst ho;cases hc
 obtain⟨h1,cur,fz,h2⟩:=h.far x hx k o n c e;refine⟨h1,cur,fz,(hg.block k (df h2) (fun e=>?_)).trans h2⟩;obtain⟨o,ho,hc⟩:=hr k e.symm;rw[h2] at ho;injection ho with ho
 subst ho;cases hc
theorem Row.since {b:Nat} {W W':World} {v:Value} {p:List (Fi × Value)} (h:Row b W v p) (hs:Since W W'):Row b W' v p:=⟨bi h.own hs,fun x hx=>(h.ints x hx).since hs,fun x hx k o n c e=>by obtain⟨h1,cur,fz,h2⟩:=h.far x hx k o n c e;exact⟨h1,cur,fz,(hs.block k (df h2)).trans h2⟩⟩
theorem Ints.grown {W W':World} {row:Option Nat} {v:Value} {cs:List Int} (h:Ints W v cs) (hg:W.grownBy W' row) (hr:∀k o n c,v=.slice (some ⟨k,o,none⟩) n c→row≠some k):Ints W' v cs:=by
 obtain⟨a,c,hv,hc,h⟩:=h;refine⟨a,c,hv,hc,fun hn=>?_⟩;obtain⟨k,o,ha,hk,hcell⟩:=h hn;exact⟨k,o,ha,Nat.lt_of_lt_of_le hk hg.size,fun j x hj=>(World.cell?_of_block (w:=W) (a:=⟨k,o+j,none⟩) (hg.block k hk (fun e=>hr k o _ _ (by rw[hv,ha]) e.symm))).trans (hcell j x hj)⟩
theorem Row.set {b B:Nat} {W:World} {v u:Value} {t:TypeId} {p:List (Fi × Value)} (h:Row b W v p) (hB:B<b+3) (hb:Boxed W B t u) (u':Value) (ht:t≠122:=by decide):Row b (W.setCell ⟨B,0,none⟩ u') v p:=by
 have hk:∀x,x ∈ p→∀k o n c,x.2=.slice (some ⟨k,o,none⟩) n c→some B≠some k:=fun x hx k o n c e e2=>by
  have h1:=(h.far x hx k o n c e).1;injection e2 with e2
  omega
 refine⟨h.own.kept (grownBy_setCell' W B u') (.inr (hb.not_row ht h.own).symm),fun x hx=>(h.ints x hx).grown (grownBy_setCell' W B u') (hk x hx),fun x hx k o n c e=>?_⟩;obtain⟨h1,cur,fz,h2⟩:=h.far x hx k o n c e;refine⟨h1,cur,fz,?_⟩;rw[Below.heap_setCell _ _ _ _ (fun e2=>hk x hx k o n c e (by rw[e2]))];exact h2
theorem iX.kept {W W':World} {row:Option Nat} {v:Value} {l:List Fi} (h:iX W v l) (hg:W.grownBy W' row) (hr:∀r,row=some r→∃o:Obj,W.heap[r]?=some o∧o.isCells=false):iX W' v l:=by
 obtain⟨a,c,hv,hc,h⟩:=h;refine⟨a,c,hv,hc,fun hn=>?_⟩;obtain⟨k,o,ha,hk,hcell⟩:=h hn;refine⟨k,o,ha,Nat.lt_of_lt_of_le hk hg.size,fun j f hj=>?_⟩;obtain⟨cv,h1,h2,h3,h4⟩:=hcell j f hj;exact⟨cv,h1.kept hg hr,cell_kept h2 hg hr,cell_kept h3 hg hr,cell_kept h4 hg hr⟩
def PI (w:World) (pre:List Ln) (W:World):Prop:=
 ∃p v,readAll (gm pre)=some (p.map (fun x=>x.1))∧p.length≤8∧Boxed W (w.heap.size+1+1) 110 v∧Row w.heap.size W v p∧Boxed W w.heap.size 110 (.slice none 0 0)∧Boxed W (w.heap.size+1) 46 .nilIface∧Below w.heap.size w W
def PX (w:World) (c:Code) (pre:List Ln) (W:World):Prop:=
 c=.ret∧(readAll (gm pre)=none∨8<pre.length)∧Boxed W w.heap.size 110 (.slice none 0 0)∧Boxed W (w.heap.size+1) 46 (dM 3)∧Below w.heap.size w W
theorem jP {W W':World} {row:Option Nat} {B:Nat} {t:TypeId} {v:Value} (h:Boxed W B t v) (hg:W.grownBy W' row) (hr:∀r,row=some r→∃o:Obj,W.heap[r]?=some o∧o.isCells=false):Boxed W' B t v:=h.kept hg (fun e=>by
  obtain⟨o,ho,hc⟩:=hr B e.symm;rw[show W.heap[B]?=_ from h] at ho;injection ho with ho
  subst ho;cases hc)
theorem bB {W W':World} {B:Nat} {t:TypeId} {v:Value} (h:Boxed W B t v) (hs:Since W W'):Boxed W' B t v:=(hs.block B h.lt).trans h
theorem PI.own (w:World) (B:Nat) (hB:w.heap.size≤B):OwnFrom B (PI w):=fun pre W W' row h hg hr=>by
 obtain⟨p,v,h1,h2,h3,h4,h5,h6,h7⟩:=h;have hr':=fun r e=>(hr r e).2
 exact⟨p,v,h1,h2,jP h3 hg hr',h4.kept hg hr',jP h5 hg hr',jP h6 hg hr',ownFrom_below (Nat.le_refl _) hB pre W W' row h7 hg hr⟩
theorem PX.own (w:World) (B:Nat) (hB:w.heap.size≤B) (c:Code):OwnFrom B (PX w c):=fun pre W W' row h hg hr=>by
 obtain⟨h1,h2,h3,h4,h5⟩:=h;have hr':=fun r e=>(hr r e).2
 exact⟨h1,h2,jP h3 hg hr',jP h4 hg hr',ownFrom_below (Nat.le_refl _) hB pre W W' row h5 hg hr⟩
set_option maxHeartbeats 4000000 in
theorem LQ (s:ByteArray) (hs:s.size≤1000) (w:World) (hb:Lb w) :
  Calls Tryz.prog 65 #[.string s] w fun e w'=>((∃l v,parse s.data.toList=some l∧e=.returned (.tuple #[v,.nilIface])∧iX w' v l∧∃p,p.map (fun x=>x.1)=l∧Row w.heap.size w' v p)∨(parse s.data.toList=none∧e=.returned (.tuple #[.slice none 0 0,dM 3])))∧Since w w':=by
 have HB:Hid (Lb w):=hb;obtain⟨m,hm⟩:=hb.max;have hgl:=World.block_lt_of_cell? _ _ hm;clear hb;refine(callsIn_wide (n:=6)).1 ?_;refine callsIn_of_wp_marks Tryz.func65 rfl trivial ?_ rfl;simp only[Tryz.ntmps65,List.size_toArray,List.length_cons,List.length_nil,Nat.reduceAdd,Nat.reduceSub,Array.replicate_succ,Array.replicate_zero,List.push_toArray,List.append_toArray,List.nil_append,List.cons_append]
 gi_wp2_with (refine⟨trivial,?_⟩;gi_at_call 117;refine(PW _ _ _).mono ?_;rintro e w' ⟨rfl,rfl⟩)
 have b2:=(((Boxed.new w 110 (.slice none 0 0)).alloc (.cells #[.nilIface] 46)).alloc (.cells #[.slice none 0 0] 110)).alloc (.cells #[.string s] 9);have b3:=((Boxed.new (w.alloc (.cells #[.slice none 0 0] 110)) 46 .nilIface).alloc (.cells #[.slice none 0 0] 110)).alloc (.cells #[.string s] 9);have b4:=(Boxed.new ((w.alloc (.cells #[.slice none 0 0] 110)).alloc (.cells #[.nilIface] 46)) 110 (.slice none 0 0)).alloc (.cells #[.string s] 9);have b5:=Boxed.new (((w.alloc (.cells #[.slice none 0 0] 110)).alloc (.cells #[.nilIface] 46)).alloc (.cells #[.slice none 0 0] 110)) 9 (.string s);simp only[World.size_alloc] at b3 b4 b5;have hB0:Since w ((((w.alloc (.cells #[.slice none 0 0] 110)).alloc (.cells #[.nilIface] 46)).alloc (.cells #[.slice none 0 0] 110)).alloc (.cells #[.string s] 9)):=((((Since.refl w).alloc _).alloc _).alloc _).alloc _
 obtain⟨W0,hW0⟩:∃W0,(((w.alloc (.cells #[.slice none 0 0] 110)).alloc (.cells #[.nilIface] 46)).alloc (.cells #[.slice none 0 0] 110)).alloc (.cells #[.string s] 9)=W0:=⟨_,rfl⟩
 rw[hW0] at b2 b3 b4 b5 hB0 ⊢;clear hW0;have hm0:=(hB0.cell (p:=⟨1,0,none⟩) hgl).trans hm;refine wpIn_rangeFunc_ownF (F:=Fence.wide) (n:=6) rfl (by omega) (gf:=172) (lb:=#[.pointer (some ⟨w.heap.size+1+1+1,0,none⟩)]) rfl trivial (enters_of Tryz.func172 (by kernel_rfl) rfl)
  (Eo 5 (by omega) (w.heap.size+1+1+1) w.heap.size s hs W0 hB0.size hgl b5.cell m hm0) belowK_t (belowK_b hB0.size) (Below.refl _ _) (fun _=>rfl)
  (PI w) (PX w) (PI.own w _ hB0.size) (fun c=>PX.own w _ hB0.size c)
  ⟨[],.slice none 0 0,rfl,by simp,b4,⟨World.ownsRow_nil _ _ _ _,(fun x hx=>by cases hx),(fun x hx=>by cases hx)⟩,b2,b3,hB0⟩
  (fun x=>{ tmps:=#[.string s,undef,.pointer (some ⟨w.heap.size,0,none⟩),.pointer (some ⟨w.heap.size+1,0,none⟩),.pointer (some ⟨w.heap.size+1+1,0,none⟩),.string x.1,undef,undef,undef,undef,.string s,.func (.func 172) #[] #[.pointer (some ⟨w.heap.size+1+1+1,0,none⟩)],.string x.1,undef,undef,undef,undef,undef,undef,undef,undef,undef,undef,undef,undef,undef,undef,undef,undef,undef,undef,undef,undef,undef,undef,undef,undef,undef,undef,undef,undef,undef,undef,undef],defers:=[] })
  ?assign ?body ?done ?stop
 case assign=>
  intro l x W K hK;simp only[PU]
  gi_wp2
  exact hK
 case body=>
  rintro l pre ⟨x,hx⟩ W ⟨p,v,h1,h2,h3,h4,h5,h6,h7⟩ hlt;have H1:Hid (readAll (gm pre)=some (p.map (fun x=>x.1))):=h1;have H3:Hid (Boxed W (w.heap.size+1+1) 110 v):=h3;have H4:Hid (Row w.heap.size W v p):=h4;have H5:Hid (Boxed W w.heap.size 110 (.slice none 0 0)):=h5;have H6:Hid (Boxed W (w.heap.size+1) 46 .nilIface):=h6;have H7:Hid (Below w.heap.size w W):=h7;have HPX:Hid (gm (pre++[(⟨x,hx⟩:Ln)])=gm pre++[x.data.toList]):=uO _ _;have Zb:Hid (pre.length=p.length):=by
   have:=nL _ _ h1;simp only[gm,List.length_map] at this;exact this.symm
  have hw4:w.heap.size+3≤W.heap.size:=by have:=h3.lt;omega
  clear h1 h3 h4 h5 h6 h7;dsimp only
  gi_wp2
  refine⟨trivial,?_⟩;refine(CallsIn.inRound l (callsIn_wide.2 (jK x hx W (HB.out.since H7.out)))).mono ?_;rintro e W1 ⟨he,hs1⟩;have g3:=(bB H3.out hs1)
  have g5:=(bB H5.out hs1)
  have g6:=(bB H6.out hs1)
  have G4:Hid (Row w.heap.size W1 v p):=H4.out.since hs1;have G7:Hid (Since w W1):=Since.trans H7.out hs1;have GK:Hid (KeepsOthers W W1):=Es hs1;have GB:Hid (Below w.heap.size W W1):=Below.mono hs1 (Below.size H7.out);have HOWN:Hid (W.ownsRow w.heap.size 122 3 v p.length (iF p)):=H4.out.own;clear hs1 H3 H4 H5 H6;rcases he with⟨f,cv,ry,rfl,hin,hfr⟩ | ⟨ry,rfl⟩
  ·have HF:Hid (readAll (gm (pre++[(⟨x,hx⟩:Ln)]))=some ((p++[(f,cv)]).map (fun x=>x.1))):=by
    show readAll (gm (pre++[(⟨x,hx⟩:Ln)]))=_
    rw[HPX.out,gT,H1.out,readAll,ry];simp[readAll]
   obtain⟨ca,cc,rfl⟩:∃ca cc,cv=.slice ca f.cs.length cc:=by
    obtain⟨ca,cc,h,_⟩:=hin;exact⟨ca,cc,h⟩
   have Ws:Hid (Ints W1 (.slice ca f.cs.length cc) f.cs):=hin;clear hin ry;obtain⟨va,vc,rfl⟩:∃va vc,v=.slice va p.length vc:=by
    rcases G4.out.own.2 with⟨h,h0⟩ | ⟨g,cap,cur,h,_⟩
    ·exact⟨none,0,by rw[h,h0]⟩
    exact⟨_,_,h⟩
   unfold fZ;have a4:=g3.alloc (.cells #[.string f.nm,.int .i64 f.sz,.slice ca f.cs.length cc] 122);have c4:=a4.cell;have f4:=a4.frozen;by_cases h8:p.length=8
   ·have HN:Hid (readAll (gm (pre++[(⟨x,hx⟩:Ln)]))=none∨8<(pre++[(⟨x,hx⟩:Ln)]).length):=Or.inr (by have:=Zb.out;simp;omega);have h8':((p.length:Int)==8)=true:=by rw[h8];rfl
    have a5:=g5.alloc (.cells #[.string f.nm,.int .i64 f.sz,.slice ca f.cs.length cc] 122);have a6:=(g6.alloc (.cells #[.string f.nm,.int .i64 f.sz,.slice ca f.cs.length cc] 122)).other (B':=w.heap.size) (by omega) (.slice none 0 0);have c5:=a5.cell;have c6:=a6.cell;have f5:=a5.frozen;have f6:=a6.frozen;have G5:Hid (Boxed (((W1.alloc (.cells #[.string f.nm,.int .i64 f.sz,.slice ca f.cs.length cc] 122)).setCell ⟨w.heap.size,0,none⟩ (.slice none 0 0)).setCell ⟨w.heap.size+1,0,none⟩ (dM 3)) w.heap.size 110 (.slice none 0 0)):=(a5.set (.slice none 0 0)).other (B':=w.heap.size+1) (by omega) _;have G6:Hid (Boxed (((W1.alloc (.cells #[.string f.nm,.int .i64 f.sz,.slice ca f.cs.length cc] 122)).setCell ⟨w.heap.size,0,none⟩ (.slice none 0 0)).setCell ⟨w.heap.size+1,0,none⟩ (dM 3)) (w.heap.size+1) 46 (dM 3)):=a6.set (dM 3)
    have GS:Hid (Since w (((W1.alloc (.cells #[.string f.nm,.int .i64 f.sz,.slice ca f.cs.length cc] 122)).setCell ⟨w.heap.size,0,none⟩ (.slice none 0 0)).setCell ⟨w.heap.size+1,0,none⟩ (dM 3))):=((G7.out.alloc _).setCell (p:=⟨w.heap.size,0,none⟩) (Nat.le_refl _) _).setCell (p:=⟨w.heap.size+1,0,none⟩) (Nat.le_succ _) _;have GKK:Hid (KeepsOthers W (((W1.alloc (.cells #[.string f.nm,.int .i64 f.sz,.slice ca f.cs.length cc] 122)).setCell ⟨w.heap.size,0,none⟩ (.slice none 0 0)).setCell ⟨w.heap.size+1,0,none⟩ (dM 3))):=((GK.out.trans (KeepsOthers.alloc _ _)).trans (KeepsOthers.setCell _ _ _)).trans (KeepsOthers.setCell _ _ _);clear a4 a5 a6 g3 g5 g6 h8
    gi_wp2
    exact⟨GKK.out,rfl,HN.out,G5.out,G6.out,GS.out⟩
   have h8':((p.length:Int)==8)=false:=beq_false_of_ne (by omega);obtain⟨i0,hi,hz0,hz1,hz2⟩:=info_parts JM;have HI:Hid (Tryz.prog.info? 122=some i0∧i0.zero=some (.agg #[.string ByteArray.empty,.int .i64 0,.slice none 0 0])∧i0.size=3∧i0.bytes=48):=⟨hi,hz0,hz1,hz2⟩
   clear hi hz0 hz1 hz2;have GA:Hid (Boxed (W1.alloc (.cells #[.string f.nm,.int .i64 f.sz,.slice ca f.cs.length cc] 122)) (w.heap.size+1+1) 110 (.slice va p.length vc)):=a4;have GR:Hid ((W1.alloc (.cells #[.string f.nm,.int .i64 f.sz,.slice ca f.cs.length cc] 122)).ownsRow w.heap.size 122 3 (.slice va p.length vc) p.length (iF p)):=G4.out.own.alloc _;have G5:Hid (Boxed (W1.alloc (.cells #[.string f.nm,.int .i64 f.sz,.slice ca f.cs.length cc] 122)) w.heap.size 110 (.slice none 0 0)):=g5.alloc _;have G6:Hid (Boxed (W1.alloc (.cells #[.string f.nm,.int .i64 f.sz,.slice ca f.cs.length cc] 122)) (w.heap.size+1) 46 .nilIface):=g6.alloc _;have GS:Hid (Since w (W1.alloc (.cells #[.string f.nm,.int .i64 f.sz,.slice ca f.cs.length cc] 122))):=G7.out.alloc _
   have GI:Hid (∀y,y ∈ p++[(f,.slice ca f.cs.length cc)]→Ints (W1.alloc (.cells #[.string f.nm,.int .i64 f.sz,.slice ca f.cs.length cc] 122)) y.2 y.1.cs):=fun y hy=>by
    rcases List.mem_append.1 hy with hy | hy
    ·exact(G4.out.ints y hy).since ((Since.refl _).alloc _)
    rw[List.mem_singleton] at hy;subst hy;exact Ws.out.since ((Since.refl _).alloc _)
   have GFR:Hid (∀y,y ∈ p++[(f,.slice ca f.cs.length cc)]→∀k o n c,y.2=.slice (some ⟨k,o,none⟩) n c→w.heap.size+3≤k∧∃cur fz,(W1.alloc (.cells #[.string f.nm,.int .i64 f.sz,.slice ca f.cs.length cc] 122)).heap[k]?=some (.cells cur 3 fz)):=fun y hy k o n c e=>by
    have key:w.heap.size+3≤k∧∃cur fz,W1.heap[k]?=some (.cells cur 3 fz):=by
     rcases List.mem_append.1 hy with hy | hy
     ·exact G4.out.far y hy k o n c e
     rw[List.mem_singleton] at hy;subst hy;have h1:=hfr k o n c e;exact⟨by omega,h1.2⟩
    obtain⟨h1,cur,fz,h2⟩:=key;exact⟨h1,cur,fz,(((Since.refl W1).alloc _).block k (df h2)).trans h2⟩
   have GKA:Hid (KeepsOthers W (W1.alloc (.cells #[.string f.nm,.int .i64 f.sz,.slice ca f.cs.length cc] 122))):=GK.out.trans (KeepsOthers.alloc _ _);have GBA:Hid (Below w.heap.size W (W1.alloc (.cells #[.string f.nm,.int .i64 f.sz,.slice ca f.cs.length cc] 122))):=GB.out.alloc (Nat.le_trans (Nat.le_of_lt (by omega)) GB.out.size) _;have GBX:Hid (ak (W1.alloc (.cells #[.string f.nm,.int .i64 f.sz,.slice ca f.cs.length cc] 122)) W1.heap.size 3 (fun j=>(#[.string f.nm,.int .i64 f.sz,.slice ca f.cs.length cc]:Array Value).getD j undef)):=Bx.new W1 f (.slice ca f.cs.length cc);clear a4 g3 g5 g6 hfr;have hsz:(W1.alloc (.cells #[.string f.nm,.int .i64 f.sz,.slice ca f.cs.length cc] 122)).heap.size=W1.heap.size+1:=World.size_alloc _ _;have x0:=GBX.out.cell 0 (by omega);have x1:=GBX.out.cell 1 (by omega);have x2:=GBX.out.cell 2 (by omega)
   have HE1:Hid (Ending.returned (.bool true)=Ending.returned (.bool true)):=rfl;clear HE1
   gi_wp2_with (gi_at_builtin;refine wpListIn_append_own _ rfl _ _ 110 rfl w.heap.size 122 i0 _ 3 48 Tryz.underlying110 HI.out.1 HI.out.2.1 HI.out.2.2.1 HI.out.2.2.2 rfl (by decide) _ _ _ rfl (World.ownsRow.alloc GR.out _) ⟨W1.heap.size+1,0,none⟩ 1 1 [.string f.nm,.int .i64 f.sz,.slice ca f.cs.length cc] rfl rfl (by rw[←hsz];exact World.news_of_block (heap_alloc_new _ _)) (by simp[Value.oneCell']) (by unfold maxLen;omega) (by omega) (by have:=GS.out.size;simp at this ⊢;omega) ?_;intro v' w2 hown' hgrow _;obtain⟨g',cap',rfl⟩:=ownsRow_succ hown';obtain⟨hv1,hv2,hr2,hk2,hb2⟩:=GA.out.appended (by decide) GR.out GS.out.size (by omega) hown' hgrow;have hc1:=hv1.cell;have hf1:=hv1.frozen)
   have hnr:∀y,y ∈ p++[(f,.slice ca f.cs.length cc)]→∀k o n c,y.2=.slice (some ⟨k,o,none⟩) n c→(Value.slice va p.length vc).ownBlock≠some k:=fun y hy k o n c e e2=>by
    obtain⟨_,cur,fz,h2⟩:=GFR.out y hy k o n c e;rcases GR.out.2 with⟨h,_⟩ | ⟨g,cap,a0k,h,_,h3,_⟩
    ·rw[h] at e2;cases e2
    rw[h] at e2;injection e2 with e2
    have e3:g=k:=e2;subst e3;rw[h3] at h2;injection h2 with h2
    injection h2 with _ h2
    cases h2
   have hb4:∀y,y ∈ p++[(f,.slice ca f.cs.length cc)]→∀k o n c,y.2=.slice (some ⟨k,o,none⟩) n c→some (w.heap.size+1+1)≠some k:=fun y hy k o n c e e2=>by
    have h1:=(GFR.out y hy k o n c e).1;injection e2 with e2
    omega
   have hga:World.grownBy _ _ _:=World.grownBy_alloc (W1.alloc (.cells #[.string f.nm,.int .i64 f.sz,.slice ca f.cs.length cc] 122)) (.cells #[.string f.nm,.int .i64 f.sz,.slice ca f.cs.length cc] 122) none;have q5:=((G5.out.alloc (.cells #[.string f.nm,.int .i64 f.sz,.slice ca f.cs.length cc] 122)).kept hgrow (G5.out.not_row (by decide) GR.out)).other (B':=w.heap.size+1+1) (by omega) (.slice (some ⟨g',0,none⟩) (p.length+1) cap');have q6:=((G6.out.alloc (.cells #[.string f.nm,.int .i64 f.sz,.slice ca f.cs.length cc] 122)).kept hgrow (G6.out.not_row (by decide) GR.out)).other (B':=w.heap.size+1+1) (by omega) (.slice (some ⟨g',0,none⟩) (p.length+1) cap');refine⟨GKA.out.trans hk2,GBA.out.trans hb2,p++[(f,.slice ca f.cs.length cc)],_,HF.out,by simp;omega,hv2,⟨?_,fun y hy=>?_,fun y hy k o n c e=>?_⟩,q5,q6,Below.trans GS.out hb2⟩
   ·rw[List.length_append,Eu];exact hr2
   ·exact(((GI.out y hy).since ((Since.refl _).alloc _)).grown hgrow (hnr y hy)).grown (grownBy_setCell' w2 (w.heap.size+1+1) _) (hb4 y hy)
   obtain⟨h1,cur,fz,h2⟩:=GFR.out y hy k o n c e;refine⟨h1,cur,fz,?_⟩;rw[Below.heap_setCell _ _ _ _ (fun e2=>hb4 y hy k o n c e (by rw[e2])),hgrow.block k (by have:=df h2;simp at this ⊢;omega) (fun e2=>hnr y hy k o n c e e2.symm),((Since.refl _).alloc _).block k (df h2)];exact h2
  have HN:Hid (readAll (gm (pre++[(⟨x,hx⟩:Ln)]))=none∨8<(pre++[(⟨x,hx⟩:Ln)]).length):=Or.inl (by
   rw[HPX.out,gT,H1.out,readAll,ry])
  have a5:=g5.alloc (.cells #[.string ⟨#[]⟩,.int .i64 0,.slice none 0 0] 122);have a6:=(g6.alloc (.cells #[.string ⟨#[]⟩,.int .i64 0,.slice none 0 0] 122)).other (B':=w.heap.size) (by omega) (.slice none 0 0);have c5:=a5.cell;have c6:=a6.cell;have f5:=a5.frozen;have f6:=a6.frozen;have G5:Hid (Boxed (((W1.alloc (.cells #[.string ⟨#[]⟩,.int .i64 0,.slice none 0 0] 122)).setCell ⟨w.heap.size,0,none⟩ (.slice none 0 0)).setCell ⟨w.heap.size+1,0,none⟩ (dM 3)) w.heap.size 110 (.slice none 0 0)):=(a5.set (.slice none 0 0)).other (B':=w.heap.size+1) (by omega) _;have G6:Hid (Boxed (((W1.alloc (.cells #[.string ⟨#[]⟩,.int .i64 0,.slice none 0 0] 122)).setCell ⟨w.heap.size,0,none⟩ (.slice none 0 0)).setCell ⟨w.heap.size+1,0,none⟩ (dM 3)) (w.heap.size+1) 46 (dM 3)):=a6.set (dM 3)
  have GS:Hid (Since w (((W1.alloc (.cells #[.string ⟨#[]⟩,.int .i64 0,.slice none 0 0] 122)).setCell ⟨w.heap.size,0,none⟩ (.slice none 0 0)).setCell ⟨w.heap.size+1,0,none⟩ (dM 3))):=((G7.out.alloc _).setCell (p:=⟨w.heap.size,0,none⟩) (Nat.le_refl _) _).setCell (p:=⟨w.heap.size+1,0,none⟩) (Nat.le_succ _) _;have GKK:Hid (KeepsOthers W (((W1.alloc (.cells #[.string ⟨#[]⟩,.int .i64 0,.slice none 0 0] 122)).setCell ⟨w.heap.size,0,none⟩ (.slice none 0 0)).setCell ⟨w.heap.size+1,0,none⟩ (dM 3))):=((GK.out.trans (KeepsOthers.alloc _ _)).trans (KeepsOthers.setCell _ _ _)).trans (KeepsOthers.setCell _ _ _);clear a5 a6 g3 g5 g6 ry;unfold PQ
  gi_wp2
  exact⟨GKK.out,rfl,HN.out,G5.out,G6.out,GS.out⟩
 case done=>
  rintro Dd zs W Xk hS ⟨p,v,h1,h2,h3,h4,h5,h6,h7⟩ hK;rw[hS] at h1;have HR:Hid (readAll (bQ s.data.toList)=some (p.map (fun x=>x.1))):=h1;have HF:Hid (iX W v (p.map (fun x=>x.1))):=h4.LP;have HZ:Hid (pz (p.map (fun x=>x.1))):=pE _ _ h1;have HLB:Hid (Lb W):=HB.out.since h7;have H3:Hid (Boxed W (w.heap.size+1+1) 110 v):=h3;have H5:Hid (Boxed W w.heap.size 110 (.slice none 0 0)):=h5;have H6:Hid (Boxed W (w.heap.size+1) 46 .nilIface):=h6;have H7:Hid (Since w W):=h7;obtain⟨va,vc,rfl⟩:∃va vc,v=.slice va p.length vc:=by
   obtain⟨va,vc,h,_⟩:=h4.LP;exact⟨va,vc,by rw[h,List.length_map]⟩
  have c3:=h3.cell;have HRW:Hid (Row w.heap.size W (.slice va p.length vc) p):=h4;clear h1 h3 h4 h5 h6 h7 hS;obtain⟨L,hL⟩:∃L,p.map (fun x=>x.1)=L:=⟨_,rfl⟩
  have Zb:Hid (p.map (fun x=>x.1)=L):=hL;rw[hL] at HR HF HZ;clear hL
  gi_wp2
  refine⟨trivial,?_⟩;cases hrt:right L with
  | false=>
   have HN:Hid (parse s.data.toList=none):=by
    show parse s.data.toList=none
    unfold parse;rw[HR.out];simp[hrt]
   refine(callsIn_wide.2 (PO L _ W HF.out HZ.out hrt)).mono ?_;rintro e W2 ⟨rfl,hs2⟩;have hK2:W2.heap[Dd]?=some (.deferred (some [])):=(hs2.block Dd (df hK)).trans hK;have a5:=bB H5.out hs2;have a6:=(bB H6.out hs2).other (B':=w.heap.size) (by omega) (.slice none 0 0);have d5:=a5.cell;have d6:=a6.cell;have f5:=a5.frozen;have f6:=a6.frozen;have G5:Hid (Boxed ((W2.setCell ⟨w.heap.size,0,none⟩ (.slice none 0 0)).setCell ⟨w.heap.size+1,0,none⟩ (dM 3)) w.heap.size 110 (.slice none 0 0)):=(a5.set (.slice none 0 0)).other (B':=w.heap.size+1) (by omega) _;have G6:Hid (Boxed ((W2.setCell ⟨w.heap.size,0,none⟩ (.slice none 0 0)).setCell ⟨w.heap.size+1,0,none⟩ (dM 3)) (w.heap.size+1) 46 (dM 3)):=a6.set (dM 3)
   have GS:Hid (Since w ((W2.setCell ⟨w.heap.size,0,none⟩ (.slice none 0 0)).setCell ⟨w.heap.size+1,0,none⟩ (dM 3))):=((H7.out.trans hs2).setCell (p:=⟨w.heap.size,0,none⟩) (Nat.le_refl _) _).setCell (p:=⟨w.heap.size+1,0,none⟩) (Nat.le_succ _) _;have hK3:((W2.setCell ⟨w.heap.size,0,none⟩ (.slice none 0 0)).setCell ⟨w.heap.size+1,0,none⟩ (dM 3)).heap[Dd]?=some (.deferred (some [])):=((KeepsOthers.setCell W2 ⟨w.heap.size,0,none⟩ (.slice none 0 0)).trans (KeepsOthers.setCell _ _ _)).same Dd _ hK2 rfl;have HK:Hid (((W2.setCell ⟨w.heap.size,0,none⟩ (.slice none 0 0)).setCell ⟨w.heap.size+1,0,none⟩ (dM 3)).heap[Dd]?=some (.deferred (some []))):=hK3;clear a5 a6 hK2 hK3 hrt hs2;unfold dM
   gi_wp2
   refine⟨by simp,.inl ⟨_,_,rfl,run_takeDeferred HK.out,?_⟩⟩;have hk:∀r,some Dd=some r→∃o:Obj,((W2.setCell ⟨w.heap.size,0,none⟩ (.slice none 0 0)).setCell ⟨w.heap.size+1,0,none⟩ (dM 3)).heap[r]?=some o∧o.isCells=false:=fun r e=>by cases e;exact⟨_,HK.out,rfl⟩
   refine⟨_,ky Tryz.results65 _ _ _ w.heap.size (w.heap.size+1) _ _ (by rfl) (by rfl) (cell_kept G5.out.cell (grownBy_putObj' _ Dd (.deferred none)) hk) (cell_kept G6.out.cell (grownBy_putObj' _ Dd (.deferred none)) hk) Tryz.isAgg110 Tryz.isAgg46,?_⟩;exact⟨Or.inr ⟨HN.out,rfl⟩,Below.trans GS.out (belowK_b (w:=W0) hB0.size _ Dd _ _ Xk HK.out rfl rfl)⟩
  | true=>
   refine(callsIn_wide.2 (Ad L _ W HF.out HZ.out HLB.out hrt)).mono ?_;rintro e W2 ⟨rfl,hs2⟩;have hK2:W2.heap[Dd]?=some (.deferred (some [])):=(hs2.block Dd (df hK)).trans hK;have hsd:s.toList=s.data.toList:=Lib.toList_data s;by_cases hpe:print L=s.data.toList
   ·have HN:Hid (parse s.data.toList=some L):=by
     show parse s.data.toList=some L
     unfold parse;rw[HR.out];simp[hrt,hpe]
    have hcmp:(print L==s.data.toList)=true:=by simp[hpe]
    have a5:=bB H5.out hs2;have a4:=bB H3.out hs2;have a6:=(bB H6.out hs2).other (B':=w.heap.size) (by omega) (.slice va p.length vc);have d4:=a4.cell;have d5:=a5.cell;have d6:=a6.cell;have f5:=a5.frozen;have f6:=a6.frozen;have G5:Hid (Boxed ((W2.setCell ⟨w.heap.size,0,none⟩ (.slice va p.length vc)).setCell ⟨w.heap.size+1,0,none⟩ .nilIface) w.heap.size 110 (.slice va p.length vc)):=(a5.set (.slice va p.length vc)).other (B':=w.heap.size+1) (by omega) _;have G6:Hid (Boxed ((W2.setCell ⟨w.heap.size,0,none⟩ (.slice va p.length vc)).setCell ⟨w.heap.size+1,0,none⟩ .nilIface) (w.heap.size+1) 46 .nilIface):=a6.set .nilIface
    have GS:Hid (Since w ((W2.setCell ⟨w.heap.size,0,none⟩ (.slice va p.length vc)).setCell ⟨w.heap.size+1,0,none⟩ .nilIface)):=((H7.out.trans hs2).setCell (p:=⟨w.heap.size,0,none⟩) (Nat.le_refl _) _).setCell (p:=⟨w.heap.size+1,0,none⟩) (Nat.le_succ _) _;have hK3:((W2.setCell ⟨w.heap.size,0,none⟩ (.slice va p.length vc)).setCell ⟨w.heap.size+1,0,none⟩ .nilIface).heap[Dd]?=some (.deferred (some [])):=((KeepsOthers.setCell W2 ⟨w.heap.size,0,none⟩ (.slice va p.length vc)).trans (KeepsOthers.setCell _ _ _)).same Dd _ hK2 rfl;have HK:Hid (((W2.setCell ⟨w.heap.size,0,none⟩ (.slice va p.length vc)).setCell ⟨w.heap.size+1,0,none⟩ .nilIface).heap[Dd]?=some (.deferred (some []))):=hK3;have HS2:Hid (Since W W2):=hs2;clear a4 a5 a6 hK2 hK3 hrt hpe;have HFS:Hid (iX ((W2.setCell ⟨w.heap.size,0,none⟩ (.slice va p.length vc)).setCell ⟨w.heap.size+1,0,none⟩ .nilIface) (.slice va p.length vc) L):=by
     have h1:=(HRW.out.since hs2).set (B:=w.heap.size) (by omega) (bB H5.out hs2) (.slice va p.length vc);have h2:=h1.set (B:=w.heap.size+1) (by omega) ((bB H6.out hs2).other (B':=w.heap.size) (by omega) _) .nilIface;show iX _ _ L
     rw[←Zb.out];exact h2.LP
    have XO:Hid (Row w.heap.size ((W2.setCell ⟨w.heap.size,0,none⟩ (.slice va p.length vc)).setCell ⟨w.heap.size+1,0,none⟩ .nilIface) (.slice va p.length vc) p):=by
     have h1:=(HRW.out.since hs2).set (B:=w.heap.size) (by omega) (bB H5.out hs2) (.slice va p.length vc);exact h1.set (B:=w.heap.size+1) (by omega) ((bB H6.out hs2).other (B':=w.heap.size) (by omega) _) .nilIface
    clear hs2
    gi_wp2
    refine⟨by simp,.inl ⟨_,_,rfl,run_takeDeferred HK.out,?_⟩⟩;have hk:∀r,some Dd=some r→∃o:Obj,((W2.setCell ⟨w.heap.size,0,none⟩ (.slice va p.length vc)).setCell ⟨w.heap.size+1,0,none⟩ .nilIface).heap[r]?=some o∧o.isCells=false:=fun r e=>by cases e;exact⟨_,HK.out,rfl⟩
    refine⟨_,ky Tryz.results65 _ _ _ w.heap.size (w.heap.size+1) _ _ (by rfl) (by rfl) (cell_kept G5.out.cell (grownBy_putObj' _ Dd (.deferred none)) hk) (cell_kept G6.out.cell (grownBy_putObj' _ Dd (.deferred none)) hk) Tryz.isAgg110 Tryz.isAgg46,?_⟩;exact⟨Or.inl ⟨L,_,HN.out,rfl,HFS.out.kept (grownBy_putObj' _ Dd (.deferred none)) hk,p,Zb.out,XO.out.kept (grownBy_putObj' _ Dd (.deferred none)) hk⟩,Below.trans GS.out (belowK_b (w:=W0) hB0.size _ Dd _ _ Xk HK.out rfl rfl)⟩
   have HN:Hid (parse s.data.toList=none):=by
    show parse s.data.toList=none
    unfold parse;rw[HR.out];simp[hrt,hpe]
   have hcmp:(print L==s.data.toList)=false:=beq_false_of_ne hpe;have a5:=bB H5.out hs2;have a6:=(bB H6.out hs2).other (B':=w.heap.size) (by omega) (.slice none 0 0);have d5:=a5.cell;have d6:=a6.cell;have f5:=a5.frozen;have f6:=a6.frozen;have G5:Hid (Boxed ((W2.setCell ⟨w.heap.size,0,none⟩ (.slice none 0 0)).setCell ⟨w.heap.size+1,0,none⟩ (dM 3)) w.heap.size 110 (.slice none 0 0)):=(a5.set (.slice none 0 0)).other (B':=w.heap.size+1) (by omega) _;have G6:Hid (Boxed ((W2.setCell ⟨w.heap.size,0,none⟩ (.slice none 0 0)).setCell ⟨w.heap.size+1,0,none⟩ (dM 3)) (w.heap.size+1) 46 (dM 3)):=a6.set (dM 3);have GS:Hid (Since w ((W2.setCell ⟨w.heap.size,0,none⟩ (.slice none 0 0)).setCell ⟨w.heap.size+1,0,none⟩ (dM 3))):=((H7.out.trans hs2).setCell (p:=⟨w.heap.size,0,none⟩) (Nat.le_refl _) _).setCell (p:=⟨w.heap.size+1,0,none⟩) (Nat.le_succ _) _
   have hK3:((W2.setCell ⟨w.heap.size,0,none⟩ (.slice none 0 0)).setCell ⟨w.heap.size+1,0,none⟩ (dM 3)).heap[Dd]?=some (.deferred (some [])):=((KeepsOthers.setCell W2 ⟨w.heap.size,0,none⟩ (.slice none 0 0)).trans (KeepsOthers.setCell _ _ _)).same Dd _ hK2 rfl;have HK:Hid (((W2.setCell ⟨w.heap.size,0,none⟩ (.slice none 0 0)).setCell ⟨w.heap.size+1,0,none⟩ (dM 3)).heap[Dd]?=some (.deferred (some []))):=hK3;clear a5 a6 hK2 hK3 hrt hs2 hpe
   gi_wp2
   refine⟨by simp,.inl ⟨_,_,rfl,run_takeDeferred HK.out,?_⟩⟩;have hk:∀r,some Dd=some r→∃o:Obj,((W2.setCell ⟨w.heap.size,0,none⟩ (.slice none 0 0)).setCell ⟨w.heap.size+1,0,none⟩ (dM 3)).heap[r]?=some o∧o.isCells=false:=fun r e=>by cases e;exact⟨_,HK.out,rfl⟩
   refine⟨_,ky Tryz.results65 _ _ _ w.heap.size (w.heap.size+1) _ _ (by rfl) (by rfl) (cell_kept G5.out.cell (grownBy_putObj' _ Dd (.deferred none)) hk) (cell_kept G6.out.cell (grownBy_putObj' _ Dd (.deferred none)) hk) Tryz.isAgg110 Tryz.isAgg46,?_⟩;exact⟨Or.inr ⟨HN.out,rfl⟩,Below.trans GS.out (belowK_b (w:=W0) hB0.size _ Dd _ _ Xk HK.out rfl rfl)⟩
 rintro Dd c pre W Xk hpre ⟨rfl,h2,h3,h4,h5⟩ hK
 gi_wp2
 refine⟨by simp,.inl ⟨_,_,rfl,run_takeDeferred hK,?_⟩⟩;have hk:∀r,some Dd=some r→∃o:Obj,W.heap[r]?=some o∧o.isCells=false:=fun r e=>by cases e;exact⟨_,hK,rfl⟩
 refine⟨_,ky Tryz.results65 _ _ _ w.heap.size (w.heap.size+1) _ _ (by rfl) (by rfl) (cell_kept h3.cell (grownBy_putObj' _ Dd (.deferred none)) hk) (cell_kept h4.cell (grownBy_putObj' _ Dd (.deferred none)) hk) Tryz.isAgg110 Tryz.isAgg46,?_⟩;exact⟨Or.inr ⟨Ia hpre h2,rfl⟩,h5.trans (belowK_b (w:=W0) hB0.size _ Dd _ _ Xk hK rfl rfl)⟩
end En
end Go.Proofs.YtmhcfaaggkidjaaGreatDoor
end
