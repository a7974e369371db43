import Derived.Deep.AppendSrc
import Derived.Lib.ConvBytes
import Derived.Test.YtlgbfkcpdelcbaaGreatDoorJ13
set_option linter.unusedSimpArgs false
set_option linter.unusedVariables false
set_option maxHeartbeats 8000000
set_option maxRecDepth 100000
namespace Go.Proofs.YtlgbfkcpdelcbaaGreatDoor
namespace Sm
open Go.RowKit
structure Bs (w:World)(B g n cap:Nat)(f:Nat→Int):Prop where
 new:B≤g
 le:n≤cap
 lt:g<w.heap.size
 holds:∀j,j<n→w.cell? ⟨g,j,none⟩=some (.int .u8 (f j))
 there:∀j,j<cap→(w.cell? ⟨g,j,none⟩).isSome=true∧w.frozen? ⟨g,j,none⟩=false
theorem Bs.since {w w':World}{B g n cap:Nat}{f:Nat→Int}(h:Bs w B g n cap f)(hs:Since w w'):Bs w' B g n cap f where
 new:=h.new
 le:=h.le
 lt:=Nat.lt_of_lt_of_le h.lt hs.size
 holds j hj:=by rw[hs.cell (p:=⟨g,j,none⟩) h.lt];exact h.holds j hj
 there j hj:=by rw[hs.cell (p:=⟨g,j,none⟩) h.lt,hs.frozen (p:=⟨g,j,none⟩) h.lt];exact h.there j hj
theorem info5:∃i,Tryz.prog.info? 5=some i∧i.zero=some (.int .u8 0)∧i.bytes=1∧i.size=1:=⟨_,rfl,by kernel_rfl,by kernel_rfl,by kernel_rfl⟩
theorem zc (v:Value)(m k:Nat)(h:k<m):(Builtin.zeroCells #[v] m)[k]?=some v:=by
 simp[Builtin.zeroCells,h,Nat.mod_one]
def uI (f:Nat→Int)(n:Nat)(d:Int):Nat→Int:=fun j=>if j<n then f j else d
theorem ZC {w:World}{B g n cap:Nat}{f:Nat→Int}(h:Bs w B g n cap f)(d:Int)(x:Value)(ty:TypeId)(hx:Src Tryz.prog 1 159 x 1 [.int .u8 d] w)(hB:B≤w.heap.size)(hn:n≤1000000) :
  ∃g' cap' w',(Builtin.append_ #[159,159] ty #[.slice (some ⟨g,0,none⟩) n cap,x]).run Tryz.prog w=.ok (.slice (some ⟨g',0,none⟩) (n+1) cap') w'∧
   Bs w' B g' (n+1) cap' (uI f n d)∧(∀a,Since a w→a.heap.size≤B→Since a w'):=by
 obtain⟨i,hi,hz,hby,hsz⟩:=info5
 replace hx:Src Tryz.prog i.size 159 x 1 [.int .u8 d] w:=by rw[hsz];exact hx
 by_cases hr:n+1≤cap
 ·have hrun:=run_append_room_src w 159 159 ty 5 i Tryz.underlying159 hi g 0 n cap x 1 [.int .u8 d] hx hr
   (fun j hj=>by simp at hj;subst hj;rw[hsz];have:=(h.there n (by omega)).1;simpa using this)
   (fun j hj=>by simp at hj;subst hj;rw[hsz];have:=(h.there n (by omega)).2;simpa using this)
  rw[hsz,Nat.mul_one,Nat.zero_add] at hrun;refine⟨g,cap,_,hrun,?_,?_⟩
  ·have e:w.setCells g n [.int .u8 d]=w.setCell ⟨g,n,none⟩ (.int .u8 d):=rfl;rw[e];refine⟨h.new,hr,by simpa using h.lt,fun j hj=>?_,fun j hj=>?_⟩
   ·unfold uI;by_cases e1:j=n
    ·subst e1;rw[if_neg (by omega)];obtain⟨u,hu⟩:=Option.isSome_iff_exists.1 (h.there j (by omega)).1;exact World.cell?_setCell_same _ _ _ hu
    rw[if_pos (by omega),World.cell?_setCell_other _ _ _ _ (by intro hc;injection hc with _ h2;omega)];exact h.holds j (by omega)
   refine⟨?_,by simp;exact(h.there j hj).2⟩;by_cases e1:j=n
   ·subst e1;obtain⟨u,hu⟩:=Option.isSome_iff_exists.1 (h.there j hj).1;rw[World.cell?_setCell_same _ _ _ hu];rfl
   rw[World.cell?_setCell_other _ _ _ _ (by intro hc;injection hc with _ h2;omega)];exact(h.there j hj).1
  intro a ha hle;exact ha.setCell (p:=⟨g,n,none⟩) (Nat.le_trans hle h.new) _
 have hold:(Builtin.firstCells i.size n (.slice (some ⟨g,0,none⟩) n cap)).run Tryz.prog w.drew=.ok ((List.range n).map fun j=>Value.int .u8 (f j)).toArray w.drew:=by
  rw[hsz];refine run_firstCells_some w.drew 1 n ⟨g,0,none⟩ n cap _ (by simp) (fun j u hu=>?_);have hj:j<n:=by
   rcases Nat.lt_or_ge j n with h1 | h1
   ·exact h1
   rw[List.getElem?_eq_none (by simpa using h1)] at hu;cases hu
  rw[List.getElem?_map,List.getElem?_range hj] at hu;simp at hu;subst hu;have:=h.holds j hj;rw[Addr.add_lit,Nat.zero_add]
  simpa using this
 have hrun:=run_append_grow_src w 159 159 ty 5 i _ Tryz.underlying159 hi hz (some ⟨g,0,none⟩) n cap _ hold x 1 [.int .u8 d] hx (by omega) (by omega) (by
  rw[hby,Nat.mul_one];have hc:cap≤n:=by have:=h.le;omega
  have:Builtin.nextslicecap (n+1) cap≤100000000:=by
   unfold Builtin.nextslicecap;split
   ·omega
   split
   ·omega
   simp only[Builtin.growBy]
   repeat' split
   all_goals omega
  omega)
 refine⟨w.heap.size,_,_,hrun,?_,?_⟩
 ·have hge:=grownCap_ge w (n+1) cap 5;generalize grownCap w (n+1) cap 5=c at *;have hcell:∀j,j<c→(((List.range n).map (fun j=>Value.int .u8 (f j))++[Value.int .u8 d]).toArray++Builtin.zeroCells (Value.int IntKind.u8 0).cells (c-(n+1)))[j]?=some (if j<n+1 then .int .u8 (uI f n d j) else .int .u8 0):=by
   intro j hj;unfold uI;rw[Array.getElem?_append];by_cases h1:j<n+1
   ·rw[if_pos (by simpa using h1),if_pos h1];by_cases h2:j<n
    ·rw[if_pos h2];simp[List.getElem?_append,h2]
    have e:j=n:=by omega
    subst e;rw[if_neg (by omega)];simp
   rw[if_neg (by simpa using h1),if_neg h1];have hl:((List.range n).map (fun j=>Value.int .u8 (f j))++[Value.int .u8 d]).toArray.size=n+1:=by simp
   rw[hl];exact zc _ _ _ (by omega)
  refine⟨hB,by omega,by simp,fun j hj=>?_,fun j hj=>?_⟩
  ·rw[World.cell?_alloc_at _ _ _ _ (by simp),hcell j (by omega),if_pos hj]
  refine⟨?_,World.frozen?_alloc_at _ _ _ _ (by simp)⟩;rw[World.cell?_alloc_at _ _ _ _ (by simp),hcell j hj];rfl
 intro a ha hle;exact ha.drew.alloc _
theorem tV {ops:Array Oper}{rest:List Oper}{o:Oper}{a:Act}{Q:Exit→Act→World→Prop}(w:World)(hgd:o.guard=none)(s x:Operand)(ho:o.op=.call { callee:=.builtin .append,args:=#[s,x],argTypes:=#[159,159] })(B g n cap:Nat)(f:Nat→Int)(hs:a.eval s=.slice (some ⟨g,0,none⟩) n cap)(h:Bs w B g n cap f)(d:Int)(ad:Addr)(c:Nat)(hx:a.eval x=.slice (some ad) 1 c)(hnews:∀j u,[Value.int .u8 d][j]?=some u→w.cell? (ad.add j)=some u)(hB:B≤w.heap.size)(hn:n≤1000000)(hK:∀g' cap' w',Bs w' B g' (n+1) cap' (uI f n d)→(∀b,Since b w→b.heap.size≤B→Since b w')→wpList Tryz.prog ops Q rest (a.put o.dst (.slice (some ⟨g',0,none⟩) (n+1) cap')) w'):wpList Tryz.prog ops Q (o::rest) a w:=by
 refine wpList_plain hgd fun K hK'=>?_
 obtain⟨g',cap',w',hrun,h1,h2⟩:=ZC h d (.slice (some ad) 1 c) o.type (Src.ofSlice w Tryz.underlying159 ad 1 c [.int .u8 d] rfl hnews (fun u hu=>by simp at hu;subst hu;rfl)) hB hn;unfold Oper.wp;simp[execOp,ho,resolve,invoke,builtin,hs,hx,hrun,Result.andThen];exact hK' _ _ (hK g' cap' w' h1 h2)
def ik (s:ByteArray)(j:Nat):Int:=((s.data.toList.getD j 0).toNat:Int)
theorem Wo (w:World)(s:ByteArray):Bs (Lib.bytesWorld w 5 s) w.heap.size w.heap.size s.size (grownCap w s.size 0 5) (ik s):=by
 have hge:=grownCap_ge w s.size 0 5;have hsz:(Lib.bytesCells w 5 s).size=grownCap w s.size 0 5:=by
  have:s.data.size=s.size:=rfl;simp[Lib.bytesCells];omega
 refine⟨Nat.le_refl _,hge,by rw[Lib.bytesWorld_size];omega,fun j hj=>Lib.bytesWorld_cell w 5 s j hj,fun j hj=>⟨?_,?_⟩⟩
 ·simp only[World.cell?,Lib.bytesWorld_at_new];rw[←hsz] at hj;simp[hj]
 simp only[World.frozen?,Lib.bytesWorld_at_new];rw[←hsz] at hj;simp;omega
theorem qJ (w:World)(s:ByteArray):Since w (Lib.bytesWorld w 5 s):=
 ⟨rfl,rfl,rfl,by rw[Lib.bytesWorld_size];omega,fun k hk=>Lib.bytesWorld_at_old w 5 s k hk⟩
theorem xg (w:World)(s:ByteArray):(convert 9 159 (.string s)).run Tryz.prog w=.ok (.slice (some ⟨w.heap.size,0,none⟩) s.size (grownCap w s.size 0 5)) (Lib.bytesWorld w 5 s):=
 Lib.run_convert_string_bytes w 9 159 5 s Tryz.underlying9 Tryz.underlying159 Tryz.underlying5
end Sm
end Go.Proofs.YtlgbfkcpdelcbaaGreatDoor
