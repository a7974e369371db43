import Derived.RangeFuncNested
import Derived.RangeFuncBound
import Derived.Shelf.RegionOpen
import Derived.OwnWalkIn
import Derived.LoopNIn
import Derived.LoopIn
import Derived.Test.YtlgbfkcpdelcbaaGreatDoorJ18
set_option linter.unusedSimpArgs false
set_option linter.unusedVariables false
set_option maxHeartbeats 8000000
set_option maxRecDepth 100000
namespace Go.Proofs.YtlgbfkcpdelcbaaGreatDoor
section
open Go.RowKit Go.Shelf
attribute [local go_sem] Oper.semAt_some
def item (ws:List (Nat × ByteArray))(i:Nat):Nat × Nat × ByteArray:=(i,ws.getD i (0,⟨#[]⟩))
def dn (ws:List (Nat × ByteArray))(k:Nat):List (Nat × Nat × ByteArray):=(List.range k).map fun j=>item ws (ws.length-1-j)
theorem Wz (ws:List (Nat × ByteArray))(k:Nat):dn ws (k+1)=dn ws k++[item ws (ws.length-1-k)]:=by
 unfold dn;rw[List.range_succ,List.map_append]
 rfl
theorem Oi (ws:List (Nat × ByteArray))(k:Nat)(hk:k≤ws.length):dn ws k <+: dn ws ws.length:=by
 have h:dn ws k=(dn ws ws.length).take k:=by
  unfold dn;rw[←List.map_take,List.take_range,Nat.min_eq_left hk]
 rw[h];exact List.take_prefix _ _
def vD (n₀:Nat)(W:World)(v:Value)(ws:List (Nat × ByteArray)):Prop:=
 (v=.slice none 0 0∧ws=[])∨∃g cap,v=.slice (some ⟨g,0,none⟩) ws.length cap∧g<n₀∧∀i,i<ws.length→W.cell? ⟨g,i*2,none⟩=some (.int .i64 ((ws.getD i (0,⟨#[]⟩)).1:Int))∧W.cell? ⟨g,i*2+1,none⟩=some (.string (ws.getD i (0,⟨#[]⟩)).2)
theorem vD.below {n₀:Nat}{A B:World}{v:Value}{ws:List (Nat × ByteArray)}(h:vD n₀ A v ws)(hb:Below n₀ A B):vD n₀ B v ws:=by
 rcases h with h | ⟨g,cap,hv,hg,hc⟩
 ·exact Or.inl h
 exact Or.inr ⟨g,cap,hv,hg,fun i hi=>⟨(hb.cell (p:=⟨g,i*2,none⟩) hg).trans (hc i hi).1,(hb.cell (p:=⟨g,i*2+1,none⟩) hg).trans (hc i hi).2⟩⟩
def ZL (x:Nat × Nat × ByteArray):Array Value:=#[.int .i64 (x.1:Int),.agg #[.int .i64 (x.2.1:Int),.string x.2.2]]
theorem RO (F:Fence)(n:Nat)(h6:F.fn 259)(hro:F.round=none)(hn:1≤n)(l Bn n₀:Nat)(v:Value)(ws:List (Nat × ByteArray))(J Jx:List (Nat × Nat × ByteArray)→World→Prop)(hY:∀pre x W,J pre W→pre.length<ws.length→YieldAt F (n-1) Tryz.prog l (ZL x) W fun e W'=>
   (e=.returned (.bool true)∧J (pre++[x]) W'∧Below n₀ W W')∨(e=.returned (.bool false)∧Jx (pre++[x]) W'))(W:World)(hBn:W.cell? ⟨Bn,0,none⟩=some v)(hBl:Bn<n₀)(hL:vD n₀ W v ws)(hlen:ws.length≤1000)(h0:J [] W) :
  CallsIn F n Tryz.prog 259 #[.func (.yield l) #[] #[],.pointer (some ⟨Bn,0,none⟩)] W fun e W'=>(∃v,e=.returned v)∧
   ((∃ys,ys=dn ws ws.length∧J ys W')∨(∃pre,pre <+: dn ws ws.length∧Jx pre W')):=by
 rcases hL with⟨rfl,rfl⟩ | ⟨g,cap,rfl,hg,hc⟩
 ·refine callsIn_of_wp Tryz.func259 rfl h6 ?_ hro;simp only[Tryz.ntmps259,List.size_toArray,List.length_cons,List.length_nil,Nat.reduceAdd,Nat.reduceSub,Array.replicate_succ,Array.replicate_zero,List.push_toArray,List.append_toArray,List.nil_append,List.cons_append]
  gi_wp2
  gi_loopw [3] (fun p wr=>p=.int .i64 (-1)∧J [] wr) (fun p wr=>0)
  case atStart=>exact⟨rfl,h0⟩
  obtain⟨rfl,hJ⟩:=hrel
  gi_wp2
  go_end0
  exact⟨⟨_,rfl⟩,.inl ⟨_,rfl,hJ⟩⟩
 refine callsIn_of_wp Tryz.func259 rfl h6 ?_ hro;simp only[Tryz.ntmps259,List.size_toArray,List.length_cons,List.length_nil,Nat.reduceAdd,Nat.reduceSub,Array.replicate_succ,Array.replicate_zero,List.push_toArray,List.append_toArray,List.nil_append,List.cons_append]
 gi_wp2
 gi_loopw [3] (fun p wr=>∃k:Nat,k≤ws.length∧p=.int .i64 ((ws.length-k:Nat)-1:Int)∧vD n₀ wr (.slice (some ⟨g,0,none⟩) ws.length cap) ws∧wr.cell? ⟨Bn,0,none⟩=some (.slice (some ⟨g,0,none⟩) ws.length cap)∧J (dn ws k) wr)
  (fun p wr=>(intOf p+1).toNat)
 case atStart=>
  exact⟨0,Nat.zero_le _,by simp,Or.inr ⟨g,cap,rfl,hg,hc⟩,hBn,h0⟩
 obtain⟨k,hk,rfl,hr,hb,hJ⟩:=hrel;by_cases hlt:k<ws.length
 ·obtain⟨m,hm⟩:∃m,ws.length-k=m+1:=⟨ws.length-k-1,by omega⟩
  have hmi:ws.length-1-k=m:=by omega
  have Qt:m<ws.length:=by omega
  have hr':=hr;rcases hr with⟨e,_⟩ | ⟨g',cap',he,hg',hc'⟩
  ·cases e
  injection he with he1 he2 he3
  injection he1 with he1
  injection he1 with he1
  subst he1;subst he3;obtain⟨c1,c2⟩:=hc' m Qt;have hJd:=Wz ws k;rw[hmi] at hJd;obtain⟨fn,tmps,assign,body,hy,hR⟩:=hY (dn ws k) (item ws m) wr hJ (by simp[dn];omega);have hy':(Instr.yield l #[.int .i64 (m:Int),.agg #[.int .i64 ((ws.getD m (0,⟨#[]⟩)).1:Int),.string (ws.getD m (0,⟨#[]⟩)).2]]).run Tryz.prog wr=.ok (.round l fn tmps assign body) wr:=hy;have e1:(((ws.length-k:Nat):Int)-1)=(m:Int):=by omega
  rw[e1];have b3d:(m:Int)<ws.length:=by omega
  have HR:=(show Hid _ from hr')
  clear hy hc hc' hr' hY;generalize (ws.getD m (0,⟨#[]⟩)).1=x1 at *;generalize (ws.getD m (0,⟨#[]⟩)).2=x2 at *
  gi_wp2
  refine hR.mono ?_;rintro e W3 (⟨rfl,hJ3,hk3⟩ | ⟨rfl,hJx3⟩)
  ·have hr3:=vD.below (show vD n₀ wr _ ws from HR.o) hk3;have hb3:W3.cell? ⟨Bn,0,none⟩=some (.slice (some ⟨g,0,none⟩) ws.length cap):=(hk3.cell (p:=⟨Bn,0,none⟩) hBl).trans hb;have HR3:=(show Hid _ from hr3)
   clear hr3
   gi_wp2
   go_roundw
   case rel=>
    refine⟨k+1,by omega,?_,HR3.o,hb3,by rw[hJd];exact hJ3⟩
    congr 1
    omega
   case measure=>simp[intOf]
  gi_wp2
  refine bodyPost_ret (results_none rfl _ _ _) rfl ?_;refine⟨⟨_,rfl⟩,.inr ⟨dn ws k++[item ws m],?_,hJx3⟩⟩;rw[←hJd];exact Oi ws (k+1) (by omega)
 have hke:k=ws.length:=by omega
 subst hke;rw[Nat.sub_self]
 gi_wp2
 go_end0
 exact⟨⟨_,rfl⟩,.inl ⟨_,rfl,hJ⟩⟩
theorem WA (F:Fence)(n:Nat)(h5:F.fn 204)(hro:F.round=none)(a:Option Addr)(m c:Nat)(w:World) :
  CallsIn F n Tryz.prog 204 #[.slice a m c] w fun e w'=>e=.returned (.func (.func 259) #[] #[.pointer (some ⟨w.heap.size,0,none⟩)])∧w'=w.alloc (.cells #[.slice a m c] 102):=by
 refine callsIn_of_wp Tryz.func204 rfl h5 ?_ hro;simp only[Tryz.ntmps204,List.size_toArray,List.length_cons,List.length_nil,Nat.reduceAdd,Nat.reduceSub,Array.replicate_succ,Array.replicate_zero,List.push_toArray,List.append_toArray,List.nil_append,List.cons_append]
 gi_wp2
 go_ret;exact⟨rfl,rfl⟩
theorem Iz (F:Fence)(n:Nat)(h6:F.fn 259)(hro:F.round=none)(hn:1≤n)(Bn n₀:Nat)(v:Value)(ws:List (Nat × ByteArray))(w:World)(hBn:Bn<n₀)(hn₀:n₀≤w.heap.size)(hc:w.cell? ⟨Bn,0,none⟩=some v)(hL:vD n₀ w v ws)(hlen:ws.length≤1000) :
  SeqStopsK F n Tryz.prog 259 #[.pointer (some ⟨Bn,0,none⟩)] ZL (Below n₀) (fun ys=>ys=dn ws ws.length) (fun pre=>pre <+: dn ws ws.length) ws.length w:=fun l J Jx W hW _ _ hY h0=>
 RO F n h6 hro hn l Bn n₀ v ws J Jx hY W ((hW.cell (p:=⟨Bn,0,none⟩) (by show Bn<_;omega)).trans hc) hBn (hL.below (hW.mono hn₀)) hlen h0
end
section
open Go.RowKit Go.Shelf
attribute [local go_sem] Oper.semAt_some
def hit (k:Nat)(kept:Nat→Bool)(x:Nat × Nat × ByteArray):Bool:=x.2.1==k&&kept x.1
def MC (ws:List (Nat × ByteArray))(k:Nat)(kept:Nat→Bool):Option (Nat × Nat × ByteArray):=(dn ws ws.length).find? (hit k kept)
def Dv.aL (D:Dv)(k:Nat)(kept:Nat→Bool):Nat→UInt8:=match MC D.ws k kept with | some x=>sb x.2.2 | none=>D.slot k
theorem rM {β:Type}(b n:Nat)(f:β→Nat→Value):Own (fun s W=>aA W b n (f s)):=fun s X Y row hs hg hrow=>
 ⟨fun j hj=>cell_kept (hs.cell j hj) hg hrow,fun j hj=>(frozen_kept (hs.cell j hj) hg hrow).trans (hs.frozen j hj)⟩
theorem vD.ll {W:World}{v:Value}{ws:List (Nat × ByteArray)}(h:W.ownsRow 0 269 2 v ws.length (lg ws))(n₀:Nat)(hn:W.heap.size≤n₀):vD n₀ W v ws:=by
 rcases h.2 with⟨hv,h0⟩ | ⟨g,cap,cur,hv,_,hg,h1,h2,h3,h4⟩
 ·exact Or.inl ⟨hv,List.length_eq_zero_iff.1 h0⟩
 refine Or.inr ⟨g,cap,hv,by have:=(Array.getElem?_eq_some_iff.1 hg).1;omega,fun i hi=>?_⟩;have hw:∀(ws:List (Nat × ByteArray)) (i:Nat),i<ws.length→(lg ws)[i*2]?=some (.int .i64 ((ws.getD i (0,⟨#[]⟩)).1:Int))∧(lg ws)[i*2+1]?=some (.string (ws.getD i (0,⟨#[]⟩)).2):=by
  intro ws;induction ws with
  | nil=>intro i hi;simp at hi
  | cons p r ih=>
   intro i hi;cases i with
   | zero=>exact⟨rfl,rfl⟩
   | succ i=>
    have:=ih i (by simpa using hi);rw[show (i+1)*2=i*2+1+1 by omega];exact this
 obtain⟨e1,e2⟩:=hw ws i hi;have hcell:∀(o:Nat) (x:Value),o<ws.length*2→(lg ws)[o]?=some x→W.cell? ⟨g,o,none⟩=some x:=fun o x ho hx=>by
  rw[←h4,List.getElem?_take_of_lt ho,Array.getElem?_toList] at hx;simp[World.cell?,hg,hx]
 exact⟨hcell _ _ (by omega) e1,hcell _ _ (by omega) e2⟩
theorem DD {b:Nat}{W W':World}{x:Value}(h:Fr b none W W')(hc:W.cell? ⟨b,0,none⟩=some x):KeepsOthers W W':=by
 refine⟨h.size,fun k o hk ho=>?_⟩;obtain⟨o',h1,h2⟩:=cells_of_cell hc;rw[h.block k (Array.getElem?_eq_some_iff.1 hk).1 (fun e=>by
  subst e;rw[h1] at hk;cases hk
  rw[h2] at ho;cases ho) (by simp)]
 exact hk
theorem DF {α:Type}{p:α→Bool}{pre l:List α}{x:α}(h:pre <+: l)(hf:pre.find? p=some x):l.find? p=some x:=by
 obtain⟨t,rfl⟩:=h;rw[List.find?_append,hf]
 rfl
theorem xk (D:Dv)(v:Value)(b k zo:Nat)(ou:Array Value)(kept:Nat→Bool)(w:World)(hd:Dev w b D v)(hk:k<2)(heg:∀args w,(callFunc zo args).run Tryz.prog w=.ok (.enter zo args) w)(hkc:∀(i:Nat) (W:World),Below w.heap.size w W→Calls Tryz.prog zo (#[.int .i64 i]++ou) W fun e W'=>e=.returned (.bool (kept i))∧W'=W) :
  Calls Tryz.prog 140 #[.pointer (some ⟨b,0,none⟩),.int .i64 k,.func (.func zo) #[] ou] w fun e w'=>e=.returned (.agg (ak 500 (fun i=>bv (D.aL k kept i))).toArray)∧Since w w':=by
 have c1:=hd.aQ.cell 17400 (by omega);rw[jG] at c1;obtain⟨a0,m0,cap0,rfl⟩:∃a m c,v=.slice a m c:=by
  rcases hd.own.2 with⟨hv,_⟩ | ⟨g,cap,cur,hv,_⟩
  ·exact⟨_,_,_,hv⟩
  exact⟨_,_,_,hv⟩
 have hbl:=hd.lt;have hwr:=vD.ll hd.own w.heap.size (Nat.le_refl _);have hlen:=hd.ok.few;have HD:=(show Hid _ from hd)
 clear hd;have hS0:=(((Since.refl w).alloc (.cells #[.int .i64 k] 3)).alloc (.cells #[.func (.func zo) #[] ou] 148)).alloc (.cells Tryz.zeroCells100 100);have c3:=(HD.o.since hS0).aQ.cell 17400 (by omega);rw[jG] at c3;have qI:=(show Hid _ from hS0)
 clear hS0;refine(callsIn_wide (n:=6)).1 ?_;refine callsIn_of_wp_marks Tryz.func140 rfl trivial ?_ rfl;simp only[Tryz.ntmps140,List.size_toArray,List.length_cons,List.length_nil,Nat.reduceAdd,Nat.reduceSub,Array.replicate_succ,Array.replicate_zero,List.push_toArray,List.append_toArray,List.nil_append,List.cons_append]
 gi_wp2_with (refine⟨trivial,?_⟩;gi_at_call 204;refine(WA Fence.wide _ trivial rfl _ _ _ _).mono ?_;rintro e w' ⟨rfl,rfl⟩)
 have b0:=(((Boxed.new w 3 (.int .i64 k)).alloc (.cells #[.func (.func zo) #[] ou] 148)).alloc (.cells Tryz.zeroCells100 100)).alloc (.cells #[.slice a0 m0 cap0] 102);have b1:=((Boxed.new (w.alloc (.cells #[.int .i64 k] 3)) 148 (.func (.func zo) #[] ou)).alloc (.cells Tryz.zeroCells100 100)).alloc (.cells #[.slice a0 m0 cap0] 102);have b2:aA ((((w.alloc (.cells #[.int .i64 k] 3)).alloc (.cells #[.func (.func zo) #[] ou] 148)).alloc (.cells Tryz.zeroCells100 100)).alloc (.cells #[.slice a0 m0 cap0] 102)) (w.heap.size+1+1) 500 (fun _=>bv 0):=(aA.new _ _ _ _ _ (fun j hj=>jP j hj) _ (by simp)).since ((Since.refl _).alloc _);have b3:=Boxed.new (((w.alloc (.cells #[.int .i64 k] 3)).alloc (.cells #[.func (.func zo) #[] ou] 148)).alloc (.cells Tryz.zeroCells100 100)) 102 (.slice a0 m0 cap0)
 have hB0:Below w.heap.size w ((((w.alloc (.cells #[.int .i64 k] 3)).alloc (.cells #[.func (.func zo) #[] ou] 148)).alloc (.cells Tryz.zeroCells100 100)).alloc (.cells #[.slice a0 m0 cap0] 102)):=Since.alloc qI.o _;simp only[World.size_alloc] at b1 b3;have hsz:((((w.alloc (.cells #[.int .i64 k] 3)).alloc (.cells #[.func (.func zo) #[] ou] 148)).alloc (.cells Tryz.zeroCells100 100)).alloc (.cells #[.slice a0 m0 cap0] 102)).heap.size=w.heap.size+4:=by simp
 obtain⟨W0,hW0⟩:∃W0,((((w.alloc (.cells #[.int .i64 k] 3)).alloc (.cells #[.func (.func zo) #[] ou] 148)).alloc (.cells Tryz.zeroCells100 100)).alloc (.cells #[.slice a0 m0 cap0] 102))=W0:=⟨_,rfl⟩
 rw[hW0] at b0 b1 b2 b3 hB0 hsz ⊢;clear hW0 c3;have a6U:vD W0.heap.size W0 (.slice a0 m0 cap0) D.ws:=by
  have h1:=hwr.below hB0;rcases h1 with h1 | ⟨g,cp,hv,hg,hc⟩
  ·exact Or.inl h1
  exact Or.inr ⟨g,cp,hv,by omega,hc⟩
 have h1n:1≤6:=by omega
 refine wpIn_rangeFunc_ownH (F:=Fence.wide) (n:=6) rfl h1n (gf:=259) (lb:=#[.pointer (some ⟨w.heap.size+1+1+1,0,none⟩)]) rfl trivial (enters_of Tryz.func259 (by kernel_rfl) rfl)
  (Iz Fence.wide 5 trivial rfl (by omega) (w.heap.size+1+1+1) W0.heap.size (.slice a0 m0 cap0) D.ws W0 (by omega) (Nat.le_refl _) b3.cell a6U hlen) belowK_t (belowK_b (Nat.le_refl _)) (Below.refl _ _) (fun _=>rfl)
  (fun pre W=>(((pre.find? (hit k kept)=none∧Boxed W w.heap.size 3 (.int .i64 k))∧Boxed W (w.heap.size+1) 148 (.func (.func zo) #[] ou))∧aA W (w.heap.size+1+1) 500 (fun _=>bv 0))∧Below W0.heap.size W0 W)
  (fun c pre W=>((c=.ret∧∃x,pre.find? (hit k kept)=some x∧True)∧∃x,pre.find? (hit k kept)=some x∧aA W (w.heap.size+1+1) 500 (fun i=>bv (sb x.2.2 i)))∧Below w.heap.size w W)
  (OwnFrom.and (OwnFrom.and (OwnFrom.and (OwnFrom.and (ownFrom_pure _ _) (Own.from (boxed_own _ _ _) _)) (Own.from (boxed_own _ _ _) _)) (Own.from (rM _ _ (fun _ _=>bv 0)) _)) (ownFrom_below (Nat.le_refl _) (Nat.le_refl _)))
  (fun c=>OwnFrom.and (OwnFrom.and (ownFrom_pure _ _) (fun pre X Y row hs hg hr=>by obtain⟨x,hx,hc⟩:=hs;exact⟨x,hx,rM (w.heap.size+1+1) 500 (fun (_:Unit) i=>bv (sb x.2.2 i)) () X Y row hc hg (fun r e=>(hr r e).2)⟩)) (ownFrom_below (Nat.le_refl _) (by omega)))
  ⟨⟨⟨⟨rfl,b0⟩,b1⟩,b2⟩,Below.refl _ _⟩
  (fun x a' W=>∃Bx,aA W Bx 2 (fun j=>if j=0 then .int .i64 (x.2.1:Int) else .string x.2.2)∧a'={ tmps:=#[.pointer (some ⟨b,0,none⟩),.int .i64 k,.func (.func zo) #[] ou,undef,.pointer (some ⟨w.heap.size,0,none⟩),.pointer (some ⟨w.heap.size+1,0,none⟩),.pointer (some ⟨w.heap.size+1+1,0,none⟩),.int .i64 (x.1:Int),.pointer (some ⟨Bx,0,none⟩),.pointer (some ⟨b,0,none⟩),.pointer (some ⟨b,0,none⟩),.pointer (some ⟨b,17400,none⟩),.slice a0 m0 cap0,.func (.func 259) #[] #[.pointer (some ⟨w.heap.size+1+1+1,0,none⟩)],.int .i64 (x.1:Int),.agg #[.int .i64 (x.2.1:Int),.string x.2.2],undef,undef,undef,undef,undef,undef,undef,undef,undef,undef,undef,undef,undef,undef,undef,undef,undef,undef],defers:=[] })
  (fun x a' _ X Y row hs hg hr=>by obtain⟨Bx,e2,e3⟩:=hs;exact⟨Bx,rM Bx 2 (fun (_:Unit) j=>if j=0 then .int .i64 (x.2.1:Int) else .string x.2.2) () X Y row e2 hg (fun r e=>(hr r e).2),e3⟩)
  ?assign ?body ?done ?stop
 case assign=>
  rintro l pre ⟨x0,x1,x2⟩ W K ⟨⟨⟨⟨hp,q0⟩,q1⟩,q2⟩,hB1⟩ hK;simp only[ZL]
  gi_wp2
  refine hK _ _ ((KeepsOthers.alloc _ _).from _) ((Below.refl _ W).alloc hB1.size _) ⟨⟨⟨⟨hp,q0.alloc _⟩,q1.alloc _⟩,q2.since ((Since.refl _).alloc _)⟩,hB1.alloc hB1.size _⟩ ⟨W.heap.size,aA.new W 2 _ _ _ (fun j hj=>?_) _ rfl,rfl⟩
  match j,hj with
  | 0,_=>rfl
  | 1,_=>rfl
 case body=>
  rintro l pre ⟨x0,x1,x2⟩ a' W hl hr ⟨⟨⟨⟨hp,q0⟩,q1⟩,q2⟩,hB1⟩ ⟨Bx,bX,rfl⟩ hlt;have d0:=q0.cell;have d1:=q1.cell;have d2:=bX.cell 0 (by omega);have d3:=bX.cell 1 (by omega);simp only[if_pos,if_neg,Nat.one_ne_zero,if_false,if_true] at d2 d3;have hBw:Below w.heap.size w W:=hB0.trans (hB1.mono (by omega));have Q0:=(show Hid _ from q0)
  have Q1:=(show Hid _ from q1)
  have Q2:=(show Hid _ from q2)
  have BX:=(show Hid _ from bX)
  clear q0 q1 q2 bX hr;by_cases hx:x1=k
  ·subst hx;cases hkp:kept x0 with
   | false=>
    gi_wp2
    refine⟨?_,?_⟩
    ·first
     | trivial
     | (intro f _;trivial)
    refine(CallsIn.inRound l (callsIn_wide.2 (hkc x0 W hBw))).mono ?_;rintro e W' ⟨rfl,rfl⟩;rw[hkp]
    gi_wp2
    refine⟨KeepsFrom.refl _ _,Below.refl _ _,⟨⟨⟨?_,Q0.out⟩,Q1.out⟩,Q2.out⟩,hB1⟩;rw[List.find?_append,hp];simp[hit,hkp]
   | true=>
    gi_wp2
    refine⟨?_,?_⟩
    ·first
     | trivial
     | (intro f _;trivial)
    refine(CallsIn.inRound l (callsIn_wide.2 (hkc x0 W hBw))).mono ?_;rintro e W' ⟨rfl,rfl⟩;rw[hkp]
    gi_wp2
    refine⟨?_,?_⟩
    ·first
     | trivial
     | (intro f _;trivial)
    refine(CallsIn.inRound l (callsIn_wide.2 (mQ x2 _))).mono ?_;rintro e W2 ⟨rfl,hS2⟩;have hC2:=Q2.out.since hS2;have hst:=hC2.store Tryz.prog 0 500 (by omega) (fun i=>bv (sb x2 i)) (fun _ _=>rfl);have hL:(ak 500 (fun i=>bv (sb x2 i))).length=500:=ax _ _;have gW:=(hC2.setRow 0 500 (by omega) (fun i=>bv (sb x2 i))).congr (g:=fun i=>bv (sb x2 i)) (fun j hj=>by unfold fP;rw[if_pos (by omega)];rfl);have jR:=(show Hid _ from gW)
    have bQ:Below w.heap.size w (W2.setCells (w.heap.size+1+1) 0 (ak 500 (fun i=>bv (sb x2 i)))):=Since.setCells (Since.trans (show Since w W' from hBw) hS2) (by omega) _ _;have dZ:=(show Hid _ from bQ)
    clear hC2 gW bQ
    gi_wp2
    have hfi:(pre++[(x0,x1,x2)]).find? (hit x1 kept)=some (x0,x1,x2):=by
     rw[List.find?_append,hp];simp[hit,hkp]
    exact⟨(DD ((Fr.ag hS2).trans' (Fr.setCells _ _ _ _ _)) (Q2.out.cell 0 (by omega))).from _,⟨⟨rfl,_,hfi,trivial⟩,_,hfi,jR.o⟩,dZ.o⟩
  have hx2:¬(x1:Int)=(k:Int):=by omega
  gi_wp2
  refine⟨(fun _ h=>by cases h),?_⟩
  gi_wp2
  refine⟨KeepsFrom.refl _ _,Below.refl _ _,⟨⟨⟨?_,Q0.out⟩,Q1.out⟩,Q2.out⟩,hB1⟩;rw[List.find?_append,hp];simp[hit,hx]
 case done=>
  rintro Dd zs W ZM rfl ⟨⟨⟨⟨hp,q0⟩,q1⟩,q2⟩,hB1⟩ hK;have hBw:Below w.heap.size w W:=hB0.trans (hB1.mono (by omega));have hdW:=HD.o.since (show Since w W from hBw);have d0:W.drew.cell? ⟨w.heap.size,0,none⟩=some (.int .i64 k):=q0.cell;have hk2:(k:Int)<2:=by omega
  have hR:W.drew.rangeAt b (16400+k*500) (ak 500 (fun i=>bv (D.slot k i))):=fun j x hx=>by
   have hj:j<500:=by have:=(List.getElem?_eq_some_iff.1 hx).1;rwa [ax] at this
   rw[bM _ _ j hj] at hx;have:=hdW.aQ.cell (16400+k*500+j) (by omega);rw[wB D _ k j hk hj] at this;rw[←hx];exact this
  have hth:=q2.there 0 500 (by omega);have hu:=Tryz.underlying100;have hL:(ak 500 (fun i=>bv (D.slot k i))).length=500:=ax _ _;have hi:(Tryz.prog.info? 100).map (·.size)=some (ak 500 (fun i=>bv (D.slot k i))).length:=by rw[ax];kernel_rfl
  have h1c:∀v ∈ ak 500 (fun i=>bv (D.slot k i)),v.oneCell'=true:=lu _ _ (fun _ _=>rfl);have hne:b≠w.heap.size+1+1:=by omega
  have Q2:=(show Hid _ from q2)
  have hRW:W.rangeAt b (16400+k*500) (ak 500 (fun i=>bv (D.slot k i))):=hR;have d0W:W.cell? ⟨w.heap.size,0,none⟩=some (.int .i64 k):=q0.cell;clear q2 hdW hR d0;generalize hcs:ak 500 (fun i=>bv (D.slot k i))=cs at *;have d0X:(W.drew.setCells (w.heap.size+1+1) 0 cs).cell? ⟨w.heap.size,0,none⟩=some (.int .i64 k):=by
   rw[World.cell?_setCells_out _ _ _ _ _ (fun e _=>absurd e (by show ¬w.heap.size=w.heap.size+1+1;omega))];exact d0W
  gi_wp2
  refine wpIn_wide.2 ?_;go_region_held3 (fun w'=>w'.rangeAt b (16400+k*500) cs∧w'.there (w.heap.size+1+1) 0 500∧w'.cell? ⟨w.heap.size,0,none⟩=some (.int .i64 k)) (first | go_keep_ranges | (refine⟨?_,?_,?_⟩<;>first | go_keep_ranges | assumption) | assumption) (fail)
  gi_wp2
  have hDlt:Dd<W.heap.size:=(Array.getElem?_eq_some_iff.1 hK).1;have hK':(W.drew.setCells (w.heap.size+1+1) 0 cs).heap[Dd]?=some (.deferred (some [])):=by
   exact((Fr.setCells (w.heap.size+1+1) none cs 0 W.drew).block Dd hDlt (by omega) (by simp)).trans hK
  refine⟨by simp,.inl ⟨_,_,rfl,run_takeDeferred hK',?_⟩⟩;have tF:aA (W.drew.setCells (w.heap.size+1+1) 0 cs) (w.heap.size+1+1) 500 (fun i=>bv (D.slot k i)):=by
   rw[←hcs];exact((Q2.out.since (Since.refl W).drew).setRow 0 500 (by omega) (fun i=>bv (D.slot k i))).congr (fun j hj=>by unfold fP;rw[if_pos (by omega)];rfl)
  have hC5:=(rM (w.heap.size+1+1) 500 (fun (_:Unit) i=>bv (D.slot k i))) () _ _ _ tF (grownBy_putObj' _ Dd (.deferred none)) (fun r e=>by cases e;exact⟨_,hK',rfl⟩);have VF:=hC5.range 0 500 (by omega);simp only[Nat.zero_add] at VF;refine⟨_,bz Tryz.results140 _ _ _ (w.heap.size+1+1) _ _ (by rfl) VF Tryz.underlying100 (by rfl) (by rw[ax];kernel_rfl),?_,?_⟩
  ·have e:D.aL k kept=D.slot k:=by unfold Dv.aL MC;rw[hp]
   rw[e]
  have h3:Below w.heap.size w (W.drew.setCells (w.heap.size+1+1) 0 cs):=Since.setCells (Since.drew (show Since w W from hBw)) (by omega) _ _;exact h3.trans (belowK_b (w:=w) (Nat.le_refl _) _ Dd _ _ (by omega) hK' rfl rfl)
 rintro Dd c pre W ZM hpre ⟨⟨⟨rfl,_⟩,x,hx,hC⟩,hB1⟩ hK
 gi_wp2
 refine⟨by simp,.inl ⟨_,_,rfl,run_takeDeferred hK,?_⟩⟩;have hC5:=(rM (w.heap.size+1+1) 500 (fun (_:Unit) i=>bv (sb x.2.2 i))) () _ _ _ hC (grownBy_putObj' _ Dd (.deferred none)) (fun r e=>by cases e;exact⟨_,hK,rfl⟩);have VF:=hC5.range 0 500 (by omega);simp only[Nat.zero_add] at VF;refine⟨_,bz Tryz.results140 _ _ _ (w.heap.size+1+1) _ _ (by rfl) VF Tryz.underlying100 (by rfl) (by rw[ax];kernel_rfl),?_,?_⟩
 ·have e:D.aL k kept=sb x.2.2:=by unfold Dv.aL MC;rw[DF hpre hx]
  rw[e]
 exact hB1.trans (belowK_b (w:=w) (Nat.le_refl _) _ Dd _ _ (by omega) hK rfl rfl)
end
section
open Go.RowKit
def Dv.fM (D:Dv)(k:Nat)(f:Nat→UInt8):Dv:={ D with slot:=fun k'=>if k'=k then f else D.slot k' }
theorem xq (D:Dv)(v:Value)(b k:Nat)(f:Nat→UInt8)(w:World)(hd:Dev w b D v)(hk:k<2):Dev (w.setCells b (16400+k*500) (ak 500 (fun i=>bv (f i)))) b (D.fM k f) v:=by
 refine hd.turn ((hd.aQ.setRow (16400+k*500) 500 (by omega) _).congr (fun j hj=>?_)) (Fr.setCells _ _ _ _ _) rfl ⟨hd.ok.cnt,hd.ok.sure,hd.ok.zero,hd.ok.left,hd.ok.ws,hd.ok.few⟩;unfold fP;by_cases h:16400+k*500≤j∧j<16400+k*500+500
 ·rw[if_pos h];have e:=wB (D.fM k f) v k (j-(16400+k*500)) hk (by omega);rw[show 16400+k*500+(j-(16400+k*500))=j by omega] at e;rw[e];simp[Dv.fM]
 rw[if_neg h];unfold dH;by_cases h1:j<16400
 ·rw[if_pos h1,if_pos h1];rfl
 rw[if_neg h1,if_neg h1];by_cases h2:j<17400
 ·rw[if_pos h2,if_pos h2];have hne:(j-16400) / 500≠k:=by omega
  simp[Dv.fM,hne]
 rw[if_neg h2,if_neg h2];rfl
def Dv.none (D:Dv):Dv:={ D with ws:=[] }
theorem RQ (D:Dv)(v:Value)(b:Nat)(w:World)(hd:Dev w b D v):Dev (w.setCell ⟨b,17400,none⟩ (.slice none 0 0)) b D.none (.slice none 0 0) where
 aQ:=by
  refine(hd.aQ.set 17400 (by omega) _).congr (fun j hj=>?_);unfold aJ;by_cases e:j=17400
  ·subst e;rw[if_pos rfl,jG]
  rw[if_neg e];unfold dH;have h3:j<16400∨(¬j<16400∧j<17400)∨(¬j<16400∧¬j<17400):=by omega
  rcases h3 with h | ⟨h,h'⟩ | ⟨h,h'⟩
  ·rw[if_pos h,if_pos h];rfl
  ·rw[if_neg h,if_neg h,if_pos h',if_pos h'];rfl
  rw[if_neg h,if_neg h,if_neg h',if_neg h',if_neg e,if_neg e];rfl
 own:=World.ownsRow_nil _ _ _ _
 ne:=by simp[Value.ownBlock]
 ok:=⟨hd.ok.cnt,hd.ok.sure,hd.ok.zero,hd.ok.left,fun p hp=>by simp[Dv.none] at hp,by simp[Dv.none]⟩
def Dv.settled (D:Dv)(kept:Nat→Bool):Dv:=((D.fM 0 (D.aL 0 kept)).fM 1 (D.aL 1 kept)).none
theorem xu (D:Dv)(v:Value)(b zo:Nat)(ou:Array Value)(kept:Nat→Bool)(w:World)(hd:Dev w b D v)(heg:∀args w,(callFunc zo args).run Tryz.prog w=.ok (.enter zo args) w)(hkc:∀(i:Nat) (W:World),Fr b none w W→Calls Tryz.prog zo (#[.int .i64 i]++ou) W fun e W'=>e=.returned (.bool (kept i))∧W'=W) :
  Calls Tryz.prog 75 #[.pointer (some ⟨b,0,none⟩),.func (.func zo) #[] ou] w fun e w'=>e=.returned (.tuple #[])∧Dev w' b (D.settled kept) (.slice none 0 0)∧Fr b none w w':=by
 have HD:=(show Hid _ from hd)
 have HK:=(show Hid _ from hkc)
 have HE:=(show Hid _ from heg)
 clear hd hkc heg;go_enter Tryz.func75,Tryz.ntmps75
 go_wp2_with fail
 refine wp_loop_rounds 3 ?_;rw[rounds_succ];go_wp2_with fail
 go_region_with (go_at_call 140;refine(xk D v b 0 zo ou kept _ (HD.o.since (Since.refl _).drew) (by omega) HE.o (fun i W h=>HK.o i W (Fr.ag (Since.trans (Since.refl _).drew h)))).mono ?_;rintro e w1 ⟨rfl,hS1⟩;have hd1:=(HD.o.since (Since.refl _).drew).since hS1;have hst:=hd1.aQ.store Tryz.prog 16400 500 (by omega) (fun i=>bv (D.aL 0 kept i)) (fun _ _=>rfl);have HD1:=(show Hid _ from hd1);clear hd1;have hL:(ak 500 (fun i=>bv (D.aL 0 kept i))).length=500:=ax _ _)
 have hd2:=xq D v b 0 (D.aL 0 kept) w1 HD1.o (by omega);have hf2:Fr b none w (w1.setCells b (16400+0*500) (ak 500 (fun i=>bv (D.aL 0 kept i)))):=(Fr.ag (Since.trans (Since.refl w).drew hS1)).trans' (Fr.setCells _ _ _ _ _);rw[show 16400+0*500=16400 from rfl] at hd2 hf2;generalize w1.setCells b 16400 (ak 500 (fun i=>bv (D.aL 0 kept i)))=w2 at *;have HD2:=(show Hid _ from hd2)
 have lh:=(show Hid _ from hf2)
 clear hd2 hf2 hst HD1 hS1;go_wp2_with fail
 rw[rounds_succ];go_wp2_with fail
 have hby:(D.fM 0 (D.aL 0 kept)).aL 1 kept=D.aL 1 kept:=rfl;have HBY:=(show Hid _ from hby)
 clear hby;go_region_with (go_at_call 140;refine(xk (D.fM 0 (D.aL 0 kept)) v b 1 zo ou kept _ (HD2.o.since (Since.refl _).drew) (by omega) HE.o (fun i W h=>HK.o i W (lh.o.trans' (Fr.ag (Since.trans (Since.refl _).drew h))))).mono ?_;rintro e w3 ⟨rfl,bQ⟩;rw[HBY.o];have hd3:=(HD2.o.since (Since.refl _).drew).since bQ;have hst:=hd3.aQ.store Tryz.prog 16900 500 (by omega) (fun i=>bv (D.aL 1 kept i)) (fun _ _=>rfl);have HD3:=(show Hid _ from hd3);clear hd3;have hL:(ak 500 (fun i=>bv (D.aL 1 kept i))).length=500:=ax _ _)
 have hd4:=xq _ v b 1 (D.aL 1 kept) w3 HD3.o (by omega);have Hf:Fr b none w (w3.setCells b (16400+1*500) (ak 500 (fun i=>bv (D.aL 1 kept i)))):=(lh.o.trans' (Fr.ag (Since.trans (Since.refl _).drew bQ))).trans' (Fr.setCells _ _ _ _ _);rw[show 16400+1*500=16900 from rfl] at hd4 Hf;generalize w3.setCells b 16900 (ak 500 (fun i=>bv (D.aL 1 kept i)))=w4 at *;have c4:=hd4.aQ.cell 17400 (by omega);have f4:=hd4.aQ.frozen 17400 (by omega);rw[jG] at c4;have HD4:=(show Hid _ from hd4)
 have WB:=(show Hid _ from Hf)
 clear hd4 Hf hst HD3 bQ;go_wp2_with fail
 rw[rounds_succ];go_wp2_with fail
 go_end0
 exact⟨rfl,RQ _ v b w4 HD4.o,WB.o.trans' (Fr.setCell _ _ _ _ _)⟩
theorem rO:∀args w,(callFunc 192 args).run Tryz.prog w=.ok (.enter 192 args) w:=enters_of Tryz.func192 (by kernel_rfl) rfl
theorem Bb (D:Dv)(v:Value)(b k:Nat)(w:World)(hd:Dev w b D v)(hk:k<2) :
  Calls Tryz.prog 224 #[.pointer (some ⟨b,0,none⟩),.int .i64 k] w fun e w'=>e=.returned (.tuple #[.string (txt 500 (D.aL k (fun _=>true))),.nilIface])∧Since w w':=by
 have hh:=BH hk;have HD:=(show Hid _ from hd)
 clear hd;go_enter Tryz.func224,Tryz.ntmps224
 go_wp2_with fail
 refine(bB _ _).mono ?_;rintro e w' ⟨rfl,rfl⟩;go_wp2_with fail
 refine(nQ _ _).mono ?_;rintro e w' ⟨rfl,rfl⟩;rw[hh];go_wp2_with fail
 refine(xk D v b k 192 #[] (fun _=>true) _ HD.o hk rO (fun i W _=>zB i W)).mono ?_;rintro e w1 ⟨rfl,hS1⟩;have hL:(ak 500 (fun i=>bv (D.aL k (fun _=>true) i))).length=500:=ax _ _;have hC:aA (w1.alloc (.cells Tryz.zeroCells100 100)) w1.heap.size 500 (fun _=>bv 0):=aA.new w1 _ _ _ _ (fun j hj=>jP j hj) _ rfl;have hst:=hC.store Tryz.prog 0 500 (by omega) (fun i=>bv (D.aL k (fun _=>true) i)) (fun _ _=>rfl);have hC2:=(hC.setRow 0 500 (by omega) (fun i=>bv (D.aL k (fun _=>true) i))).congr (g:=fun i=>bv (D.aL k (fun _=>true) i)) (fun j hj=>by unfold fP;rw[if_pos (by omega)];rfl);have hS2:Since w' ((w1.alloc (.cells Tryz.zeroCells100 100)).setCells w1.heap.size 0 (ak 500 (fun i=>bv (D.aL k (fun _=>true) i)))):=(hS1.alloc _).setCells hS1.size _ _
 have hcv:=jI _ w1.heap.size 0 500 500 (D.aL k (fun _=>true)) (fun i hi=>by rw[Nat.zero_add];exact hC2.cell i hi);have HS2:=(show Hid _ from hS2)
 clear hC hC2 hS2;go_wp2_with fail
 go_ret2;exact⟨rfl,HS2.o⟩
end
section
open Go.RowKit
def Dv.je (D:Dv)(k:Nat):Dv:={ D with sure:=fun z=>if z<k then D.cnt z else D.sure z }
theorem zR (D:Dv)(k:Nat)(h:D.ok):(D.je k).ok:=⟨h.cnt,fun z hz=>by
 show (if z<k then D.cnt z else D.sure z)≤D.cnt z
 split
 ·exact Nat.le_refl _
 exact h.sure z hz,h.zero,h.left,h.ws,h.few⟩
theorem IA (D:Dv)(v:Value)(b k:Nat)(w:World)(hd:Dev w b (D.je k) v)(hk:k<8):Dev (w.setCell ⟨b,k*2050+2049,none⟩ (.int .i64 (D.cnt k))) b (D.je (k+1)) v:=by
 have hok:(D.je (k+1)).ok:=by
  have h:=hd.ok;refine⟨h.cnt,fun z hz=>?_,h.zero,h.left,h.ws,h.few⟩;show (if z<k+1 then D.cnt z else D.sure z)≤D.cnt z
  split
  ·exact Nat.le_refl _
  have:=h.sure z hz;have e:(D.je k).sure z=D.sure z:=by show (if z<k then _ else _)=_;rw[if_neg (by omega)]
  rw[e] at this;exact this
 refine hd.turn ((hd.aQ.set (k*2050+2049) (by omega) _).congr (fun j hj=>?_)) (Fr.setCell _ _ _ _ _) rfl hok;refine mP (D.je k) (D.je (k+1)) v k hk _ (fun j hj=>?_) (fun j hj=>?_) (fun z' h=>rfl) (fun z' h=>rfl) (fun z' h=>?_) rfl rfl rfl j
 ·unfold aJ;by_cases h0:j=2049
  ·rw[if_pos (by omega)];unfold fB;rw[if_neg (by omega),if_neg (by omega)];show Value.int .i64 (D.cnt k)=.int .i64 ((if k<k+1 then D.cnt k else D.sure k:Nat):Int)
   rw[if_pos (by omega)]
  rw[if_neg (by omega),mO _ v k j hk hj];unfold fB;by_cases h1:j<2048
  ·rw[if_pos h1,if_pos h1];rfl
  rw[if_neg h1,if_neg h1,if_pos (by omega),if_pos (by omega)];rfl
 ·unfold aJ;rw[if_neg (by omega)]
 show (if z'<k+1 then _ else _)=(if z'<k then _ else _)
 by_cases h1:z'<k
 ·rw[if_pos h1,if_pos (by omega)]
 rw[if_neg h1,if_neg (by omega)]
theorem IB (D:Dv)(v:Value)(b:Nat)(w:World)(hd:Dev w b D v)(hm:D.may=false) :
  Calls Tryz.prog 121 #[.pointer (some ⟨b,0,none⟩)] w fun e w'=>e=.returned (.iface 32 (.int .i64 14))∧w'=w:=by
 go_enter Tryz.func121,Tryz.ntmps121
 go_wp2_with fail
 refine(bB _ _).mono ?_;rintro e w' ⟨rfl,rfl⟩;go_wp2_with fail
 refine(jL D v b _ hd).mono ?_;rintro e w1 ⟨rfl,h1,_⟩;obtain rfl:=h1 hm;rw[hm];go_wp2_with fail
 go_ret;exact⟨rfl,rfl⟩
def Dv.synced (D:Dv):Dv:=(D.je 8).settled (fun _=>true)
theorem RS (D:Dv)(v:Value)(b:Nat)(w:World)(hd:Dev w b D v)(hm:D.may=true) :
  Calls Tryz.prog 121 #[.pointer (some ⟨b,0,none⟩)] w fun e w'=>e=.returned .nilIface∧Dev w' b D.ai.synced (.slice none 0 0)∧Fr b none w w':=by
 have HD:=(show Hid _ from hd)
 clear hd;go_enter Tryz.func121,Tryz.ntmps121
 go_wp2_with fail
 refine(bB _ _).mono ?_;rintro e w' ⟨rfl,rfl⟩;go_wp2_with fail
 refine(jL D v b _ HD.o).mono ?_;rintro e w1 ⟨rfl,_,h1⟩;obtain⟨hd1,hf1⟩:=h1 hm;rw[hm];have HD1:=(show Hid _ from hd1)
 have Qv:=(show Hid _ from hf1)
 clear h1 hd1 hf1;go_wp2_with fail
 generalize hE:D.ai=E at *;have HE:=(show Hid (D.ai=E) from hE)
 clear hE;go_loopw [10] (fun i wr=>∃k:Nat,k≤8∧i=.int .i64 k∧Dev wr b (E.je k) v∧Fr b none w' wr) (fun i _=>8-(intOf i).toNat)
 case atStart=>
  refine⟨0,by omega,rfl,?_,Qv.o⟩;have e:E.je 0=E:=by
   unfold Dv.je;cases E
   simp
  rw[e];exact HD1.o
 obtain⟨k,hk,rfl,hdk,ZH⟩:=hrel;have HDK:=(show Hid _ from hdk)
 have Oj:=(show Hid _ from ZH)
 clear ZH;by_cases hlt:k<8
 ·have hlt2:(k:Int)<8:=by omega
  have hdd:=hdk.since (Since.refl wr).drew;have c1:=hdd.aQ.cell (k*2050+2048) (by omega);rw[fH _ v k hlt] at c1;have c2:=hdd.aQ.cell (k*2050+2049) (by omega);have f2:=hdd.aQ.frozen (k*2050+2049) (by omega);rw[ww _ v k hlt] at c2;have e1:(E.je k).cnt k=E.cnt k:=rfl;rw[e1] at c1;clear e1 hdk hdd;go_wp2_with fail
  go_region
  go_wp2_with fail
  go_roundw
  case rel=>exact⟨k+1,by omega,by go_num,IA E v b k _ (HDK.o.since (Since.refl wr).drew) hlt,(Oj.o.trans' (Fr.ag (Since.refl wr).drew)).trans' (Fr.setCell _ _ _ _ _)⟩
  case measure=>simp[intOf];omega
 have hke:k=8:=by omega
 subst hke;clear hdk;go_wp2_with fail
 refine(xu (E.je 8) v b 192 #[] (fun _=>true) _ HDK.o rO (fun i W _=>zB i W)).mono ?_;rintro e w2 ⟨rfl,hd2,hf2⟩;go_wp2_with fail
 go_ret;exact⟨rfl,by rw[HE.o];exact hd2,Oj.o.trans' hf2⟩
end
section
open Go.RowKit
def dQ (c s:Nat)(keep:Int):Nat:=s+min keep.toNat (c-s)
theorem IC (n j:Nat)(hj:j<n*128):(Builtin.zeroCells Tryz.zeroCells95 n)[j]?=some (bv 0):=by
 unfold Builtin.zeroCells;have hsz:=Tryz.zeroCells95_size;rw[Array.getElem?_map,hsz,Array.getElem?_eq_getElem (by simpa using hj)];have h:=zi (j % 128) (by omega);simp only[Array.getElem_range,Option.map_some];rw[getElem!_def,h]
theorem DI (n:Nat):(Builtin.zeroCells Tryz.zeroCells95 n).toList=ak (n*128) (fun _=>bv 0):=by
 refine rz ?_ (fun j hj=>by rw[Array.getElem?_toList];exact IC n j hj);unfold Builtin.zeroCells;simp[Tryz.zeroCells95_size]
theorem jY (w:World)(ty b o m cap n:Nat)(f:Nat→Value)(hc:aA w b n f)(hm:o+m*128≤n) :
  (Builtin.clear_ #[218] ty #[.slice (some ⟨b,o,none⟩) m cap]).run Tryz.prog w=.ok (.tuple #[]) (w.setCells b o (ak (m*128) (fun _=>bv 0))):=by
 cases m with
 | zero=>
  simp[Builtin.clear_,run_underlying Tryz.underlying218,ak,World.setCells]
 | succ m=>
  have hst:=hc.store Tryz.prog o ((m+1)*128) hm (fun _=>bv 0) (fun _ _=>rfl);have hz:=Tryz.zeroValue95 w;have hl:=DI (m+1);simp[Builtin.clear_,run_underlying Tryz.underlying218,hz,Value.cells,hl,hst]
def bZ (f:Nat→Value)(o k:Nat):Nat→Value:=fP (aJ (aJ f (o+2048) (.int .i64 k)) (o+2049) (.int .i64 k)) (o+k*128) ((16-k)*128) (fun _=>bv 0)
end
section
open Go.RowKit
theorem IE (b o c s n:Nat)(keep:Int)(f:Nat→Value)(w:World)(hc:aA w b n f)(hn:o+2050≤n)(hcnt:f (o+2048)=.int .i64 c)(kK:f (o+2049)=.int .i64 s)(hc16:c≤16)(hs:s≤c)(h0:keep<0) :
  Calls Tryz.prog 74 #[.pointer (some ⟨b,o,none⟩),.int .i64 keep] w fun e w'=>e=.returned (.tuple #[])∧aA w' b n (bZ f o (dQ c s keep))∧Fr b none w w':=by
 have hcd:=hc.since (Since.refl w).drew;have c1:=hcd.cell (o+2048) (by omega);have f1:=hcd.frozen (o+2048) (by omega);rw[hcnt] at c1;have c2:=hcd.cell (o+2049) (by omega);rw[kK] at c2;have g0:(0:Int)≤c-s:=by omega
 have g1:¬(c:Int)-s<0:=by omega
 have ek:dQ c s keep=s:=by unfold dQ;omega
 rw[ek];clear hcd;go_enter Tryz.func74,Tryz.ntmps74
 go_wp2_with fail
 go_region
 have vR:aA (w.setCell ⟨b,o+2048,none⟩ (.int .i64 (s:Nat))).drew b n (aJ f (o+2048) (.int .i64 (s:Nat))):=(hc.set (o+2048) (by omega) _).since (Since.refl _).drew;have hF1:Fr b none w (w.setCell ⟨b,o+2048,none⟩ (.int .i64 (s:Nat))).drew:=(Fr.setCell _ _ _ _ _).trans' (Fr.ag (Since.refl _).drew);have HC:=(show Hid _ from hc)
 clear hc c1 f1 c2;generalize (w.setCell ⟨b,o+2048,none⟩ (.int .i64 ((s:Nat):Int))).drew=w1 at *;have q1:=vR.cell (o+2048) (by omega);have q2:=vR.cell (o+2049) (by omega);have p2:=vR.frozen (o+2049) (by omega);rw[show aJ f (o+2048) (.int .i64 ((s:Nat):Int)) (o+2048)=.int .i64 ((s:Nat):Int) by unfold aJ;rw[if_pos rfl]] at q1;have hC2:=vR.set (o+2049) (by omega) (.int .i64 ((s:Nat):Int));have hF2:=hF1.trans' (Fr.setCell b none (o+2049) w1 (.int .i64 ((s:Nat):Int)));have jS:=(show Hid _ from vR)
 clear vR hF1;generalize hq:s=q at *;have a3L:q≤16:=by omega
 have HQ:=(show Hid _ from hq)
 clear hq;go_wp2_with fail
 generalize w1.setCell ⟨b,o+2049,none⟩ (.int .i64 (q:Int))=w2 at *;clear q1 q2 p2;have gW:=hC2.since (Since.refl _).drew;have q3:=gW.cell (o+2048) (by omega);rw[show aJ (aJ f (o+2048) (.int .i64 (q:Int))) (o+2049) (.int .i64 (q:Int)) (o+2048)=.int .i64 (q:Int) by unfold aJ;rw[if_neg (by omega),if_pos rfl]] at q3;have q4:(q:Int)≤16:=by omega
 have jR:=(show Hid _ from gW)
 have lh:=(show Hid _ from hF2)
 by_cases h16:q=16
 ·have hcl:=jY w2.drew 0 b o 0 0 n _ gW (by omega);clear gW hC2 hF2 HC jS hcnt kK ek g0 g1 hs h0 hc16
  (try clear h1)
  (try clear g2)
  have WC:=(show Hid _ from HQ.o.trans h16)
  clear HQ;subst h16;go_region
  go_wp2_with fail
  go_end0
  exact⟨rfl,by rw[WC.o];exact(jR.o.setRow _ _ (by omega) _).congr (fun j hj=>by unfold bZ fP;rw[if_neg (by omega),if_neg (by omega)]),(lh.o.trans' (Fr.ag (Since.refl _).drew)).trans' (Fr.setCells _ _ _ _ _)⟩
 have h17:¬16=q:=by omega
 have hcl:=jY w2.drew 0 b (o+q*128) (16-q) (16-q) n _ gW (by omega);clear gW hC2 hF2 HC jS hcnt kK ek g0 g1 hs h0 hc16
 (try clear h1)
 (try clear g2)
 have HH:=(show Hid _ from h16)
 go_region
 go_wp2_with fail
 go_end0
 exact⟨rfl,by rw[HQ.o];exact jR.o.setRow _ _ (by omega) _,(lh.o.trans' (Fr.ag (Since.refl _).drew)).trans' (Fr.setCells _ _ _ _ _)⟩
theorem IG (b o c s n:Nat)(keep:Int)(f:Nat→Value)(w:World)(hc:aA w b n f)(hn:o+2050≤n)(hcnt:f (o+2048)=.int .i64 c)(kK:f (o+2049)=.int .i64 s)(hc16:c≤16)(hs:s≤c)(h0:0≤keep)(h1:keep≤c-s) :
  Calls Tryz.prog 74 #[.pointer (some ⟨b,o,none⟩),.int .i64 keep] w fun e w'=>e=.returned (.tuple #[])∧aA w' b n (bZ f o (dQ c s keep))∧Fr b none w w':=by
 have hcd:=hc.since (Since.refl w).drew;have c1:=hcd.cell (o+2048) (by omega);have f1:=hcd.frozen (o+2048) (by omega);rw[hcnt] at c1;have c2:=hcd.cell (o+2049) (by omega);rw[kK] at c2;obtain⟨m,rfl⟩:=Int.eq_ofNat_of_zero_le h0;have g0:¬(m:Int)<0:=by omega
 have g1:(m:Int)≤(c:Int)-s:=by omega
 have ek:dQ c s m=s+m:=by unfold dQ;omega
 rw[ek];clear hcd;go_enter Tryz.func74,Tryz.ntmps74
 go_wp2_with fail
 go_region
 rw[show ((s:Int)+(m:Int))=((s+m:Nat):Int) by omega];have vR:aA (w.setCell ⟨b,o+2048,none⟩ (.int .i64 ((s+m):Nat))).drew b n (aJ f (o+2048) (.int .i64 ((s+m):Nat))):=(hc.set (o+2048) (by omega) _).since (Since.refl _).drew;have hF1:Fr b none w (w.setCell ⟨b,o+2048,none⟩ (.int .i64 ((s+m):Nat))).drew:=(Fr.setCell _ _ _ _ _).trans' (Fr.ag (Since.refl _).drew);have HC:=(show Hid _ from hc)
 clear hc c1 f1 c2;generalize (w.setCell ⟨b,o+2048,none⟩ (.int .i64 (((s+m):Nat):Int))).drew=w1 at *;have q1:=vR.cell (o+2048) (by omega);have q2:=vR.cell (o+2049) (by omega);have p2:=vR.frozen (o+2049) (by omega);rw[show aJ f (o+2048) (.int .i64 (((s+m):Nat):Int)) (o+2048)=.int .i64 (((s+m):Nat):Int) by unfold aJ;rw[if_pos rfl]] at q1;have hC2:=vR.set (o+2049) (by omega) (.int .i64 (((s+m):Nat):Int));have hF2:=hF1.trans' (Fr.setCell b none (o+2049) w1 (.int .i64 (((s+m):Nat):Int)));have jS:=(show Hid _ from vR)
 clear vR hF1;generalize hq:(s+m)=q at *;have a3L:q≤16:=by omega
 have HQ:=(show Hid _ from hq)
 clear hq;go_wp2_with fail
 generalize w1.setCell ⟨b,o+2049,none⟩ (.int .i64 (q:Int))=w2 at *;clear q1 q2 p2;have gW:=hC2.since (Since.refl _).drew;have q3:=gW.cell (o+2048) (by omega);rw[show aJ (aJ f (o+2048) (.int .i64 (q:Int))) (o+2049) (.int .i64 (q:Int)) (o+2048)=.int .i64 (q:Int) by unfold aJ;rw[if_neg (by omega),if_pos rfl]] at q3;have q4:(q:Int)≤16:=by omega
 have jR:=(show Hid _ from gW)
 have lh:=(show Hid _ from hF2)
 by_cases h16:q=16
 ·have hcl:=jY w2.drew 0 b o 0 0 n _ gW (by omega);clear gW hC2 hF2 HC jS hcnt kK ek g0 g1 hs h0 hc16
  (try clear h1)
  (try clear g2)
  have WC:=(show Hid _ from HQ.o.trans h16)
  clear HQ;subst h16;go_region
  go_wp2_with fail
  go_end0
  exact⟨rfl,by rw[WC.o];exact(jR.o.setRow _ _ (by omega) _).congr (fun j hj=>by unfold bZ fP;rw[if_neg (by omega),if_neg (by omega)]),(lh.o.trans' (Fr.ag (Since.refl _).drew)).trans' (Fr.setCells _ _ _ _ _)⟩
 have h17:¬16=q:=by omega
 have hcl:=jY w2.drew 0 b (o+q*128) (16-q) (16-q) n _ gW (by omega);clear gW hC2 hF2 HC jS hcnt kK ek g0 g1 hs h0 hc16
 (try clear h1)
 (try clear g2)
 have HH:=(show Hid _ from h16)
 go_region
 go_wp2_with fail
 go_end0
 exact⟨rfl,by rw[HQ.o];exact jR.o.setRow _ _ (by omega) _,(lh.o.trans' (Fr.ag (Since.refl _).drew)).trans' (Fr.setCells _ _ _ _ _)⟩
theorem II (b o c s n:Nat)(keep:Int)(f:Nat→Value)(w:World)(hc:aA w b n f)(hn:o+2050≤n)(hcnt:f (o+2048)=.int .i64 c)(kK:f (o+2049)=.int .i64 s)(hc16:c≤16)(hs:s≤c)(h0:0≤keep)(h1:(c:Int)-s<keep) :
  Calls Tryz.prog 74 #[.pointer (some ⟨b,o,none⟩),.int .i64 keep] w fun e w'=>e=.returned (.tuple #[])∧aA w' b n (bZ f o (dQ c s keep))∧Fr b none w w':=by
 have hcd:=hc.since (Since.refl w).drew;have c1:=hcd.cell (o+2048) (by omega);have f1:=hcd.frozen (o+2048) (by omega);rw[hcnt] at c1;have c2:=hcd.cell (o+2049) (by omega);rw[kK] at c2;have g0:¬keep<0:=by omega
 have g1:(c:Int)-s<keep:=by omega
 have g2:(s:Int)+(c-s)=c:=by omega
 have ek:dQ c s keep=c:=by unfold dQ;omega
 rw[ek];clear hcd;go_enter Tryz.func74,Tryz.ntmps74
 go_wp2_with fail
 go_region
 have vR:aA (w.setCell ⟨b,o+2048,none⟩ (.int .i64 (c:Nat))).drew b n (aJ f (o+2048) (.int .i64 (c:Nat))):=(hc.set (o+2048) (by omega) _).since (Since.refl _).drew;have hF1:Fr b none w (w.setCell ⟨b,o+2048,none⟩ (.int .i64 (c:Nat))).drew:=(Fr.setCell _ _ _ _ _).trans' (Fr.ag (Since.refl _).drew);have HC:=(show Hid _ from hc)
 clear hc c1 f1 c2;generalize (w.setCell ⟨b,o+2048,none⟩ (.int .i64 ((c:Nat):Int))).drew=w1 at *;have q1:=vR.cell (o+2048) (by omega);have q2:=vR.cell (o+2049) (by omega);have p2:=vR.frozen (o+2049) (by omega);rw[show aJ f (o+2048) (.int .i64 ((c:Nat):Int)) (o+2048)=.int .i64 ((c:Nat):Int) by unfold aJ;rw[if_pos rfl]] at q1;have hC2:=vR.set (o+2049) (by omega) (.int .i64 ((c:Nat):Int));have hF2:=hF1.trans' (Fr.setCell b none (o+2049) w1 (.int .i64 ((c:Nat):Int)));have jS:=(show Hid _ from vR)
 clear vR hF1;generalize hq:c=q at *;have a3L:q≤16:=by omega
 have HQ:=(show Hid _ from hq)
 clear hq;go_wp2_with fail
 generalize w1.setCell ⟨b,o+2049,none⟩ (.int .i64 (q:Int))=w2 at *;clear q1 q2 p2;have gW:=hC2.since (Since.refl _).drew;have q3:=gW.cell (o+2048) (by omega);rw[show aJ (aJ f (o+2048) (.int .i64 (q:Int))) (o+2049) (.int .i64 (q:Int)) (o+2048)=.int .i64 (q:Int) by unfold aJ;rw[if_neg (by omega),if_pos rfl]] at q3;have q4:(q:Int)≤16:=by omega
 have jR:=(show Hid _ from gW)
 have lh:=(show Hid _ from hF2)
 by_cases h16:q=16
 ·have hcl:=jY w2.drew 0 b o 0 0 n _ gW (by omega);clear gW hC2 hF2 HC jS hcnt kK ek g0 g1 hs h0 hc16
  (try clear h1)
  (try clear g2)
  have WC:=(show Hid _ from HQ.o.trans h16)
  clear HQ;subst h16;go_region
  go_wp2_with fail
  go_end0
  exact⟨rfl,by rw[WC.o];exact(jR.o.setRow _ _ (by omega) _).congr (fun j hj=>by unfold bZ fP;rw[if_neg (by omega),if_neg (by omega)]),(lh.o.trans' (Fr.ag (Since.refl _).drew)).trans' (Fr.setCells _ _ _ _ _)⟩
 have h17:¬16=q:=by omega
 have hcl:=jY w2.drew 0 b (o+q*128) (16-q) (16-q) n _ gW (by omega);clear gW hC2 hF2 HC jS hcnt kK ek g0 g1 hs h0 hc16
 (try clear h1)
 (try clear g2)
 have HH:=(show Hid _ from h16)
 go_region
 go_wp2_with fail
 go_end0
 exact⟨rfl,by rw[HQ.o];exact jR.o.setRow _ _ (by omega) _,(lh.o.trans' (Fr.ag (Since.refl _).drew)).trans' (Fr.setCells _ _ _ _ _)⟩
end
section
open Go.RowKit
def Sl (w:World)(b:Nat)(v:Value)(n:Nat)(f:Nat→Value):Prop:=
 ∃a c,v=.slice a n c∧(0<n→∃k o,a=some ⟨k,o,none⟩∧k≠b∧∀j,j<n→w.cell? ⟨k,o+j,none⟩=some (f j))
theorem Sl.fr {w w':World}{b:Nat}{v:Value}{n:Nat}{f:Nat→Value}(h:Sl w b v n f)(hf:Fr b none w w'):Sl w' b v n f:=by
 obtain⟨a,c,hv,h⟩:=h;refine⟨a,c,hv,fun hn=>?_⟩;obtain⟨k,o,ha,hk,hc⟩:=h hn;exact⟨k,o,ha,hk,fun j hj=>(hf.cell (p:=⟨k,o+j,none⟩) (World.block_lt_of_cell? w _ (hc j hj)) hk (by simp)).trans (hc j hj)⟩
def jf (n:Nat)(sl:Nat→Bool):Nat→Bool:=fun i=>decide (i<n)&&sl i
theorem IJ (b B n i:Nat)(v:Value)(sl:Nat→Bool)(w:World)(hB:w.cell? ⟨B,0,none⟩=some v)(hs:Sl w b v n (fun j=>.bool (sl j))) :
  Calls Tryz.prog 76 #[.int .i64 i,.pointer (some ⟨B,0,none⟩)] w fun e w'=>e=.returned (.bool (jf n sl i))∧w'=w:=by
 obtain⟨a,c,rfl,hs⟩:=hs;unfold jf;by_cases h:i<n
 ·obtain⟨k,o,rfl,_,hc⟩:=hs (by omega);have c1:=hc i h;have h2:(i:Int)<n:=by omega
  rw[decide_eq_true h,Bool.true_and];clear hc hs;go_enter Tryz.func76,Tryz.ntmps76
  go_wp2_with fail
  go_ret;exact⟨rfl,rfl⟩
 have h2:¬(i:Int)<n:=by omega
 rw[decide_eq_false h,Bool.false_and];clear hs;go_enter Tryz.func76,Tryz.ntmps76
 go_wp2_with fail
 go_ret;exact⟨rfl,rfl⟩
theorem zq:∀args w,(callFunc 76 args).run Tryz.prog w=.ok (.enter 76 args) w:=enters_of Tryz.func76 (by kernel_rfl) rfl
def Dv.dX (D:Dv)(ks:Nat→Int)(k:Nat):Dv:=
 { D with blk:=fun z j i=>if z<k∧dQ (D.cnt z) (D.sure z) (ks z)≤j then 0 else D.blk z j i,cnt:=fun z=>if z<k then dQ (D.cnt z) (D.sure z) (ks z) else D.cnt z,sure:=fun z=>if z<k then dQ (D.cnt z) (D.sure z) (ks z) else D.sure z }
theorem DJ (c s:Nat)(x:Int)(h:s≤c):dQ c s x≤c:=by unfold dQ;omega
theorem Ol (D:Dv)(ks:Nat→Int)(k:Nat)(h:D.ok):(D.dX ks k).ok where
 cnt z hz:=by
  show (if z<k then _ else _)≤16
  have:=h.cnt z hz;split
  ·have:=DJ (D.cnt z) (D.sure z) (ks z) (h.sure z hz);omega
  exact this
 sure z hz:=by
  show (if z<k then _ else _)≤(if z<k then _ else _)
  split
  ·exact Nat.le_refl _
  exact h.sure z hz
 zero z j i hz hj hj2 hi:=by
  show (if z<k∧_ then _ else _)=_
  have hj':(if z<k then dQ (D.cnt z) (D.sure z) (ks z) else D.cnt z)≤j:=hj;by_cases e:z<k
  ·rw[if_pos e] at hj';rw[if_pos ⟨e,hj'⟩]
  rw[if_neg e] at hj';rw[if_neg (fun h=>e h.1)];exact h.zero z j i hz hj' hj2 hi
 left:=h.left
 ws:=h.ws
 few:=h.few
theorem BJ (D:Dv)(ks:Nat→Int)(v:Value)(k:Nat)(hk:k<8)(j:Nat)(Bj:dQ (D.cnt k) (D.sure k) (ks k)≤16) :
  bZ (dH (D.dX ks k) v) (k*2050) (dQ (D.cnt k) (D.sure k) (ks k)) j=dH (D.dX ks (k+1)) v j:=by
 refine mP (D.dX ks k) (D.dX ks (k+1)) v k hk _ (fun j hj=>?_) (fun j hj=>?_) (fun z' h=>?_) (fun z' h=>?_) (fun z' h=>?_) rfl rfl rfl j
 ·have e1:(D.dX ks (k+1)).cnt k=dQ (D.cnt k) (D.sure k) (ks k):=by show (if _ then _ else _)=_;rw[if_pos (by omega)]
  have e2:(D.dX ks (k+1)).sure k=dQ (D.cnt k) (D.sure k) (ks k):=by show (if _ then _ else _)=_;rw[if_pos (by omega)]
  have e3:(D.dX ks (k+1)).blk k=fun j i=>if dQ (D.cnt k) (D.sure k) (ks k)≤j then 0 else D.blk k j i:=by
   funext j i
   show (if k<k+1∧_ then _ else _)=_
   by_cases h:dQ (D.cnt k) (D.sure k) (ks k)≤j
   ·rw[if_pos ⟨by omega,h⟩,if_pos h]
   rw[if_neg (fun h'=>h h'.2),if_neg h]
  rw[e1,e2,e3];generalize dQ (D.cnt k) (D.sure k) (ks k)=q at *;unfold bZ fP aJ;by_cases h0:q*128≤j∧j<2048
  ·rw[if_pos (by omega)];unfold fB;dsimp only;rw[if_pos (by omega),if_pos (by omega)]
  rw[if_neg (by omega)];by_cases h1:j=2049
  ·rw[if_pos (by omega)];unfold fB;rw[if_neg (by omega),if_neg (by omega)]
  rw[if_neg (by omega)];by_cases h2:j=2048
  ·rw[if_pos (by omega)];unfold fB;rw[if_neg (by omega),if_pos h2]
  rw[if_neg (by omega),mO _ v k j hk hj];unfold fB;dsimp only;rw[if_pos (by omega),if_pos (by omega),if_neg (by omega)]
  congr 1
  show (if k<k∧_ then _ else _)=_
  rw[if_neg (by omega)]
 ·unfold bZ fP aJ;rw[if_neg (by omega),if_neg (by omega),if_neg (by omega)]
 ·funext j i
  show (if z'<k+1∧_ then _ else _)=(if z'<k∧_ then _ else _)
  have:(z'<k+1)=(z'<k):=by apply propext;omega
  simp only[this]
 ·show (if z'<k+1 then _ else _)=(if z'<k then _ else _)
  have:(z'<k+1)=(z'<k):=by apply propext;omega
  simp only[this]
 show (if z'<k+1 then _ else _)=(if z'<k then _ else _)
 have:(z'<k+1)=(z'<k):=by apply propext;omega
 simp only[this]
theorem xw (D:Dv)(ks:Nat→Int)(v:Value)(b k:Nat)(w:World)(hd:Dev w b (D.dX ks k) v)(hD:D.ok)(hk:k<8) :
  Calls Tryz.prog 74 #[.pointer (some ⟨b,k*2050,none⟩),.int .i64 (ks k)] w fun e w'=>e=.returned (.tuple #[])∧Dev w' b (D.dX ks (k+1)) v∧Fr b none w w':=by
 have e1:(D.dX ks k).cnt k=D.cnt k:=by show (if _ then _ else _)=_;rw[if_neg (by omega)]
 have e2:(D.dX ks k).sure k=D.sure k:=by show (if _ then _ else _)=_;rw[if_neg (by omega)]
 have hc:=hD.cnt k hk;have hs:=hD.sure k hk;have hcnt:=fH (D.dX ks k) v k hk;have kK:=ww (D.dX ks k) v k hk;rw[e1] at hcnt;rw[e2] at kK;have Bj:dQ (D.cnt k) (D.sure k) (ks k)≤16:=by have:=DJ (D.cnt k) (D.sure k) (ks k) hs;omega
 have fin:∀w',aA w' b 17403 (bZ (dH (D.dX ks k) v) (k*2050) (dQ (D.cnt k) (D.sure k) (ks k)))→Fr b none w w'→Dev w' b (D.dX ks (k+1)) v:=fun w' h1 h2=>
  hd.turn (h1.congr (fun j _=>BJ D ks v k hk j Bj)) h2 rfl (Ol D ks (k+1) hD)
 by_cases h0:ks k<0
 ·refine(IE b (k*2050) (D.cnt k) (D.sure k) 17403 (ks k) _ w hd.aQ (by omega) hcnt kK hc hs h0).mono ?_;rintro e w' ⟨rfl,h1,h2⟩;exact⟨rfl,fin w' h1 h2,h2⟩
 by_cases h1:ks k≤(D.cnt k:Int)-D.sure k
 ·refine(IG b (k*2050) (D.cnt k) (D.sure k) 17403 (ks k) _ w hd.aQ (by omega) hcnt kK hc hs (by omega) h1).mono ?_;rintro e w' ⟨rfl,h1,h2⟩;exact⟨rfl,fin w' h1 h2,h2⟩
 refine(II b (k*2050) (D.cnt k) (D.sure k) 17403 (ks k) _ w hd.aQ (by omega) hcnt kK hc hs (by omega) (by omega)).mono ?_;rintro e w' ⟨rfl,h1,h2⟩;exact⟨rfl,fin w' h1 h2,h2⟩
def fZ (n:Nat)(ks:Nat→Int):Nat→Int:=fun z=>if z<n then ks z else 0
def Dv.bZ (D:Dv)(nk:Nat)(ks:Nat→Int)(ns:Nat)(sl:Nat→Bool):Dv:=((D.dX (fZ nk ks) 8).settled (jf ns sl)).nL (-1)
theorem Om (D:Dv)(v:Value)(b nk ns:Nat)(kv sv:Value)(ks:Nat→Int)(sl:Nat→Bool)(w:World)(hd:Dev w b D v)(hk:Sl w b kv nk (fun j=>.int .i64 (ks j)))(hs:Sl w b sv ns (fun j=>.bool (sl j))) :
  Calls Tryz.prog 19 #[.pointer (some ⟨b,0,none⟩),kv,sv] w fun e w'=>e=.returned (.tuple #[])∧Dev w' b (D.bZ nk ks ns sl) (.slice none 0 0)∧Fr b none w w':=by
 obtain⟨a1,c1,rfl,hk1⟩:=hk;obtain⟨a2,c2,rfl,hs1⟩:=hs;have hbl:=hd.lt;have HD:=(show Hid _ from hd)
 have HK:=(show Hid (Sl w b (.slice a1 nk c1) nk (fun j=>.int .i64 (ks j))) from ⟨a1,c1,rfl,hk1⟩)
 have HS:=(show Hid (Sl w b (.slice a2 ns c2) ns (fun j=>.bool (sl j))) from ⟨a2,c2,rfl,hs1⟩)
 clear hd hk1 hs1;go_enter Tryz.func19,Tryz.ntmps19
 go_wp2_with fail
 refine(bB _ _).mono ?_;rintro e w' ⟨rfl,rfl⟩;have hd0:=HD.o.since ((Since.refl w).alloc (.cells #[.slice a2 ns c2] 62));have hb0:(w.alloc (.cells #[.slice a2 ns c2] 62)).cell? ⟨w.heap.size,0,none⟩=some (.slice a2 ns c2):=by simp
 have hf0:Fr b none w (w.alloc (.cells #[.slice a2 ns c2] 62)):=Fr.ag ((Since.refl w).alloc _);have hz0:(w.alloc (.cells #[.slice a2 ns c2] 62)).heap.size=w.heap.size+1:=by simp
 generalize w.alloc (.cells #[.slice a2 ns c2] 62)=w0 at *;have HD0:=(show Hid _ from hd0)
 have HB0:=(show Hid _ from hb0)
 have HF0:=(show Hid _ from hf0)
 clear hd0 hb0 hf0;go_wp2_with fail
 go_loopw [10] (fun i wr=>∃k:Nat,k≤8∧i=.int .i64 k∧Dev wr b (D.dX (fZ nk ks) k) v∧Fr b none w0 wr) (fun i _=>8-(intOf i).toNat)
 case atStart=>
  refine⟨0,by omega,rfl,?_,Fr.refl _ _ _⟩;have e:D.dX (fZ nk ks) 0=D:=by
   unfold Dv.dX;cases D
   simp
  rw[e];exact HD0.o
 obtain⟨k,hk,rfl,hdk,ZH⟩:=hrel;have HDK:=(show Hid _ from hdk)
 have Oj:=(show Hid _ from ZH)
 clear ZH hdk;by_cases hlt:k<8
 ·have hlt2:(k:Int)<8:=by omega
  by_cases hkn:k<nk
  ·have hkn2:(k:Int)<nk:=by omega
   obtain⟨a3,c3,he,hk3⟩:=(HK.o.fr HF0.o).fr Oj.o;injection he with he1 he2 he3
   subst he1;obtain⟨kb,ko,rfl,_,hkc⟩:=hk3 (by omega);have q1:=hkc k hkn;have hka:fZ nk ks k=ks k:=by unfold fZ;rw[if_pos hkn]
   have HKA:=(show Hid _ from hka)
   clear hkc hk3 hka he3;go_wp2_with fail
   rw[←HKA.o];refine(xw D (fZ nk ks) v b k _ HDK.o HD.o.ok hlt).mono ?_;rintro e w2 ⟨rfl,hd2,hf2⟩;have HD2:=(show Hid _ from hd2)
   clear hd2;go_wp2_with fail
   go_roundw
   case rel=>exact⟨k+1,by omega,by go_num,HD2.o,Oj.o.trans' hf2⟩
   case measure=>simp[intOf];omega
  have hkn2:¬(k:Int)<nk:=by omega
  have hka:fZ nk ks k=0:=by unfold fZ;rw[if_neg hkn]
  have HKA:=(show Hid _ from hka)
  clear hka;go_wp2_with fail
  have hcr:=xw D (fZ nk ks) v b k wr HDK.o HD.o.ok hlt;rw[HKA.o] at hcr;refine hcr.mono ?_;clear hcr;rintro e w2 ⟨rfl,hd2,hf2⟩;have HD2:=(show Hid _ from hd2)
  clear hd2;go_wp2_with fail
  go_roundw
  case rel=>exact⟨k+1,by omega,by go_num,HD2.o,Oj.o.trans' hf2⟩
  case measure=>simp[intOf];omega
 have hke:k=8:=by omega
 subst hke;go_wp2_with fail
 refine(xu (D.dX (fZ nk ks) 8) v b 76 #[.pointer (some ⟨w.heap.size,0,none⟩)] (jf ns sl) _ HDK.o zq (fun i W hW=>IJ b w.heap.size ns i (.slice a2 ns c2) sl W ?_ (((HS.o.fr HF0.o).fr Oj.o).fr hW))).mono ?_
 ·have hf:=Oj.o.trans' hW;rw[hf.cell (p:=⟨w.heap.size,0,none⟩) (by show w.heap.size<_;omega) (by show w.heap.size≠b;omega) (by simp)];exact HB0.o
 rintro e w2 ⟨rfl,hd2,hf2⟩;have HD2:=(show Hid _ from hd2)
 clear hd2;go_wp2_with fail
 refine(Dx _ _ b (-1) _ HD2.o (by omega)).mono ?_;rintro e w3 ⟨rfl,hd3,hf3⟩;have HD3:=(show Hid _ from hd3)
 clear hd3;go_wp2_with fail
 go_end0
 exact⟨rfl,HD3.o,((HF0.o.trans' Oj.o).trans' hf2).trans' hf3⟩
end
section
open Go.RowKit
theorem zS:(Tryz.prog.info? 9).map (fun i=>(i.zero,i.size,i.bytes))=some (some (.string ⟨#[]⟩),1,16):=by kernel_rfl
def lm (blk:Nat→Nat→UInt8)(n:Nat):List Value:=(List.range n).map fun k=>.string (txt 128 (blk k))
theorem Oo (blk:Nat→Nat→UInt8)(n:Nat):lm blk (n+1)=lm blk n++[.string (txt 128 (blk n))]:=by
 unfold lm;rw[List.range_succ,List.map_append]
 rfl
theorem rP {w:World}{base base' e size n:Nat}{v:Value}{xs:List Value}(h:w.ownsRow base e size v n xs)(hb:base'≤base):w.ownsRow base' e size v n xs:=by
 refine⟨h.1,?_⟩;rcases h.2 with hn | ⟨k,cap,cur,hv,hbk,hk,rest⟩
 ·exact .inl hn
 exact .inr ⟨k,cap,cur,hv,by omega,hk,rest⟩
theorem aP {w w':World}{base e size n:Nat}{v:Value}{xs:List Value}(h:w.ownsRow base e size v n xs)(hs:Since w w'):w'.ownsRow base e size v n xs:=
 dh h (b:=w.heap.size) (g:=none) (Fr.ag hs) (fun e=>by have:=(h.lt _ e).2;omega) (by
  cases hv:v.ownBlock with
  | none=>exact Or.inl rfl
  | some k=>exact Or.inr (by simp))
end
section
open Go.RowKit
end
section
open Go.RowKit
end
end Go.Proofs.YtlgbfkcpdelcbaaGreatDoor
