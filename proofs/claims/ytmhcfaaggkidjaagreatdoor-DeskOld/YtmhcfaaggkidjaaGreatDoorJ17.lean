import Derived.RangeFuncNested
import Derived.RangeFuncBound
import Derived.Shelf.RegionOpen
import Derived.OwnWalkIn
import Derived.LoopNIn
import Derived.LoopIn
import Derived.Test.YtmhcfaaggkidjaaGreatDoorJ16
set_option linter.unusedSimpArgs false
set_option linter.unusedVariables false
section
namespace Go.Proofs.YtmhcfaaggkidjaaGreatDoor
open Go.RowKit Go.Shelf
attribute [local go_sem] Oper.semAt_some
def item (ws:List (Nat × ByteArray)) (i:Nat):Nat × Nat × ByteArray:=(i,ws.getD i (0,⟨#[]⟩))
def dn (ws:List (Nat × ByteArray)) (k:Nat):List (Nat × Nat × ByteArray):=(List.range k).map fun j=>item ws (ws.length-1-j)
theorem Tu (ws:List (Nat × ByteArray)) (k:Nat):dn ws (k+1)=dn ws k++[item ws (ws.length-1-k)]:=by
 unfold dn;rw[List.range_succ,List.map_append]
 rfl
theorem KN (ws:List (Nat × ByteArray)) (k:Nat) (hk:k≤ws.length):dn ws k <+: dn ws ws.length:=by
 have h:dn ws k=(dn ws ws.length).take k:=by
  unfold dn;rw[←List.map_take,List.take_range,Nat.min_eq_left hk]
 rw[h];exact List.take_prefix _ _
def vG (n₀:Nat) (W:World) (v:Value) (ws:List (Nat × ByteArray)):Prop:=
 (v=.slice none 0 0∧ws=[])∨∃g cap,v=.slice (some ⟨g,0,none⟩) ws.length cap∧g<n₀∧∀i,i<ws.length→W.cell? ⟨g,i*2,none⟩=some (.int .i64 ((ws.getD i (0,⟨#[]⟩)).1:Int))∧W.cell? ⟨g,i*2+1,none⟩=some (.string (ws.getD i (0,⟨#[]⟩)).2)
theorem vG.below {n₀:Nat} {A B:World} {v:Value} {ws:List (Nat × ByteArray)} (h:vG n₀ A v ws) (hb:Below n₀ A B):vG n₀ B v ws:=by
 rcases h with h | ⟨g,cap,hv,hg,hc⟩
 ·exact Or.inl h
 exact Or.inr ⟨g,cap,hv,hg,fun i hi=>⟨(hb.cell (p:=⟨g,i*2,none⟩) hg).trans (hc i hi).1,(hb.cell (p:=⟨g,i*2+1,none⟩) hg).trans (hc i hi).2⟩⟩
def Xi (x:Nat × Nat × ByteArray):Array Value:=#[.int .i64 (x.1:Int),.agg #[.int .i64 (x.2.1:Int),.string x.2.2]]
set_option maxRecDepth 100000 in
set_option maxHeartbeats 1000000 in
theorem OB (F:Fence) (n:Nat) (h6:F.fn 245) (hro:F.round=none) (hn:1≤n) (l Bn n₀:Nat) (v:Value) (ws:List (Nat × ByteArray)) (J Jx:List (Nat × Nat × ByteArray)→World→Prop)
  (hY:∀pre x W,J pre W→pre.length<ws.length→YieldAt F (n-1) Tryz.prog l (Xi x) W fun e W'=>
   (e=.returned (.bool true)∧J (pre++[x]) W'∧Below n₀ W W')∨(e=.returned (.bool false)∧Jx (pre++[x]) W'))
  (W:World) (hBn:W.cell? ⟨Bn,0,none⟩=some v) (hBl:Bn<n₀) (hL:vG n₀ W v ws) (hlen:ws.length≤1000) (h0:J [] W) :
  CallsIn F n Tryz.prog 245 #[.func (.yield l) #[] #[],.pointer (some ⟨Bn,0,none⟩)] W fun e W'=>(∃v,e=.returned v)∧
   ((∃ys,ys=dn ws ws.length∧J ys W')∨(∃pre,pre <+: dn ws ws.length∧Jx pre W')):=by
 rcases hL with⟨rfl,rfl⟩ | ⟨g,cap,rfl,hg,hc⟩
 ·refine callsIn_of_wp Tryz.func245 rfl h6 ?_ hro;simp only[Tryz.ntmps245,List.size_toArray,List.length_cons,List.length_nil,Nat.reduceAdd,Nat.reduceSub,Array.replicate_succ,Array.replicate_zero,List.push_toArray,List.append_toArray,List.nil_append,List.cons_append]
  gi_wp2
  gi_loopw [3] (fun p wr=>p=.int .i64 (-1)∧J [] wr) (fun p wr=>0)
  case atStart=>exact⟨rfl,h0⟩
  obtain⟨rfl,hJ⟩:=hrel
  gi_wp2
  go_end0
  exact⟨⟨_,rfl⟩,.inl ⟨_,rfl,hJ⟩⟩
 refine callsIn_of_wp Tryz.func245 rfl h6 ?_ hro;simp only[Tryz.ntmps245,List.size_toArray,List.length_cons,List.length_nil,Nat.reduceAdd,Nat.reduceSub,Array.replicate_succ,Array.replicate_zero,List.push_toArray,List.append_toArray,List.nil_append,List.cons_append]
 gi_wp2
 gi_loopw [3] (fun p wr=>∃k:Nat,k≤ws.length∧p=.int .i64 ((ws.length-k:Nat)-1:Int)∧vG n₀ wr (.slice (some ⟨g,0,none⟩) ws.length cap) ws∧wr.cell? ⟨Bn,0,none⟩=some (.slice (some ⟨g,0,none⟩) ws.length cap)∧J (dn ws k) wr)
  (fun p wr=>(intOf p+1).toNat)
 case atStart=>
  exact⟨0,Nat.zero_le _,by simp,Or.inr ⟨g,cap,rfl,hg,hc⟩,hBn,h0⟩
 obtain⟨k,hk,rfl,hr,hb,hJ⟩:=hrel;by_cases hlt:k<ws.length
 ·obtain⟨m,hm⟩:∃m,ws.length-k=m+1:=⟨ws.length-k-1,by omega⟩
  have hmi:ws.length-1-k=m:=by omega
  have hml:m<ws.length:=by omega
  have hr':=hr;rcases hr with⟨e,_⟩ | ⟨g',cap',he,hg',hc'⟩
  ·cases e
  injection he with he1 he2 YP
  injection he1 with he1
  injection he1 with he1
  subst he1;subst YP;obtain⟨c1,c2⟩:=hc' m hml;have hJd:=Tu ws k;rw[hmi] at hJd;obtain⟨fn,tmps,assign,body,hy,hR⟩:=hY (dn ws k) (item ws m) wr hJ (by simp[dn];omega);have hy':(Instr.yield l #[.int .i64 (m:Int),.agg #[.int .i64 ((ws.getD m (0,⟨#[]⟩)).1:Int),.string (ws.getD m (0,⟨#[]⟩)).2]]).run Tryz.prog wr=.ok (.round l fn tmps assign body) wr:=hy;have e1:(((ws.length-k:Nat):Int)-1)=(m:Int):=by omega
  rw[e1];have a5v:(m:Int)<ws.length:=by omega
  have HR:=(show Hid _ from hr')
  clear hy hc hc' hr' hY;generalize (ws.getD m (0,⟨#[]⟩)).1=x1 at *;generalize (ws.getD m (0,⟨#[]⟩)).2=x2 at *
  gi_wp2
  refine hR.mono ?_;rintro e W3 (⟨rfl,hJ3,hk3⟩ | ⟨rfl,hJx3⟩)
  ·have hr3:=vG.below (show vG n₀ wr _ ws from HR.out) hk3;have hb3:W3.cell? ⟨Bn,0,none⟩=some (.slice (some ⟨g,0,none⟩) ws.length cap):=(hk3.cell (p:=⟨Bn,0,none⟩) hBl).trans hb;have HR3:=(show Hid _ from hr3)
   clear hr3
   gi_wp2
   go_roundw
   case rel=>
    refine⟨k+1,by omega,?_,HR3.out,hb3,by rw[hJd];exact hJ3⟩
    congr 1
    omega
   case measure=>simp[intOf]
  gi_wp2
  refine bodyPost_ret (results_none rfl _ _ _) rfl ?_;refine⟨⟨_,rfl⟩,.inr ⟨dn ws k++[item ws m],?_,hJx3⟩⟩;rw[←hJd];exact KN ws (k+1) (by omega)
 have hke:k=ws.length:=by omega
 subst hke;rw[Nat.sub_self]
 gi_wp2
 go_end0
 exact⟨⟨_,rfl⟩,.inl ⟨_,rfl,hJ⟩⟩
theorem Tv (F:Fence) (n:Nat) (h5:F.fn 190) (hro:F.round=none) (a:Option Addr) (m c:Nat) (w:World) :
  CallsIn F n Tryz.prog 190 #[.slice a m c] w fun e w'=>e=.returned (.func (.func 245) #[] #[.pointer (some ⟨w.heap.size,0,none⟩)])∧w'=w.alloc (.cells #[.slice a m c] 102):=by
 refine callsIn_of_wp Tryz.func190 rfl h5 ?_ hro;simp only[Tryz.ntmps190,List.size_toArray,List.length_cons,List.length_nil,Nat.reduceAdd,Nat.reduceSub,Array.replicate_succ,Array.replicate_zero,List.push_toArray,List.append_toArray,List.nil_append,List.cons_append]
 gi_wp2
 go_ret;exact⟨rfl,rfl⟩
theorem Gj (F:Fence) (n:Nat) (h6:F.fn 245) (hro:F.round=none) (hn:1≤n) (Bn n₀:Nat) (v:Value) (ws:List (Nat × ByteArray)) (w:World) (hBn:Bn<n₀) (hn₀:n₀≤w.heap.size)
  (hc:w.cell? ⟨Bn,0,none⟩=some v) (hL:vG n₀ w v ws) (hlen:ws.length≤1000) :
  SeqStopsK F n Tryz.prog 245 #[.pointer (some ⟨Bn,0,none⟩)] Xi (Below n₀) (fun ys=>ys=dn ws ws.length) (fun pre=>pre <+: dn ws ws.length) ws.length w:=fun l J Jx W hW _ _ hY h0=>
 OB F n h6 hro hn l Bn n₀ v ws J Jx hY W ((hW.cell (p:=⟨Bn,0,none⟩) (by show Bn<_;omega)).trans hc) hBn (hL.below (hW.mono hn₀)) hlen h0
end Go.Proofs.YtmhcfaaggkidjaaGreatDoor
end
section
namespace Go.Proofs.YtmhcfaaggkidjaaGreatDoor
open Go.RowKit Go.Shelf
attribute [local go_sem] Oper.semAt_some
def hit (k:Nat) (kept:Nat→Bool) (x:Nat × Nat × ByteArray):Bool:=x.2.1==k&&kept x.1
def zP (ws:List (Nat × ByteArray)) (k:Nat) (kept:Nat→Bool):Option (Nat × Nat × ByteArray):=(dn ws ws.length).find? (hit k kept)
def Dv.aJ (D:Dv) (k:Nat) (kept:Nat→Bool):Nat→UInt8:=match zP D.ws k kept with | some x=>sb x.2.2 | none=>D.slot k
theorem qZ {β:Type} (b n:Nat) (f:β→Nat→Value):Own (fun s W=>ak W b n (f s)):=fun s X Y row hs hg hrow=>
 ⟨fun j hj=>cell_kept (hs.cell j hj) hg hrow,fun j hj=>(frozen_kept (hs.cell j hj) hg hrow).trans (hs.frozen j hj)⟩
theorem vG.Xj {W:World} {v:Value} {ws:List (Nat × ByteArray)} (h:W.ownsRow 0 228 2 v ws.length (kF ws)) (n₀:Nat) (hn:W.heap.size≤n₀):vG n₀ W v ws:=by
 rcases h.2 with⟨hv,h0⟩ | ⟨g,cap,cur,hv,_,hg,h1,h2,h3,h4⟩
 ·exact Or.inl ⟨hv,List.length_eq_zero_iff.1 h0⟩
 refine Or.inr ⟨g,cap,hv,by have:=(Array.getElem?_eq_some_iff.1 hg).1;omega,fun i hi=>?_⟩;have hw:∀(ws:List (Nat × ByteArray)) (i:Nat),i<ws.length→(kF ws)[i*2]?=some (.int .i64 ((ws.getD i (0,⟨#[]⟩)).1:Int))∧(kF ws)[i*2+1]?=some (.string (ws.getD i (0,⟨#[]⟩)).2):=by
  intro ws;induction ws with
  | nil=>intro i hi;simp at hi
  | cons p r ih=>
   intro i hi;cases i with
   | zero=>exact⟨rfl,rfl⟩
   | succ i=>
    have:=ih i (by simpa using hi);rw[show (i+1)*2=i*2+1+1 by omega];exact this
 obtain⟨e1,e2⟩:=hw ws i hi;have hcell:∀(o:Nat) (x:Value),o<ws.length*2→(kF ws)[o]?=some x→W.cell? ⟨g,o,none⟩=some x:=fun o x ho hx=>by
  rw[←h4,List.getElem?_take_of_lt ho,Array.getElem?_toList] at hx;simp[World.cell?,hg,hx]
 exact⟨hcell _ _ (by omega) e1,hcell _ _ (by omega) e2⟩
theorem Dq {b:Nat} {W W':World} {x:Value} (h:Fr b none W W') (hc:W.cell? ⟨b,0,none⟩=some x):KeepsOthers W W':=by
 refine⟨h.size,fun k o hk ho=>?_⟩;obtain⟨o',h1,h2⟩:=cells_of_cell hc;rw[h.block k (Array.getElem?_eq_some_iff.1 hk).1 (fun e=>by
  subst e;rw[h1] at hk;cases hk
  rw[h2] at ho;cases ho) (by simp)]
 exact hk
theorem Dr {α:Type} {p:α→Bool} {pre l:List α} {x:α} (h:pre <+: l) (hf:pre.find? p=some x):l.find? p=some x:=by
 obtain⟨t,rfl⟩:=h;rw[List.find?_append,hf]
 rfl
set_option maxRecDepth 100000 in
set_option maxHeartbeats 2000000 in
theorem wV (D:Dv) (v:Value) (b k yV:Nat) (ni:Array Value) (kept:Nat→Bool) (w:World) (hd:Dev w b D v) (hk:k<2)
  (Zo:∀args w,(callFunc yV args).run Tryz.prog w=.ok (.enter yV args) w)
  (hkc:∀(i:Nat) (W:World),Below w.heap.size w W→Calls Tryz.prog yV (#[.int .i64 i]++ni) W fun e W'=>e=.returned (.bool (kept i))∧W'=W) :
  Calls Tryz.prog 138 #[.pointer (some ⟨b,0,none⟩),.int .i64 k,.func (.func yV) #[] ni] w fun e w'=>e=.returned (.agg (aa 500 (fun i=>bv (D.aJ k kept i))).toArray)∧Since w w':=by
 have c1:=hd.bL.cell 17400 (by omega);rw[gI] at c1;obtain⟨a0,m0,cap0,rfl⟩:∃a m c,v=.slice a m c:=by
  rcases hd.own.2 with⟨hv,_⟩ | ⟨g,cap,cur,hv,_⟩
  ·exact⟨_,_,_,hv⟩
  exact⟨_,_,_,hv⟩
 have hbl:=hd.lt;have hwr:=vG.Xj hd.own w.heap.size (Nat.le_refl _);have hlen:=hd.ok.few;have HD:=(show Hid _ from hd)
 clear hd;have hS0:=(((Since.refl w).alloc (.cells #[.int .i64 k] 3)).alloc (.cells #[.func (.func yV) #[] ni] 132)).alloc (.cells Tryz.zeroCells100 100);have c3:=(HD.out.since hS0).bL.cell 17400 (by omega);rw[gI] at c3;have Js:=(show Hid _ from hS0)
 clear hS0;refine(callsIn_wide (n:=6)).1 ?_;refine callsIn_of_wp_marks Tryz.func138 rfl trivial ?_ rfl;simp only[Tryz.ntmps138,List.size_toArray,List.length_cons,List.length_nil,Nat.reduceAdd,Nat.reduceSub,Array.replicate_succ,Array.replicate_zero,List.push_toArray,List.append_toArray,List.nil_append,List.cons_append]
 gi_wp2_with (refine⟨trivial,?_⟩;gi_at_call 190;refine(Tv Fence.wide _ trivial rfl _ _ _ _).mono ?_;rintro e w' ⟨rfl,rfl⟩)
 have b0:=(((Boxed.new w 3 (.int .i64 k)).alloc (.cells #[.func (.func yV) #[] ni] 132)).alloc (.cells Tryz.zeroCells100 100)).alloc (.cells #[.slice a0 m0 cap0] 102);have b1:=((Boxed.new (w.alloc (.cells #[.int .i64 k] 3)) 132 (.func (.func yV) #[] ni)).alloc (.cells Tryz.zeroCells100 100)).alloc (.cells #[.slice a0 m0 cap0] 102);have b2:ak ((((w.alloc (.cells #[.int .i64 k] 3)).alloc (.cells #[.func (.func yV) #[] ni] 132)).alloc (.cells Tryz.zeroCells100 100)).alloc (.cells #[.slice a0 m0 cap0] 102)) (w.heap.size+1+1) 500 (fun _=>bv 0):=(ak.new _ _ _ _ _ (fun j hj=>jb j hj) _ (by simp)).since ((Since.refl _).alloc _);have b3:=Boxed.new (((w.alloc (.cells #[.int .i64 k] 3)).alloc (.cells #[.func (.func yV) #[] ni] 132)).alloc (.cells Tryz.zeroCells100 100)) 102 (.slice a0 m0 cap0)
 have hB0:Below w.heap.size w ((((w.alloc (.cells #[.int .i64 k] 3)).alloc (.cells #[.func (.func yV) #[] ni] 132)).alloc (.cells Tryz.zeroCells100 100)).alloc (.cells #[.slice a0 m0 cap0] 102)):=Since.alloc Js.out _;simp only[World.size_alloc] at b1 b3;have hsz:((((w.alloc (.cells #[.int .i64 k] 3)).alloc (.cells #[.func (.func yV) #[] ni] 132)).alloc (.cells Tryz.zeroCells100 100)).alloc (.cells #[.slice a0 m0 cap0] 102)).heap.size=w.heap.size+4:=by simp
 obtain⟨W0,hW0⟩:∃W0,((((w.alloc (.cells #[.int .i64 k] 3)).alloc (.cells #[.func (.func yV) #[] ni] 132)).alloc (.cells Tryz.zeroCells100 100)).alloc (.cells #[.slice a0 m0 cap0] 102))=W0:=⟨_,rfl⟩
 rw[hW0] at b0 b1 b2 b3 hB0 hsz ⊢;clear hW0 c3;have a2p:vG W0.heap.size W0 (.slice a0 m0 cap0) D.ws:=by
  have h1:=hwr.below hB0;rcases h1 with h1 | ⟨g,cp,hv,hg,hc⟩
  ·exact Or.inl h1
  exact Or.inr ⟨g,cp,hv,by omega,hc⟩
 have h1n:1≤6:=by omega
 refine wpIn_rangeFunc_ownH (F:=Fence.wide) (n:=6) rfl h1n (gf:=245) (lb:=#[.pointer (some ⟨w.heap.size+1+1+1,0,none⟩)]) rfl trivial (enters_of Tryz.func245 (by kernel_rfl) rfl)
  (Gj Fence.wide 5 trivial rfl (by omega) (w.heap.size+1+1+1) W0.heap.size (.slice a0 m0 cap0) D.ws W0 (by omega) (Nat.le_refl _) b3.cell a2p hlen) belowK_t (belowK_b (Nat.le_refl _)) (Below.refl _ _) (fun _=>rfl)
  (fun pre W=>(((pre.find? (hit k kept)=none∧Boxed W w.heap.size 3 (.int .i64 k))∧Boxed W (w.heap.size+1) 132 (.func (.func yV) #[] ni))∧ak W (w.heap.size+1+1) 500 (fun _=>bv 0))∧Below W0.heap.size W0 W)
  (fun c pre W=>((c=.ret∧∃x,pre.find? (hit k kept)=some x∧True)∧∃x,pre.find? (hit k kept)=some x∧ak W (w.heap.size+1+1) 500 (fun i=>bv (sb x.2.2 i)))∧Below w.heap.size w W)
  (OwnFrom.and (OwnFrom.and (OwnFrom.and (OwnFrom.and (ownFrom_pure _ _) (Own.from (boxed_own _ _ _) _)) (Own.from (boxed_own _ _ _) _)) (Own.from (qZ _ _ (fun _ _=>bv 0)) _)) (ownFrom_below (Nat.le_refl _) (Nat.le_refl _)))
  (fun c=>OwnFrom.and (OwnFrom.and (ownFrom_pure _ _) (fun pre X Y row hs hg hr=>by obtain⟨x,hx,hc⟩:=hs;exact⟨x,hx,qZ (w.heap.size+1+1) 500 (fun (_:Unit) i=>bv (sb x.2.2 i)) () X Y row hc hg (fun r e=>(hr r e).2)⟩)) (ownFrom_below (Nat.le_refl _) (by omega)))
  ⟨⟨⟨⟨rfl,b0⟩,b1⟩,b2⟩,Below.refl _ _⟩
  (fun x a' W=>∃Bx,ak W Bx 2 (fun j=>if j=0 then .int .i64 (x.2.1:Int) else .string x.2.2)∧a'={ tmps:=#[.pointer (some ⟨b,0,none⟩),.int .i64 k,.func (.func yV) #[] ni,undef,.pointer (some ⟨w.heap.size,0,none⟩),.pointer (some ⟨w.heap.size+1,0,none⟩),.pointer (some ⟨w.heap.size+1+1,0,none⟩),.int .i64 (x.1:Int),.pointer (some ⟨Bx,0,none⟩),.pointer (some ⟨b,0,none⟩),.pointer (some ⟨b,0,none⟩),.pointer (some ⟨b,17400,none⟩),.slice a0 m0 cap0,.func (.func 245) #[] #[.pointer (some ⟨w.heap.size+1+1+1,0,none⟩)],.int .i64 (x.1:Int),.agg #[.int .i64 (x.2.1:Int),.string x.2.2],undef,undef,undef,undef,undef,undef,undef,undef,undef,undef,undef,undef,undef,undef,undef,undef,undef,undef],defers:=[] })
  (fun x a' _ X Y row hs hg hr=>by obtain⟨Bx,e2,e3⟩:=hs;exact⟨Bx,qZ Bx 2 (fun (_:Unit) j=>if j=0 then .int .i64 (x.2.1:Int) else .string x.2.2) () X Y row e2 hg (fun r e=>(hr r e).2),e3⟩)
  ?assign ?body ?done ?stop
 case assign=>
  rintro l pre ⟨x0,x1,x2⟩ W K ⟨⟨⟨⟨hp,q0⟩,q1⟩,q2⟩,hB1⟩ hK;simp only[Xi]
  gi_wp2
  refine hK _ _ ((KeepsOthers.alloc _ _).from _) ((Below.refl _ W).alloc hB1.size _) ⟨⟨⟨⟨hp,q0.alloc _⟩,q1.alloc _⟩,q2.since ((Since.refl _).alloc _)⟩,hB1.alloc hB1.size _⟩ ⟨W.heap.size,ak.new W 2 _ _ _ (fun j hj=>?_) _ rfl,rfl⟩
  match j,hj with
  | 0,_=>rfl
  | 1,_=>rfl
 case body=>
  rintro l pre ⟨x0,x1,x2⟩ a' W hl hr ⟨⟨⟨⟨hp,q0⟩,q1⟩,q2⟩,hB1⟩ ⟨Bx,bX,rfl⟩ hlt;have d0:=q0.cell;have d1:=q1.cell;have d2:=bX.cell 0 (by omega);have d3:=bX.cell 1 (by omega);simp only[if_pos,if_neg,Nat.one_ne_zero,if_false,if_true] at d2 d3;have hBw:Below w.heap.size w W:=hB0.trans (hB1.mono (by omega));have Q0:=(show Hid _ from q0)
  have Q1:=(show Hid _ from q1)
  have Q2:=(show Hid _ from q2)
  have BX:=(show Hid _ from bX)
  clear q0 q1 q2 bX hr;by_cases hx:x1=k
  ·subst hx;cases hkp:kept x0 with
   | false=>
    gi_wp2
    refine⟨?_,?_⟩
    ·first
     | trivial
     | (intro f _;trivial)
    refine(CallsIn.inRound l (callsIn_wide.2 (hkc x0 W hBw))).mono ?_;rintro e W' ⟨rfl,rfl⟩;rw[hkp]
    gi_wp2
    refine⟨KeepsFrom.refl _ _,Below.refl _ _,⟨⟨⟨?_,Q0.out⟩,Q1.out⟩,Q2.out⟩,hB1⟩;rw[List.find?_append,hp];simp[hit,hkp]
   | true=>
    gi_wp2
    refine⟨?_,?_⟩
    ·first
     | trivial
     | (intro f _;trivial)
    refine(CallsIn.inRound l (callsIn_wide.2 (hkc x0 W hBw))).mono ?_;rintro e W' ⟨rfl,rfl⟩;rw[hkp]
    gi_wp2
    refine⟨?_,?_⟩
    ·first
     | trivial
     | (intro f _;trivial)
    refine(CallsIn.inRound l (callsIn_wide.2 (iy x2 _))).mono ?_;rintro e W2 ⟨rfl,hS2⟩;have hC2:=Q2.out.since hS2;have hst:=hC2.store Tryz.prog 0 500 (by omega) (fun i=>bv (sb x2 i)) (fun _ _=>rfl);have hL:(aa 500 (fun i=>bv (sb x2 i))).length=500:=ag _ _;have fT:=(hC2.setRow 0 500 (by omega) (fun i=>bv (sb x2 i))).congr (g:=fun i=>bv (sb x2 i)) (fun j hj=>by unfold dF;rw[if_pos (by omega)];rfl);have jZ:=(show Hid _ from fT)
    have fu:Below w.heap.size w (W2.setCells (w.heap.size+1+1) 0 (aa 500 (fun i=>bv (sb x2 i)))):=Since.setCells (Since.trans (show Since w W' from hBw) hS2) (by omega) _ _;have iw:=(show Hid _ from fu)
    clear hC2 fT fu
    gi_wp2
    have hfi:(pre++[(x0,x1,x2)]).find? (hit x1 kept)=some (x0,x1,x2):=by
     rw[List.find?_append,hp];simp[hit,hkp]
    exact⟨(Dq ((Fr.ah hS2).trans' (Fr.setCells _ _ _ _ _)) (Q2.out.cell 0 (by omega))).from _,⟨⟨rfl,_,hfi,trivial⟩,_,hfi,jZ.out⟩,iw.out⟩
  have hx2:¬(x1:Int)=(k:Int):=by omega
  gi_wp2
  refine⟨(fun _ h=>by cases h),?_⟩
  gi_wp2
  refine⟨KeepsFrom.refl _ _,Below.refl _ _,⟨⟨⟨?_,Q0.out⟩,Q1.out⟩,Q2.out⟩,hB1⟩;rw[List.find?_append,hp];simp[hit,hx]
 case done=>
  rintro Dd zs W Xk rfl ⟨⟨⟨⟨hp,q0⟩,q1⟩,q2⟩,hB1⟩ hK;have hBw:Below w.heap.size w W:=hB0.trans (hB1.mono (by omega));have hdW:=HD.out.since (show Since w W from hBw);have d0:W.drew.cell? ⟨w.heap.size,0,none⟩=some (.int .i64 k):=q0.cell;have hk2:(k:Int)<2:=by omega
  have hR:W.drew.rangeAt b (16400+k*500) (aa 500 (fun i=>bv (D.slot k i))):=fun j x hx=>by
   have hj:j<500:=by have:=(List.getElem?_eq_some_iff.1 hx).1;rwa [ag] at this
   rw[aU _ _ j hj] at hx;have:=hdW.bL.cell (16400+k*500+j) (by omega);rw[il D _ k j hk hj] at this;rw[←hx];exact this
  have hth:=q2.there 0 500 (by omega);have hu:=Tryz.underlying100;have hL:(aa 500 (fun i=>bv (D.slot k i))).length=500:=ag _ _;have hi:(Tryz.prog.info? 100).map (·.size)=some (aa 500 (fun i=>bv (D.slot k i))).length:=by rw[ag];kernel_rfl
  have h1c:∀v ∈ aa 500 (fun i=>bv (D.slot k i)),v.oneCell'=true:=fC _ _ (fun _ _=>rfl);have hne:b≠w.heap.size+1+1:=by omega
  have Q2:=(show Hid _ from q2)
  have hRW:W.rangeAt b (16400+k*500) (aa 500 (fun i=>bv (D.slot k i))):=hR;have d0W:W.cell? ⟨w.heap.size,0,none⟩=some (.int .i64 k):=q0.cell;clear q2 hdW hR d0;generalize hcs:aa 500 (fun i=>bv (D.slot k i))=cs at *;have d0X:(W.drew.setCells (w.heap.size+1+1) 0 cs).cell? ⟨w.heap.size,0,none⟩=some (.int .i64 k):=by
   rw[World.cell?_setCells_out _ _ _ _ _ (fun e _=>absurd e (by show ¬w.heap.size=w.heap.size+1+1;omega))];exact d0W
  gi_wp2
  refine wpIn_wide.2 ?_;go_region_held3 (fun w'=>w'.rangeAt b (16400+k*500) cs∧w'.there (w.heap.size+1+1) 0 500∧w'.cell? ⟨w.heap.size,0,none⟩=some (.int .i64 k)) (first | go_keep_ranges | (refine⟨?_,?_,?_⟩<;>first | go_keep_ranges | assumption) | assumption) (fail)
  gi_wp2
  have hDlt:Dd<W.heap.size:=(Array.getElem?_eq_some_iff.1 hK).1;have hK':(W.drew.setCells (w.heap.size+1+1) 0 cs).heap[Dd]?=some (.deferred (some [])):=by
   exact((Fr.setCells (w.heap.size+1+1) none cs 0 W.drew).block Dd hDlt (by omega) (by simp)).trans hK
  refine⟨by simp,.inl ⟨_,_,rfl,run_takeDeferred hK',?_⟩⟩;have pg:ak (W.drew.setCells (w.heap.size+1+1) 0 cs) (w.heap.size+1+1) 500 (fun i=>bv (D.slot k i)):=by
   rw[←hcs];exact((Q2.out.since (Since.refl W).drew).setRow 0 500 (by omega) (fun i=>bv (D.slot k i))).congr (fun j hj=>by unfold dF;rw[if_pos (by omega)];rfl)
  have hC5:=(qZ (w.heap.size+1+1) 500 (fun (_:Unit) i=>bv (D.slot k i))) () _ _ _ pg (grownBy_putObj' _ Dd (.deferred none)) (fun r e=>by cases e;exact⟨_,hK',rfl⟩);have Zp:=hC5.range 0 500 (by omega);simp only[Nat.zero_add] at Zp;refine⟨_,aQ Tryz.results138 _ _ _ (w.heap.size+1+1) _ _ (by rfl) Zp Tryz.underlying100 (by rfl) (by rw[ag];kernel_rfl),?_,?_⟩
  ·have e:D.aJ k kept=D.slot k:=by unfold Dv.aJ zP;rw[hp]
   rw[e]
  have h3:Below w.heap.size w (W.drew.setCells (w.heap.size+1+1) 0 cs):=Since.setCells (Since.drew (show Since w W from hBw)) (by omega) _ _;exact h3.trans (belowK_b (w:=w) (Nat.le_refl _) _ Dd _ _ (by omega) hK' rfl rfl)
 rintro Dd c pre W Xk hpre ⟨⟨⟨rfl,_⟩,x,hx,hC⟩,hB1⟩ hK
 gi_wp2
 refine⟨by simp,.inl ⟨_,_,rfl,run_takeDeferred hK,?_⟩⟩;have hC5:=(qZ (w.heap.size+1+1) 500 (fun (_:Unit) i=>bv (sb x.2.2 i))) () _ _ _ hC (grownBy_putObj' _ Dd (.deferred none)) (fun r e=>by cases e;exact⟨_,hK,rfl⟩);have Zp:=hC5.range 0 500 (by omega);simp only[Nat.zero_add] at Zp;refine⟨_,aQ Tryz.results138 _ _ _ (w.heap.size+1+1) _ _ (by rfl) Zp Tryz.underlying100 (by rfl) (by rw[ag];kernel_rfl),?_,?_⟩
 ·have e:D.aJ k kept=sb x.2.2:=by unfold Dv.aJ zP;rw[Dr hpre hx]
  rw[e]
 exact hB1.trans (belowK_b (w:=w) (Nat.le_refl _) _ Dd _ _ (by omega) hK rfl rfl)
end Go.Proofs.YtmhcfaaggkidjaaGreatDoor
end
section
namespace Go.Proofs.YtmhcfaaggkidjaaGreatDoor
open Go.RowKit
def Dv.gN (D:Dv) (k:Nat) (f:Nat→UInt8):Dv:={ D with slot:=fun k'=>if k'=k then f else D.slot k' }
set_option maxRecDepth 100000 in
theorem lL (D:Dv) (v:Value) (b k:Nat) (f:Nat→UInt8) (w:World) (hd:Dev w b D v) (hk:k<2):Dev (w.setCells b (16400+k*500) (aa 500 (fun i=>bv (f i)))) b (D.gN k f) v:=by
 refine hd.turn ((hd.bL.setRow (16400+k*500) 500 (by omega) _).congr (fun j hj=>?_)) (Fr.setCells _ _ _ _ _) rfl ⟨hd.ok.cnt,hd.ok.sure,hd.ok.zero,hd.ok.left,hd.ok.ws,hd.ok.few⟩;unfold dF;by_cases h:16400+k*500≤j∧j<16400+k*500+500
 ·rw[if_pos h];have e:=il (D.gN k f) v k (j-(16400+k*500)) hk (by omega);rw[show 16400+k*500+(j-(16400+k*500))=j by omega] at e;rw[e];simp[Dv.gN]
 rw[if_neg h];unfold cu;by_cases h1:j<16400
 ·rw[if_pos h1,if_pos h1];rfl
 rw[if_neg h1,if_neg h1];by_cases h2:j<17400
 ·rw[if_pos h2,if_pos h2];have hne:(j-16400) / 500≠k:=by omega
  simp[Dv.gN,hne]
 rw[if_neg h2,if_neg h2];rfl
def Dv.none (D:Dv):Dv:={ D with ws:=[] }
theorem Dt (D:Dv) (v:Value) (b:Nat) (w:World) (hd:Dev w b D v):Dev (w.setCell ⟨b,17400,none⟩ (.slice none 0 0)) b D.none (.slice none 0 0) where
 bL:=by
  refine(hd.bL.set 17400 (by omega) _).congr (fun j hj=>?_);unfold aZ;by_cases e:j=17400
  ·subst e;rw[if_pos rfl,gI]
  rw[if_neg e];unfold cu;have h3:j<16400∨(¬j<16400∧j<17400)∨(¬j<16400∧¬j<17400):=by omega
  rcases h3 with h | ⟨h,h'⟩ | ⟨h,h'⟩
  ·rw[if_pos h,if_pos h];rfl
  ·rw[if_neg h,if_neg h,if_pos h',if_pos h'];rfl
  rw[if_neg h,if_neg h,if_neg h',if_neg h',if_neg e,if_neg e];rfl
 own:=World.ownsRow_nil _ _ _ _
 ne:=by simp[Value.ownBlock]
 ok:=⟨hd.ok.cnt,hd.ok.sure,hd.ok.zero,hd.ok.left,fun p hp=>by simp[Dv.none] at hp,by simp[Dv.none]⟩
def Dv.settled (D:Dv) (kept:Nat→Bool):Dv:=((D.gN 0 (D.aJ 0 kept)).gN 1 (D.aJ 1 kept)).none
set_option maxRecDepth 100000 in
set_option maxHeartbeats 2000000 in
theorem wW (D:Dv) (v:Value) (b yV:Nat) (ni:Array Value) (kept:Nat→Bool) (w:World) (hd:Dev w b D v)
  (Zo:∀args w,(callFunc yV args).run Tryz.prog w=.ok (.enter yV args) w)
  (hkc:∀(i:Nat) (W:World),Fr b none w W→Calls Tryz.prog yV (#[.int .i64 i]++ni) W fun e W'=>e=.returned (.bool (kept i))∧W'=W) :
  Calls Tryz.prog 82 #[.pointer (some ⟨b,0,none⟩),.func (.func yV) #[] ni] w fun e w'=>e=.returned (.tuple #[])∧Dev w' b (D.settled kept) (.slice none 0 0)∧Fr b none w w':=by
 have HD:=(show Hid _ from hd)
 have HK:=(show Hid _ from hkc)
 have HE:=(show Hid _ from Zo)
 clear hd hkc Zo;go_enter Tryz.func82,Tryz.ntmps82
 go_wp2_with fail
 refine wp_loop_rounds 3 ?_;rw[rounds_succ];go_wp2_with fail
 go_region_with (go_at_call 138;refine(wV D v b 0 yV ni kept _ (HD.out.since (Since.refl _).drew) (by omega) HE.out (fun i W h=>HK.out i W (Fr.ah (Since.trans (Since.refl _).drew h)))).mono ?_;rintro e w1 ⟨rfl,hS1⟩;have hd1:=(HD.out.since (Since.refl _).drew).since hS1;have hst:=hd1.bL.store Tryz.prog 16400 500 (by omega) (fun i=>bv (D.aJ 0 kept i)) (fun _ _=>rfl);have HD1:=(show Hid _ from hd1);clear hd1;have hL:(aa 500 (fun i=>bv (D.aJ 0 kept i))).length=500:=ag _ _)
 have hd2:=lL D v b 0 (D.aJ 0 kept) w1 HD1.out (by omega);have hf2:Fr b none w (w1.setCells b (16400+0*500) (aa 500 (fun i=>bv (D.aJ 0 kept i)))):=(Fr.ah (Since.trans (Since.refl w).drew hS1)).trans' (Fr.setCells _ _ _ _ _);rw[show 16400+0*500=16400 from rfl] at hd2 hf2;generalize w1.setCells b 16400 (aa 500 (fun i=>bv (D.aJ 0 kept i)))=w2 at *;have HD2:=(show Hid _ from hd2)
 have oN:=(show Hid _ from hf2)
 clear hd2 hf2 hst HD1 hS1;go_wp2_with fail
 rw[rounds_succ];go_wp2_with fail
 have hby:(D.gN 0 (D.aJ 0 kept)).aJ 1 kept=D.aJ 1 kept:=rfl;have HBY:=(show Hid _ from hby)
 clear hby;go_region_with (go_at_call 138;refine(wV (D.gN 0 (D.aJ 0 kept)) v b 1 yV ni kept _ (HD2.out.since (Since.refl _).drew) (by omega) HE.out (fun i W h=>HK.out i W (oN.out.trans' (Fr.ah (Since.trans (Since.refl _).drew h))))).mono ?_;rintro e w3 ⟨rfl,fu⟩;rw[HBY.out];have hd3:=(HD2.out.since (Since.refl _).drew).since fu;have hst:=hd3.bL.store Tryz.prog 16900 500 (by omega) (fun i=>bv (D.aJ 1 kept i)) (fun _ _=>rfl);have HD3:=(show Hid _ from hd3);clear hd3;have hL:(aa 500 (fun i=>bv (D.aJ 1 kept i))).length=500:=ag _ _)
 have hd4:=lL _ v b 1 (D.aJ 1 kept) w3 HD3.out (by omega);have zQ:Fr b none w (w3.setCells b (16400+1*500) (aa 500 (fun i=>bv (D.aJ 1 kept i)))):=(oN.out.trans' (Fr.ah (Since.trans (Since.refl _).drew fu))).trans' (Fr.setCells _ _ _ _ _);rw[show 16400+1*500=16900 from rfl] at hd4 zQ;generalize w3.setCells b 16900 (aa 500 (fun i=>bv (D.aJ 1 kept i)))=w4 at *;have c4:=hd4.bL.cell 17400 (by omega);have f4:=hd4.bL.frozen 17400 (by omega);rw[gI] at c4;have HD4:=(show Hid _ from hd4)
 have OC:=(show Hid _ from zQ)
 clear hd4 zQ hst HD3 fu;go_wp2_with fail
 rw[rounds_succ];go_wp2_with fail
 go_end0
 exact⟨rfl,Dt _ v b w4 HD4.out,OC.out.trans' (Fr.setCell _ _ _ _ _)⟩
theorem rf:∀args w,(callFunc 186 args).run Tryz.prog w=.ok (.enter 186 args) w:=enters_of Tryz.func186 (by kernel_rfl) rfl
set_option maxRecDepth 100000 in
theorem AJ (D:Dv) (v:Value) (b k:Nat) (w:World) (hd:Dev w b D v) (hk:k<2) :
  Calls Tryz.prog 220 #[.pointer (some ⟨b,0,none⟩),.int .i64 k] w fun e w'=>e=.returned (.tuple #[.string (txt 500 (D.aJ k (fun _=>true))),.nilIface])∧Since w w':=by
 have hh:=Bh hk;have HD:=(show Hid _ from hd)
 clear hd;go_enter Tryz.func220,Tryz.ntmps220
 go_wp2_with fail
 refine(aW _ _).mono ?_;rintro e w' ⟨rfl,rfl⟩;go_wp2_with fail
 refine(mJ _ _).mono ?_;rintro e w' ⟨rfl,rfl⟩;rw[hh];go_wp2_with fail
 refine(wV D v b k 186 #[] (fun _=>true) _ HD.out hk rf (fun i W _=>zB i W)).mono ?_;rintro e w1 ⟨rfl,hS1⟩;have hL:(aa 500 (fun i=>bv (D.aJ k (fun _=>true) i))).length=500:=ag _ _;have hC:ak (w1.alloc (.cells Tryz.zeroCells100 100)) w1.heap.size 500 (fun _=>bv 0):=ak.new w1 _ _ _ _ (fun j hj=>jb j hj) _ rfl;have hst:=hC.store Tryz.prog 0 500 (by omega) (fun i=>bv (D.aJ k (fun _=>true) i)) (fun _ _=>rfl);have hC2:=(hC.setRow 0 500 (by omega) (fun i=>bv (D.aJ k (fun _=>true) i))).congr (g:=fun i=>bv (D.aJ k (fun _=>true) i)) (fun j hj=>by unfold dF;rw[if_pos (by omega)];rfl);have hS2:Since w' ((w1.alloc (.cells Tryz.zeroCells100 100)).setCells w1.heap.size 0 (aa 500 (fun i=>bv (D.aJ k (fun _=>true) i)))):=(hS1.alloc _).setCells hS1.size _ _
 have hcv:=dH _ w1.heap.size 0 500 500 (D.aJ k (fun _=>true)) (fun i hi=>by rw[Nat.zero_add];exact hC2.cell i hi);have HS2:=(show Hid _ from hS2)
 clear hC hC2 hS2;go_wp2_with fail
 go_ret2;exact⟨rfl,HS2.out⟩
end Go.Proofs.YtmhcfaaggkidjaaGreatDoor
end
section
namespace Go.Proofs.YtmhcfaaggkidjaaGreatDoor
open Go.RowKit
def Dv.iA (D:Dv) (k:Nat):Dv:={ D with sure:=fun z=>if z<k then D.cnt z else D.sure z }
theorem Gl (D:Dv) (v:Value) (b k:Nat) (w:World) (hd:Dev w b (D.iA k) v) (hk:k<8):Dev (w.setCell ⟨b,k*2050+2049,none⟩ (.int .i64 (D.cnt k))) b (D.iA (k+1)) v:=by
 have hok:(D.iA (k+1)).ok:=by
  have h:=hd.ok;refine⟨h.cnt,fun z hz=>?_,h.zero,h.left,h.ws,h.few⟩;show (if z<k+1 then D.cnt z else D.sure z)≤D.cnt z
  split
  ·exact Nat.le_refl _
  have:=h.sure z hz;have e:(D.iA k).sure z=D.sure z:=by show (if z<k then _ else _)=_;rw[if_neg (by omega)]
  rw[e] at this;exact this
 refine hd.turn ((hd.bL.set (k*2050+2049) (by omega) _).congr (fun j hj=>?_)) (Fr.setCell _ _ _ _ _) rfl hok;refine jL (D.iA k) (D.iA (k+1)) v k hk _ (fun j hj=>?_) (fun j hj=>?_) (fun z' h=>rfl) (fun z' h=>rfl) (fun z' h=>?_) rfl rfl rfl j
 ·unfold aZ;by_cases h0:j=2049
  ·rw[if_pos (by omega)];unfold aD;rw[if_neg (by omega),if_neg (by omega)];show Value.int .i64 (D.cnt k)=.int .i64 ((if k<k+1 then D.cnt k else D.sure k:Nat):Int)
   rw[if_pos (by omega)]
  rw[if_neg (by omega),lK _ v k j hk hj];unfold aD;by_cases h1:j<2048
  ·rw[if_pos h1,if_pos h1];rfl
  rw[if_neg h1,if_neg h1,if_pos (by omega),if_pos (by omega)];rfl
 ·unfold aZ;rw[if_neg (by omega)]
 show (if z'<k+1 then _ else _)=(if z'<k then _ else _)
 by_cases h1:z'<k
 ·rw[if_pos h1,if_pos (by omega)]
 rw[if_neg h1,if_neg (by omega)]
theorem Gm (D:Dv) (v:Value) (b:Nat) (w:World) (hd:Dev w b D v) (hm:D.may=false) :
  Calls Tryz.prog 135 #[.pointer (some ⟨b,0,none⟩)] w fun e w'=>e=.returned (.iface 32 (.int .i64 14))∧w'=w:=by
 go_enter Tryz.func135,Tryz.ntmps135
 go_wp2_with fail
 refine(aW _ _).mono ?_;rintro e w' ⟨rfl,rfl⟩;go_wp2_with fail
 refine(iQ D v b _ hd).mono ?_;rintro e w1 ⟨rfl,h1,_⟩;obtain rfl:=h1 hm;rw[hm];go_wp2_with fail
 go_ret;exact⟨rfl,rfl⟩
def Dv.synced (D:Dv):Dv:=(D.iA 8).settled (fun _=>true)
set_option maxRecDepth 100000 in
set_option maxHeartbeats 2000000 in
theorem OD (D:Dv) (v:Value) (b:Nat) (w:World) (hd:Dev w b D v) (hm:D.may=true) :
  Calls Tryz.prog 135 #[.pointer (some ⟨b,0,none⟩)] w fun e w'=>e=.returned .nilIface∧Dev w' b D.au.synced (.slice none 0 0)∧Fr b none w w':=by
 have HD:=(show Hid _ from hd)
 clear hd;go_enter Tryz.func135,Tryz.ntmps135
 go_wp2_with fail
 refine(aW _ _).mono ?_;rintro e w' ⟨rfl,rfl⟩;go_wp2_with fail
 refine(iQ D v b _ HD.out).mono ?_;rintro e w1 ⟨rfl,_,h1⟩;obtain⟨hd1,hf1⟩:=h1 hm;rw[hm];have HD1:=(show Hid _ from hd1)
 have YQ:=(show Hid _ from hf1)
 clear h1 hd1 hf1;go_wp2_with fail
 generalize hE:D.au=E at *;have HE:=(show Hid (D.au=E) from hE)
 clear hE;go_loopw [10] (fun i wr=>∃k:Nat,k≤8∧i=.int .i64 k∧Dev wr b (E.iA k) v∧Fr b none w' wr) (fun i _=>8-(intOf i).toNat)
 case atStart=>
  refine⟨0,by omega,rfl,?_,YQ.out⟩;have e:E.iA 0=E:=by
   unfold Dv.iA;cases E
   simp
  rw[e];exact HD1.out
 obtain⟨k,hk,rfl,hdk,Zq⟩:=hrel;have HDK:=(show Hid _ from hdk)
 have Fw:=(show Hid _ from Zq)
 clear Zq;by_cases hlt:k<8
 ·have hlt2:(k:Int)<8:=by omega
  have hdd:=hdk.since (Since.refl wr).drew;have c1:=hdd.bL.cell (k*2050+2048) (by omega);rw[dZ _ v k hlt] at c1;have c2:=hdd.bL.cell (k*2050+2049) (by omega);have f2:=hdd.bL.frozen (k*2050+2049) (by omega);rw[pM _ v k hlt] at c2;have e1:(E.iA k).cnt k=E.cnt k:=rfl;rw[e1] at c1;clear e1 hdk hdd;go_wp2_with fail
  go_region
  go_wp2_with fail
  go_roundw
  case rel=>exact⟨k+1,by omega,by go_num,Gl E v b k _ (HDK.out.since (Since.refl wr).drew) hlt,(Fw.out.trans' (Fr.ah (Since.refl wr).drew)).trans' (Fr.setCell _ _ _ _ _)⟩
  case measure=>simp[intOf];omega
 have hke:k=8:=by omega
 subst hke;clear hdk;go_wp2_with fail
 refine(wW (E.iA 8) v b 186 #[] (fun _=>true) _ HDK.out rf (fun i W _=>zB i W)).mono ?_;rintro e w2 ⟨rfl,hd2,hf2⟩;go_wp2_with fail
 go_ret;exact⟨rfl,by rw[HE.out];exact hd2,Fw.out.trans' hf2⟩
end Go.Proofs.YtmhcfaaggkidjaaGreatDoor
end
section
namespace Go.Proofs.YtmhcfaaggkidjaaGreatDoor
open Go.RowKit
def dC (c s:Nat) (keep:Int):Nat:=s+min keep.toNat (c-s)
theorem Gn (n j:Nat) (hj:j<n*128):(Builtin.zeroCells Tryz.zeroCells95 n)[j]?=some (bv 0):=by
 unfold Builtin.zeroCells;have hsz:=Tryz.zeroCells95_size;rw[Array.getElem?_map,hsz,Array.getElem?_eq_getElem (by simpa using hj)];have h:=yT (j % 128) (by omega);simp only[Array.getElem_range,Option.map_some];rw[getElem!_def,h]
theorem Du (n:Nat):(Builtin.zeroCells Tryz.zeroCells95 n).toList=aa (n*128) (fun _=>bv 0):=by
 refine qO ?_ (fun j hj=>by rw[Array.getElem?_toList];exact Gn n j hj);unfold Builtin.zeroCells;simp[Tryz.zeroCells95_size]
theorem ji (w:World) (ty b o m cap n:Nat) (f:Nat→Value) (hc:ak w b n f) (hm:o+m*128≤n) :
  (Builtin.clear_ #[190] ty #[.slice (some ⟨b,o,none⟩) m cap]).run Tryz.prog w=.ok (.tuple #[]) (w.setCells b o (aa (m*128) (fun _=>bv 0))):=by
 cases m with
 | zero=>
  simp[Builtin.clear_,run_underlying Tryz.underlying190,aa,World.setCells]
 | succ m=>
  have hst:=hc.store Tryz.prog o ((m+1)*128) hm (fun _=>bv 0) (fun _ _=>rfl);have hz:=Tryz.zeroValue95 w;have hl:=Du (m+1);simp[Builtin.clear_,run_underlying Tryz.underlying190,hz,Value.cells,hl,hst]
def bG (f:Nat→Value) (o k:Nat):Nat→Value:=dF (aZ (aZ f (o+2048) (.int .i64 k)) (o+2049) (.int .i64 k)) (o+k*128) ((16-k)*128) (fun _=>bv 0)
end Go.Proofs.YtmhcfaaggkidjaaGreatDoor
end
section
namespace Go.Proofs.YtmhcfaaggkidjaaGreatDoor
open Go.RowKit
set_option maxRecDepth 100000 in
set_option maxHeartbeats 1000000 in
theorem Gp (b o c s n:Nat) (keep:Int) (f:Nat→Value) (w:World) (hc:ak w b n f) (hn:o+2050≤n) (hcnt:f (o+2048)=.int .i64 c) (yX:f (o+2049)=.int .i64 s) (hc16:c≤16) (hs:s≤c) (h0:keep<0) :
  Calls Tryz.prog 81 #[.pointer (some ⟨b,o,none⟩),.int .i64 keep] w fun e w'=>e=.returned (.tuple #[])∧ak w' b n (bG f o (dC c s keep))∧Fr b none w w':=by
 have hcd:=hc.since (Since.refl w).drew;have c1:=hcd.cell (o+2048) (by omega);have f1:=hcd.frozen (o+2048) (by omega);rw[hcnt] at c1;have c2:=hcd.cell (o+2049) (by omega);rw[yX] at c2;have g0:(0:Int)≤c-s:=by omega
 have g1:¬(c:Int)-s<0:=by omega
 have ek:dC c s keep=s:=by unfold dC;omega
 rw[ek];clear hcd;go_enter Tryz.func81,Tryz.ntmps81
 go_wp2_with fail
 go_region
 have vO:ak (w.setCell ⟨b,o+2048,none⟩ (.int .i64 (s:Nat))).drew b n (aZ f (o+2048) (.int .i64 (s:Nat))):=(hc.set (o+2048) (by omega) _).since (Since.refl _).drew;have hF1:Fr b none w (w.setCell ⟨b,o+2048,none⟩ (.int .i64 (s:Nat))).drew:=(Fr.setCell _ _ _ _ _).trans' (Fr.ah (Since.refl _).drew);have HC:=(show Hid _ from hc)
 clear hc c1 f1 c2;generalize (w.setCell ⟨b,o+2048,none⟩ (.int .i64 ((s:Nat):Int))).drew=w1 at *;have q1:=vO.cell (o+2048) (by omega);have q2:=vO.cell (o+2049) (by omega);have p2:=vO.frozen (o+2049) (by omega);rw[show aZ f (o+2048) (.int .i64 ((s:Nat):Int)) (o+2048)=.int .i64 ((s:Nat):Int) by unfold aZ;rw[if_pos rfl]] at q1;have hC2:=vO.set (o+2049) (by omega) (.int .i64 ((s:Nat):Int));have hF2:=hF1.trans' (Fr.setCell b none (o+2049) w1 (.int .i64 ((s:Nat):Int)));have qU:=(show Hid _ from vO)
 clear vO hF1;generalize hq:s=q at *;have Zt:q≤16:=by omega
 have HQ:=(show Hid _ from hq)
 clear hq;go_wp2_with fail
 generalize w1.setCell ⟨b,o+2049,none⟩ (.int .i64 (q:Int))=w2 at *;clear q1 q2 p2;have fT:=hC2.since (Since.refl _).drew;have q3:=fT.cell (o+2048) (by omega);rw[show aZ (aZ f (o+2048) (.int .i64 (q:Int))) (o+2049) (.int .i64 (q:Int)) (o+2048)=.int .i64 (q:Int) by unfold aZ;rw[if_neg (by omega),if_pos rfl]] at q3;have q4:(q:Int)≤16:=by omega
 have jZ:=(show Hid _ from fT)
 have oN:=(show Hid _ from hF2)
 by_cases h16:q=16
 ·have hcl:=ji w2.drew 0 b o 0 0 n _ fT (by omega);clear fT hC2 hF2 HC qU hcnt yX ek g0 g1 hs h0 hc16
  (try clear h1)
  (try clear g2)
  have Tx:=(show Hid _ from HQ.out.trans h16)
  clear HQ;subst h16;go_region
  go_wp2_with fail
  go_end0
  exact⟨rfl,by rw[Tx.out];exact(jZ.out.setRow _ _ (by omega) _).congr (fun j hj=>by unfold bG dF;rw[if_neg (by omega),if_neg (by omega)]),(oN.out.trans' (Fr.ah (Since.refl _).drew)).trans' (Fr.setCells _ _ _ _ _)⟩
 have h17:¬16=q:=by omega
 have hcl:=ji w2.drew 0 b (o+q*128) (16-q) (16-q) n _ fT (by omega);clear fT hC2 hF2 HC qU hcnt yX ek g0 g1 hs h0 hc16
 (try clear h1)
 (try clear g2)
 have HH:=(show Hid _ from h16)
 go_region
 go_wp2_with fail
 go_end0
 exact⟨rfl,by rw[HQ.out];exact jZ.out.setRow _ _ (by omega) _,(oN.out.trans' (Fr.ah (Since.refl _).drew)).trans' (Fr.setCells _ _ _ _ _)⟩
set_option maxRecDepth 100000 in
set_option maxHeartbeats 1000000 in
theorem Gq (b o c s n:Nat) (keep:Int) (f:Nat→Value) (w:World) (hc:ak w b n f) (hn:o+2050≤n) (hcnt:f (o+2048)=.int .i64 c) (yX:f (o+2049)=.int .i64 s) (hc16:c≤16) (hs:s≤c) (h0:0≤keep) (h1:keep≤c-s) :
  Calls Tryz.prog 81 #[.pointer (some ⟨b,o,none⟩),.int .i64 keep] w fun e w'=>e=.returned (.tuple #[])∧ak w' b n (bG f o (dC c s keep))∧Fr b none w w':=by
 have hcd:=hc.since (Since.refl w).drew;have c1:=hcd.cell (o+2048) (by omega);have f1:=hcd.frozen (o+2048) (by omega);rw[hcnt] at c1;have c2:=hcd.cell (o+2049) (by omega);rw[yX] at c2;obtain⟨m,rfl⟩:=Int.eq_ofNat_of_zero_le h0;have g0:¬(m:Int)<0:=by omega
 have g1:(m:Int)≤(c:Int)-s:=by omega
 have ek:dC c s m=s+m:=by unfold dC;omega
 rw[ek];clear hcd;go_enter Tryz.func81,Tryz.ntmps81
 go_wp2_with fail
 go_region
 rw[show ((s:Int)+(m:Int))=((s+m:Nat):Int) by omega];have vO:ak (w.setCell ⟨b,o+2048,none⟩ (.int .i64 ((s+m):Nat))).drew b n (aZ f (o+2048) (.int .i64 ((s+m):Nat))):=(hc.set (o+2048) (by omega) _).since (Since.refl _).drew;have hF1:Fr b none w (w.setCell ⟨b,o+2048,none⟩ (.int .i64 ((s+m):Nat))).drew:=(Fr.setCell _ _ _ _ _).trans' (Fr.ah (Since.refl _).drew);have HC:=(show Hid _ from hc)
 clear hc c1 f1 c2;generalize (w.setCell ⟨b,o+2048,none⟩ (.int .i64 (((s+m):Nat):Int))).drew=w1 at *;have q1:=vO.cell (o+2048) (by omega);have q2:=vO.cell (o+2049) (by omega);have p2:=vO.frozen (o+2049) (by omega);rw[show aZ f (o+2048) (.int .i64 (((s+m):Nat):Int)) (o+2048)=.int .i64 (((s+m):Nat):Int) by unfold aZ;rw[if_pos rfl]] at q1;have hC2:=vO.set (o+2049) (by omega) (.int .i64 (((s+m):Nat):Int));have hF2:=hF1.trans' (Fr.setCell b none (o+2049) w1 (.int .i64 (((s+m):Nat):Int)));have qU:=(show Hid _ from vO)
 clear vO hF1;generalize hq:(s+m)=q at *;have Zt:q≤16:=by omega
 have HQ:=(show Hid _ from hq)
 clear hq;go_wp2_with fail
 generalize w1.setCell ⟨b,o+2049,none⟩ (.int .i64 (q:Int))=w2 at *;clear q1 q2 p2;have fT:=hC2.since (Since.refl _).drew;have q3:=fT.cell (o+2048) (by omega);rw[show aZ (aZ f (o+2048) (.int .i64 (q:Int))) (o+2049) (.int .i64 (q:Int)) (o+2048)=.int .i64 (q:Int) by unfold aZ;rw[if_neg (by omega),if_pos rfl]] at q3;have q4:(q:Int)≤16:=by omega
 have jZ:=(show Hid _ from fT)
 have oN:=(show Hid _ from hF2)
 by_cases h16:q=16
 ·have hcl:=ji w2.drew 0 b o 0 0 n _ fT (by omega);clear fT hC2 hF2 HC qU hcnt yX ek g0 g1 hs h0 hc16
  (try clear h1)
  (try clear g2)
  have Tx:=(show Hid _ from HQ.out.trans h16)
  clear HQ;subst h16;go_region
  go_wp2_with fail
  go_end0
  exact⟨rfl,by rw[Tx.out];exact(jZ.out.setRow _ _ (by omega) _).congr (fun j hj=>by unfold bG dF;rw[if_neg (by omega),if_neg (by omega)]),(oN.out.trans' (Fr.ah (Since.refl _).drew)).trans' (Fr.setCells _ _ _ _ _)⟩
 have h17:¬16=q:=by omega
 have hcl:=ji w2.drew 0 b (o+q*128) (16-q) (16-q) n _ fT (by omega);clear fT hC2 hF2 HC qU hcnt yX ek g0 g1 hs h0 hc16
 (try clear h1)
 (try clear g2)
 have HH:=(show Hid _ from h16)
 go_region
 go_wp2_with fail
 go_end0
 exact⟨rfl,by rw[HQ.out];exact jZ.out.setRow _ _ (by omega) _,(oN.out.trans' (Fr.ah (Since.refl _).drew)).trans' (Fr.setCells _ _ _ _ _)⟩
set_option maxRecDepth 100000 in
set_option maxHeartbeats 1000000 in
theorem Gs (b o c s n:Nat) (keep:Int) (f:Nat→Value) (w:World) (hc:ak w b n f) (hn:o+2050≤n) (hcnt:f (o+2048)=.int .i64 c) (yX:f (o+2049)=.int .i64 s) (hc16:c≤16) (hs:s≤c) (h0:0≤keep) (h1:(c:Int)-s<keep) :
  Calls Tryz.prog 81 #[.pointer (some ⟨b,o,none⟩),.int .i64 keep] w fun e w'=>e=.returned (.tuple #[])∧ak w' b n (bG f o (dC c s keep))∧Fr b none w w':=by
 have hcd:=hc.since (Since.refl w).drew;have c1:=hcd.cell (o+2048) (by omega);have f1:=hcd.frozen (o+2048) (by omega);rw[hcnt] at c1;have c2:=hcd.cell (o+2049) (by omega);rw[yX] at c2;have g0:¬keep<0:=by omega
 have g1:(c:Int)-s<keep:=by omega
 have g2:(s:Int)+(c-s)=c:=by omega
 have ek:dC c s keep=c:=by unfold dC;omega
 rw[ek];clear hcd;go_enter Tryz.func81,Tryz.ntmps81
 go_wp2_with fail
 go_region
 have vO:ak (w.setCell ⟨b,o+2048,none⟩ (.int .i64 (c:Nat))).drew b n (aZ f (o+2048) (.int .i64 (c:Nat))):=(hc.set (o+2048) (by omega) _).since (Since.refl _).drew;have hF1:Fr b none w (w.setCell ⟨b,o+2048,none⟩ (.int .i64 (c:Nat))).drew:=(Fr.setCell _ _ _ _ _).trans' (Fr.ah (Since.refl _).drew);have HC:=(show Hid _ from hc)
 clear hc c1 f1 c2;generalize (w.setCell ⟨b,o+2048,none⟩ (.int .i64 ((c:Nat):Int))).drew=w1 at *;have q1:=vO.cell (o+2048) (by omega);have q2:=vO.cell (o+2049) (by omega);have p2:=vO.frozen (o+2049) (by omega);rw[show aZ f (o+2048) (.int .i64 ((c:Nat):Int)) (o+2048)=.int .i64 ((c:Nat):Int) by unfold aZ;rw[if_pos rfl]] at q1;have hC2:=vO.set (o+2049) (by omega) (.int .i64 ((c:Nat):Int));have hF2:=hF1.trans' (Fr.setCell b none (o+2049) w1 (.int .i64 ((c:Nat):Int)));have qU:=(show Hid _ from vO)
 clear vO hF1;generalize hq:c=q at *;have Zt:q≤16:=by omega
 have HQ:=(show Hid _ from hq)
 clear hq;go_wp2_with fail
 generalize w1.setCell ⟨b,o+2049,none⟩ (.int .i64 (q:Int))=w2 at *;clear q1 q2 p2;have fT:=hC2.since (Since.refl _).drew;have q3:=fT.cell (o+2048) (by omega);rw[show aZ (aZ f (o+2048) (.int .i64 (q:Int))) (o+2049) (.int .i64 (q:Int)) (o+2048)=.int .i64 (q:Int) by unfold aZ;rw[if_neg (by omega),if_pos rfl]] at q3;have q4:(q:Int)≤16:=by omega
 have jZ:=(show Hid _ from fT)
 have oN:=(show Hid _ from hF2)
 by_cases h16:q=16
 ·have hcl:=ji w2.drew 0 b o 0 0 n _ fT (by omega);clear fT hC2 hF2 HC qU hcnt yX ek g0 g1 hs h0 hc16
  (try clear h1)
  (try clear g2)
  have Tx:=(show Hid _ from HQ.out.trans h16)
  clear HQ;subst h16;go_region
  go_wp2_with fail
  go_end0
  exact⟨rfl,by rw[Tx.out];exact(jZ.out.setRow _ _ (by omega) _).congr (fun j hj=>by unfold bG dF;rw[if_neg (by omega),if_neg (by omega)]),(oN.out.trans' (Fr.ah (Since.refl _).drew)).trans' (Fr.setCells _ _ _ _ _)⟩
 have h17:¬16=q:=by omega
 have hcl:=ji w2.drew 0 b (o+q*128) (16-q) (16-q) n _ fT (by omega);clear fT hC2 hF2 HC qU hcnt yX ek g0 g1 hs h0 hc16
 (try clear h1)
 (try clear g2)
 have HH:=(show Hid _ from h16)
 go_region
 go_wp2_with fail
 go_end0
 exact⟨rfl,by rw[HQ.out];exact jZ.out.setRow _ _ (by omega) _,(oN.out.trans' (Fr.ah (Since.refl _).drew)).trans' (Fr.setCells _ _ _ _ _)⟩
end Go.Proofs.YtmhcfaaggkidjaaGreatDoor
end
section
namespace Go.Proofs.YtmhcfaaggkidjaaGreatDoor
open Go.RowKit
def Sl (w:World) (b:Nat) (v:Value) (n:Nat) (f:Nat→Value):Prop:=
 ∃a c,v=.slice a n c∧(0<n→∃k o,a=some ⟨k,o,none⟩∧k≠b∧∀j,j<n→w.cell? ⟨k,o+j,none⟩=some (f j))
theorem Sl.fr {w w':World} {b:Nat} {v:Value} {n:Nat} {f:Nat→Value} (h:Sl w b v n f) (hf:Fr b none w w'):Sl w' b v n f:=by
 obtain⟨a,c,hv,h⟩:=h;refine⟨a,c,hv,fun hn=>?_⟩;obtain⟨k,o,ha,hk,hc⟩:=h hn;exact⟨k,o,ha,hk,fun j hj=>(hf.cell (p:=⟨k,o+j,none⟩) (World.block_lt_of_cell? w _ (hc j hj)) hk (by simp)).trans (hc j hj)⟩
def wX (n:Nat) (sl:Nat→Bool):Nat→Bool:=fun i=>decide (i<n)&&sl i
theorem Gt (b B n i:Nat) (v:Value) (sl:Nat→Bool) (w:World) (hB:w.cell? ⟨B,0,none⟩=some v) (hs:Sl w b v n (fun j=>.bool (sl j))) :
  Calls Tryz.prog 83 #[.int .i64 i,.pointer (some ⟨B,0,none⟩)] w fun e w'=>e=.returned (.bool (wX n sl i))∧w'=w:=by
 obtain⟨a,c,rfl,hs⟩:=hs;unfold wX;by_cases h:i<n
 ·obtain⟨k,o,rfl,_,hc⟩:=hs (by omega);have c1:=hc i h;have h2:(i:Int)<n:=by omega
  rw[decide_eq_true h,Bool.true_and];clear hc hs;go_enter Tryz.func83,Tryz.ntmps83
  go_wp2_with fail
  go_ret;exact⟨rfl,rfl⟩
 have h2:¬(i:Int)<n:=by omega
 rw[decide_eq_false h,Bool.false_and];clear hs;go_enter Tryz.func83,Tryz.ntmps83
 go_wp2_with fail
 go_ret;exact⟨rfl,rfl⟩
theorem yY:∀args w,(callFunc 83 args).run Tryz.prog w=.ok (.enter 83 args) w:=enters_of Tryz.func83 (by kernel_rfl) rfl
def Dv.bZ (D:Dv) (ks:Nat→Int) (k:Nat):Dv:=
 { D with blk:=fun z j i=>if z<k∧dC (D.cnt z) (D.sure z) (ks z)≤j then 0 else D.blk z j i,cnt:=fun z=>if z<k then dC (D.cnt z) (D.sure z) (ks z) else D.cnt z,sure:=fun z=>if z<k then dC (D.cnt z) (D.sure z) (ks z) else D.sure z }
theorem wY (c s:Nat) (x:Int) (h:s≤c):dC c s x≤c:=by unfold dC;omega
theorem KO (D:Dv) (ks:Nat→Int) (k:Nat) (h:D.ok):(D.bZ ks k).ok where
 cnt z hz:=by
  show (if z<k then _ else _)≤16
  have:=h.cnt z hz;split
  ·have:=wY (D.cnt z) (D.sure z) (ks z) (h.sure z hz);omega
  exact this
 sure z hz:=by
  show (if z<k then _ else _)≤(if z<k then _ else _)
  split
  ·exact Nat.le_refl _
  exact h.sure z hz
 zero z j i hz hj hj2 hi:=by
  show (if z<k∧_ then _ else _)=_
  have hj':(if z<k then dC (D.cnt z) (D.sure z) (ks z) else D.cnt z)≤j:=hj;by_cases e:z<k
  ·rw[if_pos e] at hj';rw[if_pos ⟨e,hj'⟩]
  rw[if_neg e] at hj';rw[if_neg (fun h=>e h.1)];exact h.zero z j i hz hj' hj2 hi
 left:=h.left
 ws:=h.ws
 few:=h.few
set_option maxRecDepth 100000 in
theorem Bj (D:Dv) (ks:Nat→Int) (v:Value) (k:Nat) (hk:k<8) (j:Nat) (NT:dC (D.cnt k) (D.sure k) (ks k)≤16) :
  bG (cu (D.bZ ks k) v) (k*2050) (dC (D.cnt k) (D.sure k) (ks k)) j=cu (D.bZ ks (k+1)) v j:=by
 refine jL (D.bZ ks k) (D.bZ ks (k+1)) v k hk _ (fun j hj=>?_) (fun j hj=>?_) (fun z' h=>?_) (fun z' h=>?_) (fun z' h=>?_) rfl rfl rfl j
 ·have e1:(D.bZ ks (k+1)).cnt k=dC (D.cnt k) (D.sure k) (ks k):=by show (if _ then _ else _)=_;rw[if_pos (by omega)]
  have e2:(D.bZ ks (k+1)).sure k=dC (D.cnt k) (D.sure k) (ks k):=by show (if _ then _ else _)=_;rw[if_pos (by omega)]
  have e3:(D.bZ ks (k+1)).blk k=fun j i=>if dC (D.cnt k) (D.sure k) (ks k)≤j then 0 else D.blk k j i:=by
   funext j i
   show (if k<k+1∧_ then _ else _)=_
   by_cases h:dC (D.cnt k) (D.sure k) (ks k)≤j
   ·rw[if_pos ⟨by omega,h⟩,if_pos h]
   rw[if_neg (fun h'=>h h'.2),if_neg h]
  rw[e1,e2,e3];generalize dC (D.cnt k) (D.sure k) (ks k)=q at *;unfold bG dF aZ;by_cases h0:q*128≤j∧j<2048
  ·rw[if_pos (by omega)];unfold aD;dsimp only;rw[if_pos (by omega),if_pos (by omega)]
  rw[if_neg (by omega)];by_cases h1:j=2049
  ·rw[if_pos (by omega)];unfold aD;rw[if_neg (by omega),if_neg (by omega)]
  rw[if_neg (by omega)];by_cases h2:j=2048
  ·rw[if_pos (by omega)];unfold aD;rw[if_neg (by omega),if_pos h2]
  rw[if_neg (by omega),lK _ v k j hk hj];unfold aD;dsimp only;rw[if_pos (by omega),if_pos (by omega),if_neg (by omega)]
  congr 1
  show (if k<k∧_ then _ else _)=_
  rw[if_neg (by omega)]
 ·unfold bG dF aZ;rw[if_neg (by omega),if_neg (by omega),if_neg (by omega)]
 ·funext j i
  show (if z'<k+1∧_ then _ else _)=(if z'<k∧_ then _ else _)
  have:(z'<k+1)=(z'<k):=by apply propext;omega
  simp only[this]
 ·show (if z'<k+1 then _ else _)=(if z'<k then _ else _)
  have:(z'<k+1)=(z'<k):=by apply propext;omega
  simp only[this]
 show (if z'<k+1 then _ else _)=(if z'<k then _ else _)
 have:(z'<k+1)=(z'<k):=by apply propext;omega
 simp only[this]
theorem wZ (D:Dv) (ks:Nat→Int) (v:Value) (b k:Nat) (w:World) (hd:Dev w b (D.bZ ks k) v) (hD:D.ok) (hk:k<8) :
  Calls Tryz.prog 81 #[.pointer (some ⟨b,k*2050,none⟩),.int .i64 (ks k)] w fun e w'=>e=.returned (.tuple #[])∧Dev w' b (D.bZ ks (k+1)) v∧Fr b none w w':=by
 have e1:(D.bZ ks k).cnt k=D.cnt k:=by show (if _ then _ else _)=_;rw[if_neg (by omega)]
 have e2:(D.bZ ks k).sure k=D.sure k:=by show (if _ then _ else _)=_;rw[if_neg (by omega)]
 have hc:=hD.cnt k hk;have hs:=hD.sure k hk;have hcnt:=dZ (D.bZ ks k) v k hk;have yX:=pM (D.bZ ks k) v k hk;rw[e1] at hcnt;rw[e2] at yX;have NT:dC (D.cnt k) (D.sure k) (ks k)≤16:=by have:=wY (D.cnt k) (D.sure k) (ks k) hs;omega
 have fin:∀w',ak w' b 17403 (bG (cu (D.bZ ks k) v) (k*2050) (dC (D.cnt k) (D.sure k) (ks k)))→Fr b none w w'→Dev w' b (D.bZ ks (k+1)) v:=fun w' h1 h2=>
  hd.turn (h1.congr (fun j _=>Bj D ks v k hk j NT)) h2 rfl (KO D ks (k+1) hD)
 by_cases h0:ks k<0
 ·refine(Gp b (k*2050) (D.cnt k) (D.sure k) 17403 (ks k) _ w hd.bL (by omega) hcnt yX hc hs h0).mono ?_;rintro e w' ⟨rfl,h1,h2⟩;exact⟨rfl,fin w' h1 h2,h2⟩
 by_cases h1:ks k≤(D.cnt k:Int)-D.sure k
 ·refine(Gq b (k*2050) (D.cnt k) (D.sure k) 17403 (ks k) _ w hd.bL (by omega) hcnt yX hc hs (by omega) h1).mono ?_;rintro e w' ⟨rfl,h1,h2⟩;exact⟨rfl,fin w' h1 h2,h2⟩
 refine(Gs b (k*2050) (D.cnt k) (D.sure k) 17403 (ks k) _ w hd.bL (by omega) hcnt yX hc hs (by omega) (by omega)).mono ?_;rintro e w' ⟨rfl,h1,h2⟩;exact⟨rfl,fin w' h1 h2,h2⟩
def fV (n:Nat) (ks:Nat→Int):Nat→Int:=fun z=>if z<n then ks z else 0
def Dv.bG (D:Dv) (nk:Nat) (ks:Nat→Int) (ns:Nat) (sl:Nat→Bool):Dv:=((D.bZ (fV nk ks) 8).settled (wX ns sl)).tF (-1)
set_option maxRecDepth 100000 in
set_option maxHeartbeats 2000000 in
theorem KP (D:Dv) (v:Value) (b nk ns:Nat) (kv sv:Value) (ks:Nat→Int) (sl:Nat→Bool) (w:World) (hd:Dev w b D v)
  (hk:Sl w b kv nk (fun j=>.int .i64 (ks j))) (hs:Sl w b sv ns (fun j=>.bool (sl j))) :
  Calls Tryz.prog 26 #[.pointer (some ⟨b,0,none⟩),kv,sv] w fun e w'=>e=.returned (.tuple #[])∧Dev w' b (D.bG nk ks ns sl) (.slice none 0 0)∧Fr b none w w':=by
 obtain⟨a1,c1,rfl,hk1⟩:=hk;obtain⟨a2,c2,rfl,hs1⟩:=hs;have hbl:=hd.lt;have HD:=(show Hid _ from hd)
 have HK:=(show Hid (Sl w b (.slice a1 nk c1) nk (fun j=>.int .i64 (ks j))) from ⟨a1,c1,rfl,hk1⟩)
 have HS:=(show Hid (Sl w b (.slice a2 ns c2) ns (fun j=>.bool (sl j))) from ⟨a2,c2,rfl,hs1⟩)
 clear hd hk1 hs1;go_enter Tryz.func26,Tryz.ntmps26
 go_wp2_with fail
 refine(aW _ _).mono ?_;rintro e w' ⟨rfl,rfl⟩;have hd0:=HD.out.since ((Since.refl w).alloc (.cells #[.slice a2 ns c2] 130));have hb0:(w.alloc (.cells #[.slice a2 ns c2] 130)).cell? ⟨w.heap.size,0,none⟩=some (.slice a2 ns c2):=by simp
 have hf0:Fr b none w (w.alloc (.cells #[.slice a2 ns c2] 130)):=Fr.ah ((Since.refl w).alloc _);have hz0:(w.alloc (.cells #[.slice a2 ns c2] 130)).heap.size=w.heap.size+1:=by simp
 generalize w.alloc (.cells #[.slice a2 ns c2] 130)=w0 at *;have HD0:=(show Hid _ from hd0)
 have HB0:=(show Hid _ from hb0)
 have Tz:=(show Hid _ from hf0)
 clear hd0 hb0 hf0;go_wp2_with fail
 go_loopw [10] (fun i wr=>∃k:Nat,k≤8∧i=.int .i64 k∧Dev wr b (D.bZ (fV nk ks) k) v∧Fr b none w0 wr) (fun i _=>8-(intOf i).toNat)
 case atStart=>
  refine⟨0,by omega,rfl,?_,Fr.refl _ _ _⟩;have e:D.bZ (fV nk ks) 0=D:=by
   unfold Dv.bZ;cases D
   simp
  rw[e];exact HD0.out
 obtain⟨k,hk,rfl,hdk,Zq⟩:=hrel;have HDK:=(show Hid _ from hdk)
 have Fw:=(show Hid _ from Zq)
 clear Zq hdk;by_cases hlt:k<8
 ·have hlt2:(k:Int)<8:=by omega
  by_cases hkn:k<nk
  ·have hkn2:(k:Int)<nk:=by omega
   obtain⟨a3,c3,he,hk3⟩:=(HK.out.fr Tz.out).fr Fw.out;injection he with he1 he2 YP
   subst he1;obtain⟨kb,ko,rfl,_,hkc⟩:=hk3 (by omega);have q1:=hkc k hkn;have hka:fV nk ks k=ks k:=by unfold fV;rw[if_pos hkn]
   have HKA:=(show Hid _ from hka)
   clear hkc hk3 hka YP;go_wp2_with fail
   rw[←HKA.out];refine(wZ D (fV nk ks) v b k _ HDK.out HD.out.ok hlt).mono ?_;rintro e w2 ⟨rfl,hd2,hf2⟩;have HD2:=(show Hid _ from hd2)
   clear hd2;go_wp2_with fail
   go_roundw
   case rel=>exact⟨k+1,by omega,by go_num,HD2.out,Fw.out.trans' hf2⟩
   case measure=>simp[intOf];omega
  have hkn2:¬(k:Int)<nk:=by omega
  have hka:fV nk ks k=0:=by unfold fV;rw[if_neg hkn]
  have HKA:=(show Hid _ from hka)
  clear hka;go_wp2_with fail
  have hcr:=wZ D (fV nk ks) v b k wr HDK.out HD.out.ok hlt;rw[HKA.out] at hcr;refine hcr.mono ?_;clear hcr;rintro e w2 ⟨rfl,hd2,hf2⟩;have HD2:=(show Hid _ from hd2)
  clear hd2;go_wp2_with fail
  go_roundw
  case rel=>exact⟨k+1,by omega,by go_num,HD2.out,Fw.out.trans' hf2⟩
  case measure=>simp[intOf];omega
 have hke:k=8:=by omega
 subst hke;go_wp2_with fail
 refine(wW (D.bZ (fV nk ks) 8) v b 83 #[.pointer (some ⟨w.heap.size,0,none⟩)] (wX ns sl) _ HDK.out yY (fun i W hW=>Gt b w.heap.size ns i (.slice a2 ns c2) sl W ?_ (((HS.out.fr Tz.out).fr Fw.out).fr hW))).mono ?_
 ·have hf:=Fw.out.trans' hW;rw[hf.cell (p:=⟨w.heap.size,0,none⟩) (by show w.heap.size<_;omega) (by show w.heap.size≠b;omega) (by simp)];exact HB0.out
 rintro e w2 ⟨rfl,hd2,hf2⟩;have HD2:=(show Hid _ from hd2)
 clear hd2;go_wp2_with fail
 refine(wU _ _ b (-1) _ HD2.out (by omega)).mono ?_;rintro e w3 ⟨rfl,hd3,hf3⟩;have HD3:=(show Hid _ from hd3)
 clear hd3;go_wp2_with fail
 go_end0
 exact⟨rfl,HD3.out,((Tz.out.trans' Fw.out).trans' hf2).trans' hf3⟩
end Go.Proofs.YtmhcfaaggkidjaaGreatDoor
end
section
namespace Go.Proofs.YtmhcfaaggkidjaaGreatDoor
open Go.RowKit
theorem Dx:(Tryz.prog.info? 9).map (fun i=>(i.zero,i.size,i.bytes))=some (some (.string ⟨#[]⟩),1,16):=by kernel_rfl
def fG (blk:Nat→Nat→UInt8) (n:Nat):List Value:=(List.range n).map fun k=>.string (txt 128 (blk k))
theorem KQ (blk:Nat→Nat→UInt8) (n:Nat):fG blk (n+1)=fG blk n++[.string (txt 128 (blk n))]:=by
 unfold fG;rw[List.range_succ,List.map_append]
 rfl
set_option maxRecDepth 100000 in
set_option maxHeartbeats 1000000 in
theorem xe (D:Dv) (v:Value) (b z:Nat) (w:World) (hd:Dev w b D v) (hz:z<8) :
  Calls Tryz.prog 155 #[.pointer (some ⟨b,z*2050,none⟩)] w fun e w'=>∃x,e=.returned x∧w'.ownsRow w.heap.size 9 1 x (D.sure z) (fG (D.blk z) (D.sure z))∧Since w w':=by
 have c1:=hd.bL.cell (z*2050+2049) (by omega);rw[pM D v z hz] at c1;have a2s:D.sure z≤16:=Nat.le_trans (hd.ok.sure z hz) (hd.ok.cnt z hz);have HD:=(show Hid _ from hd)
 obtain⟨i0,hi,hz0,hz1,hz2⟩:=info_parts' Dx;have HI:=(show Hid (Tryz.prog.info? 9=some i0∧i0.zero=some (.string ⟨#[]⟩)∧i0.size=1∧i0.bytes=16) from ⟨hi,hz0,hz1,hz2⟩)
 clear hd hi hz0 hz1 hz2;go_enter Tryz.func155,Tryz.ntmps155
 go_wp2_with fail
 go_loopw [9,3] (fun i x wr=>∃k:Nat,k≤D.sure z∧i=.int .i64 k∧wr.ownsRow w.heap.size 9 1 x k (fG (D.blk z) k)∧Since w wr) (fun i _ _=>D.sure z-(intOf i).toNat)
 case atStart=>exact⟨0,by omega,rfl,World.ownsRow_nil _ _ _ _,Since.refl _⟩
 obtain⟨k,hk,rfl,hown,hS⟩:=hrel;have HO:Hid (wr.ownsRow w.heap.size 9 1 u3 k (fG (D.blk z) k)):=hown;have HS:Hid (Since w wr):=hS;by_cases hlt:k<D.sure z
 ·have hlt2:(k:Int)<D.sure z:=by omega
  have NT:(k:Int)<16:=by omega
  have hcv:=dH wr b (z*2050+k*128) 128 128 (D.blk z k) (fun i hi=>by rw[(HD.out.since hS).bL.cell _ (by omega),zA D v z k i hz (by omega) hi]);clear hown hS;go_wp2_with (at_builtin;refine wpList_append_own _ (by rfl) _ _ _ (by rfl) w.heap.size 9 i0 _ 1 16 Tryz.underlying28 HI.out.1 HI.out.2.1 HI.out.2.2.1 HI.out.2.2.2 (by rfl) (by decide) _ k (fG (D.blk z) k) (by rfl) (World.ownsRow.alloc HO.out _) ⟨wr.heap.size,0,none⟩ 1 1 [.string (txt 128 (D.blk z k))] (by rfl) (by rfl) (World.news_of_block (heap_alloc_new wr _)) (by simp[Value.oneCell']) (by unfold maxLen;omega) (by omega) (by have:=HS.out.size;simp;omega) ?_;intro x' w1 hown1 hgrow _)
  refine⟨⟨k+1,by omega,by go_num,by rw[KQ];exact hown1,?_⟩,by simp[intOf];omega⟩;exact Below.grown (Since.alloc HS.out _) hgrow (by have:=HS.out.size;simp;omega) (fun j hj=>(HO.out.lt j hj).1)
 have hke:k=D.sure z:=by omega
 subst hke;clear hown hS;go_wp2_with fail
 go_ret;exact⟨_,rfl,HO.out,HS.out⟩
theorem jc {w:World} {base base' e size n:Nat} {v:Value} {xs:List Value} (h:w.ownsRow base e size v n xs) (hb:base'≤base):w.ownsRow base' e size v n xs:=by
 refine⟨h.1,?_⟩;rcases h.2 with hn | ⟨k,cap,cur,hv,hbk,hk,rest⟩
 ·exact .inl hn
 exact .inr ⟨k,cap,cur,hv,by omega,hk,rest⟩
def az (iv:Nat→Value) (s0 s1:ByteArray) (j:Nat):Value:=if j<8 then iv j else if j=8 then .string s0 else .string s1
def mF (iv:Nat→Value) (k:Nat):Nat→Value:=fun j=>if j<k then iv j else .slice none 0 0
theorem iN {w w':World} {base e size n:Nat} {v:Value} {xs:List Value} (h:w.ownsRow base e size v n xs) (hs:Since w w'):w'.ownsRow base e size v n xs:=
 jD h (b:=w.heap.size) (g:=none) (Fr.ah hs) (fun e=>by have:=(h.lt _ e).2;omega) (by
  cases hv:v.ownBlock with
  | none=>exact Or.inl rfl
  | some k=>exact Or.inr (by simp))
set_option maxRecDepth 100000 in
set_option maxHeartbeats 1000000 in
theorem KR (D:Dv) (v:Value) (b:Nat) (w:World) (hd:Dev w b D v) :
  Calls Tryz.prog 103 #[.pointer (some ⟨b,0,none⟩)] w fun e w'=>∃iv,e=.returned (.agg (aa 10 (az iv (txt 500 (D.slot 0)) (txt 500 (D.slot 1)))).toArray)∧(∀z,z<8→w'.ownsRow w.heap.size 9 1 (iv z) (D.sure z) (fG (D.blk z) (D.sure z)))∧Since w w':=by
 have hbl:=hd.lt;have HD:Hid (Dev w b D v):=hd;clear hd;go_enter Tryz.func103,Tryz.ntmps103
 go_wp2_with fail
 refine(aW _ _).mono ?_;rintro e w' ⟨rfl,rfl⟩;go_wp2_with fail
 go_loopw [8] (fun i wr=>∃(k:Nat) (iv:Nat→Value),k≤8∧i=.int .i64 k∧ak wr (w.heap.size+1) 10 (az (mF iv k) ⟨#[]⟩ ⟨#[]⟩)∧ak wr w.heap.size 10 (az (mF iv 0) ⟨#[]⟩ ⟨#[]⟩)∧(∀z,z<k→wr.ownsRow (w.heap.size+2) 9 1 (iv z) (D.sure z) (fG (D.blk z) (D.sure z)))∧Since w wr∧w.heap.size+2≤wr.heap.size) (fun i _=>8-(intOf i).toNat)
 case atStart=>
  have hz:∀j,j<10→#[Value.slice none 0 0,.slice none 0 0,.slice none 0 0,.slice none 0 0,.slice none 0 0,.slice none 0 0,.slice none 0 0,.slice none 0 0,.string ⟨#[]⟩,.string ⟨#[]⟩][j]?=some (az (mF (fun _=>undef) 0) ⟨#[]⟩ ⟨#[]⟩ j):=by
   intro j hj
   match j,hj with
   | 0,_=>rfl
   | 1,_=>rfl
   | 2,_=>rfl
   | 3,_=>rfl
   | 4,_=>rfl
   | 5,_=>rfl
   | 6,_=>rfl
   | 7,_=>rfl
   | 8,_=>rfl
   | 9,_=>rfl
  exact⟨0,fun _=>undef,by omega,rfl,ak.new _ _ _ _ _ hz _ (by simp),(ak.new w _ _ _ _ hz _ rfl).since ((Since.refl _).alloc _),fun z hz=>by omega,((Since.refl _).alloc _).alloc _,by simp⟩
 obtain⟨k,iv,hk,rfl,hm,hr,hrow,hS,hsz⟩:=hrel;have HM:Hid (ak wr (w.heap.size+1) 10 (az (mF iv k) ⟨#[]⟩ ⟨#[]⟩)):=hm;have HR:Hid (ak wr w.heap.size 10 (az (mF iv 0) ⟨#[]⟩ ⟨#[]⟩)):=hr;have HW:Hid (∀z,z<k→wr.ownsRow (w.heap.size+2) 9 1 (iv z) (D.sure z) (fG (D.blk z) (D.sure z))):=hrow;have HS:Hid (Since w wr):=hS;by_cases hlt:k<8
 ·have hlt2:(k:Int)<8:=by omega
  clear hm hr hrow hS;go_wp2_with fail
  refine(xe D v b k _ (HD.out.since HS.out) hlt).mono ?_;rintro e w2 ⟨x,rfl,hx,hS2⟩;have hm2:=HM.out.since hS2;have c1:=hm2.cell k (by omega);have f1:=hm2.frozen k (by omega);have hx1:x.oneCell'=true∧∃xa xn xc,x=.slice xa xn xc:=by
   rcases hx.2 with⟨h,_⟩ | ⟨g,cap,cur,h,_⟩<;>subst h<;>exact⟨rfl,_,_,_,rfl⟩
  obtain⟨_,xa,xn,xc,rfl⟩:=hx1;have HX:Hid (w2.ownsRow wr.heap.size 9 1 (.slice xa xn xc) (D.sure k) (fG (D.blk k) (D.sure k))):=hx;have OE:Hid (ak w2 (w.heap.size+1) 10 (az (mF iv k) ⟨#[]⟩ ⟨#[]⟩)):=hm2;clear hm2 hx;go_wp2_with fail
  go_roundw
  case rel=>
   refine⟨k+1,fun z=>if z=k then .slice xa xn xc else iv z,by omega,by go_num,(OE.out.set k (by omega) _).congr (fun j hj=>?_),((HR.out.since hS2).other (by simp) _).congr (fun j hj=>rfl),fun z hz=>?_,(HS.out.trans hS2).setCell (by simp) _,by have:=hS2.size;simp;omega⟩
   ·unfold aZ az mF;by_cases h1:j=k
    ·subst h1;dsimp only;rw[if_pos rfl,if_pos hlt,if_pos (by omega),if_pos rfl]
    rw[if_neg h1];by_cases h2:j<8
    ·rw[if_pos h2,if_pos h2];by_cases h3:j<k
     ·dsimp only;rw[if_pos h3,if_pos (by omega),if_neg h1]
     rw[if_neg h3,if_neg (by omega)]
    rw[if_neg h2,if_neg h2]
   by_cases h1:z=k
   ·subst h1;simp only[if_true];exact ownsRow_setCell_below (jc HX.out (by omega)) (by simp) _
   simp only[if_neg h1];exact ownsRow_setCell_below (iN (HW.out z (by omega)) hS2) (by simp) _
  case measure=>simp[intOf];omega
 have hke:k=8:=by omega
 subst hke;clear hm hr hrow hS;go_wp2_with fail
 have YR:∀j,j<8→mF iv 8 j=iv j:=fun j hj=>by unfold mF;rw[if_pos hj]
 have Xl:=dH wr b 16400 500 500 (D.slot 0) (fun i hi=>by rw[(HD.out.since HS.out).bL.cell _ (by omega)];exact congrArg some (il D v 0 i (by omega) hi));have c8:=HM.out.cell 8 (by omega);have f8:=HM.out.frozen 8 (by omega);refine wp_loop_rounds 3 ?_;rw[rounds_succ];go_wp2_with fail
 have hm1:=HM.out.set 8 (by omega) (.string (txt 500 (D.slot 0)));have hr1:=HR.out.other (a:=⟨w.heap.size+1,8,none⟩) (by simp) (.string (txt 500 (D.slot 0)));have hS1:=HS.out.setCell (p:=⟨w.heap.size+1,8,none⟩) (by simp) (.string (txt 500 (D.slot 0)));have hw1:∀z,z<8→(wr.setCell ⟨w.heap.size+1,8,none⟩ (.string (txt 500 (D.slot 0)))).ownsRow (w.heap.size+2) 9 1 (iv z) (D.sure z) (fG (D.blk z) (D.sure z)):=fun z hz=>ownsRow_setCell_below (HW.out z hz) (by simp) _
 generalize wr.setCell ⟨w.heap.size+1,8,none⟩ (.string (txt 500 (D.slot 0)))=w1 at *;have Xm:=dH w1 b 16900 500 500 (D.slot 1) (fun i hi=>by rw[(HD.out.since hS1).bL.cell _ (by omega)];exact congrArg some (il D v 1 i (by omega) hi));have c9:=hm1.cell 9 (by omega);have f9:=hm1.frozen 9 (by omega);have Bo:Hid (ak w1 (w.heap.size+1) 10 _):=hm1;have HR1:Hid (ak w1 w.heap.size 10 _):=hr1;have bY:Hid (Since w w1):=hS1;have HW1:Hid (∀z,z<8→w1.ownsRow (w.heap.size+2) 9 1 (iv z) (D.sure z) (fG (D.blk z) (D.sure z))):=hw1;clear hm1 hr1 hS1 hw1 Xl c8 f8;rw[rounds_succ];go_wp2_with fail
 have hm2:=Bo.out.set 9 (by omega) (.string (txt 500 (D.slot 1)));have hr2:=HR1.out.other (a:=⟨w.heap.size+1,9,none⟩) (by simp) (.string (txt 500 (D.slot 1)));have hS2:=bY.out.setCell (p:=⟨w.heap.size+1,9,none⟩) (by simp) (.string (txt 500 (D.slot 1)));have hw2:∀z,z<8→(w1.setCell ⟨w.heap.size+1,9,none⟩ (.string (txt 500 (D.slot 1)))).ownsRow (w.heap.size+2) 9 1 (iv z) (D.sure z) (fG (D.blk z) (D.sure z)):=fun z hz=>ownsRow_setCell_below (HW1.out z hz) (by simp) _
 generalize w1.setCell ⟨w.heap.size+1,9,none⟩ (.string (txt 500 (D.slot 1)))=w2 at *;have YK:ak w2 (w.heap.size+1) 10 (az iv (txt 500 (D.slot 0)) (txt 500 (D.slot 1))):=hm2.congr (fun j hj=>by
  unfold aZ az;by_cases h9:j=9
  ·subst h9;rfl
  rw[if_neg h9];by_cases h8:j=8
  ·subst h8;rfl
  rw[if_neg h8,if_pos (by omega),if_pos (by omega),YR j (by omega)])
 have hR:=YK.range 0 10 (by omega);simp only[Nat.zero_add] at hR;have OG:∀j,j<10→(az iv (txt 500 (D.slot 0)) (txt 500 (D.slot 1)) j).oneCell'=true:=fun j hj=>by
  unfold az;by_cases h:j<8
  ·rw[if_pos h];rcases (hw2 j h).2 with⟨e,_⟩ | ⟨g,cap,cur,e,_⟩<;>rw[e]<;>rfl
  rw[if_neg h];split<;>rfl
 have hst:=hr2.store Tryz.prog 0 10 (by omega) (az iv (txt 500 (D.slot 0)) (txt 500 (D.slot 1))) OG;have hL:(aa 10 (az iv (txt 500 (D.slot 0)) (txt 500 (D.slot 1)))).length=10:=ag _ _;have hr3:=(hr2.setRow 0 10 (by omega) (az iv (txt 500 (D.slot 0)) (txt 500 (D.slot 1)))).congr (g:=az iv (txt 500 (D.slot 0)) (txt 500 (D.slot 1))) (fun j hj=>by unfold dF;rw[if_pos (by omega)];rfl);have AR:=hr3.range 0 10 (by omega);simp only[Nat.zero_add] at AR;have HR3:Hid _:=AR;have iw:Hid (Since w _):=hS2.setCells (b:=w.heap.size) (by simp) (aa 10 (az iv (txt 500 (D.slot 0)) (txt 500 (D.slot 1)))) 0;have HW3:Hid (∀z,z<8→(w2.setCells w.heap.size 0 (aa 10 (az iv (txt 500 (D.slot 0)) (txt 500 (D.slot 1))))).ownsRow w.heap.size 9 1 (iv z) (D.sure z) (fG (D.blk z) (D.sure z))):=fun z hz=>
  jc (jD (hw2 z hz) (Fr.setCells w.heap.size none _ 0 w2) (fun e=>by have:=((hw2 z hz).lt _ e).1;omega) (by
   cases hv:(iv z).ownBlock with
   | none=>exact Or.inl rfl
   | some k=>exact Or.inr (by simp))) (by omega)
 clear hm2 hr2 hS2 hw2 YK OG hr3 AR Xm c9 f9;rw[rounds_succ];generalize hcs:aa 10 (az iv (txt 500 (D.slot 0)) (txt 500 (D.slot 1)))=cs at *;go_wp2_with (refine wpList_load_mid (by rfl) 75 _ (by rfl) (w.heap.size+1) 0 (by rfl) _ _ hR Tryz.underlying75 (by rfl) (by rw[hL];kernel_rfl) ?_)
 refine bodyPost_ret (aQ Tryz.results103 _ _ _ w.heap.size _ _ (by rfl) HR3.out Tryz.underlying75 (by rfl) (by rw[hL];kernel_rfl)) rfl ⟨iv,by rw[hcs],HW3.out,iw.out⟩
end Go.Proofs.YtmhcfaaggkidjaaGreatDoor
end
section
namespace Go.Proofs.YtmhcfaaggkidjaaGreatDoor
open Go.RowKit
def aF (l:Nat→ByteArray) (m:Nat):Nat→Nat→UInt8:=fun k i=>if k<m then sb (l k) i else 0
theorem rq (l:Nat→ByteArray) (m:Nat):(fun k i=>if k=m then sb (l m) i else aF l m k i)=aF l (m+1):=by
 funext k i
 unfold aF;by_cases h:k=m
 ·subst h;rw[if_pos rfl,if_pos (by omega)]
 rw[if_neg h];by_cases h2:k<m
 ·rw[if_pos h2,if_pos (by omega)]
 rw[if_neg h2,if_neg (by omega)]
theorem xg (blk:Nat→Nat→UInt8) (m s j:Nat) (hj:j<2050):aZ (aD blk m s) 2049 (.int .i64 m) j=aD blk m m j:=by
 unfold aZ aD;by_cases h:j=2049
 ·rw[if_pos h,if_neg (by omega),if_neg (by omega)]
 rw[if_neg h];by_cases h1:j<2048
 ·rw[if_pos h1,if_pos h1]
 rw[if_neg h1,if_neg h1,if_pos (by omega),if_pos (by omega)]
def Zu (w:World) (a:Option Addr) (n:Nat) (l:Nat→ByteArray):Prop:=0<n→∃k o,a=some ⟨k,o,none⟩∧∀j,j<n→w.cell? ⟨k,o+j,none⟩=some (.string (l j))
set_option maxRecDepth 100000 in
set_option maxHeartbeats 2000000 in
theorem OH (a:Option Addr) (n c:Nat) (l:Nat→ByteArray) (w:World) (hs:Zu w a n l) (hc:n≤c) (hn:n≤16) :
  Calls Tryz.prog 210 #[.slice a n c] w fun e w'=>e=.returned (.agg (aa 2050 (aD (aF l n) n n)).toArray)∧Since w w':=by
 have HT:Hid (Zu w a n l):=hs;clear hs;have hB:ak ((w.alloc (.cells Tryz.zeroCells98 98)).alloc (.cells Tryz.zeroCells98 98)) w.heap.size 2050 (aD (fun _ _=>0) 0 0):=(ak.new w _ _ _ _ (fun j hj=>fD j hj) _ rfl).since ((Since.refl _).alloc _);have hA:ak ((w.alloc (.cells Tryz.zeroCells98 98)).alloc (.cells Tryz.zeroCells98 98)) (w.heap.size+1) 2050 (aD (aF l 0) 0 0):=(ak.new (w.alloc _) _ _ _ _ (fun j hj=>fD j hj) _ (by simp))
 have hS:Since w ((w.alloc (.cells Tryz.zeroCells98 98)).alloc (.cells Tryz.zeroCells98 98)):=((Since.refl w).alloc _).alloc _;have HB:Hid (ak _ w.heap.size 2050 (aD (fun _ _=>0) 0 0)):=hB;have HA:Hid (ak _ (w.heap.size+1) 2050 (aD (aF l 0) 0 0)):=hA;have HS:Hid (Since w _):=hS;have HC:Hid (n≤c):=hc;clear hA hB hS;have hni:(n:Int)≤16:=by omega
 go_enter Tryz.func210,Tryz.ntmps210
 go_wp2_with fail
 skip
 go_loopw [12] (fun i wr=>∃k:Nat,k≤n∧i=.int .i64 k∧ak wr (w.heap.size+1) 2050 (aD (aF l k) k 0)∧ak wr w.heap.size 2050 (aD (fun _ _=>0) 0 0)∧Since w wr) (fun i _=>n-(intOf i).toNat)
 case atStart=>exact⟨0,by omega,rfl,HA.out,HB.out,HS.out⟩
 obtain⟨k,hk,rfl,hz,hr,hsn⟩:=hrel;have HZ:Hid (ak wr (w.heap.size+1) 2050 (aD (aF l k) k 0)):=hz;have HR:Hid (ak wr w.heap.size 2050 (aD (fun _ _=>0) 0 0)):=hr;have Xn:Hid (Since w wr):=hsn;clear hz hr hsn HA HB HS;by_cases hlt:k<n
 ·have hlt2:(k:Int)<(n:Nat):=by omega
  obtain⟨lk,lo,rfl,hlc⟩:=HT.out (by omega);have q1:=(Xn.out.cell (p:=⟨lk,lo+k,none⟩) (World.block_lt_of_cell? w _ (hlc k (by omega)))).trans (hlc k (by omega));clear hlc;go_wp2_with fail
  refine(Bg (w.heap.size+1) 0 k 2050 (aD (aF l k) k 0) (l k) _ HZ.out (by omega) (by unfold aD;rfl) (by omega)).mono ?_;rintro e w2 ⟨rfl,hw2⟩;have hz2:ak w2 (w.heap.size+1) 2050 (aD (aF l (k+1)) (k+1) 0):=by
   rw[hw2,Nat.zero_add,Nat.zero_add];refine(((HZ.out.since (Since.refl _).drew).setRow (k*128) (min (l k).size 128) (by omega) (fun i=>bv (sb (l k) i))).set 2048 (by omega) (.int .i64 (k+1))).congr (fun j hj=>?_);rw[tC (aF l k) k 0 (l k) (by omega) (fun i _=>by unfold aF;rw[if_neg (by omega)]) j hj,rq]
  have hr2:ak w2 w.heap.size 2050 (aD (fun _ _=>0) 0 0):=by
   rw[hw2];exact((HR.out.since (Since.refl _).drew).setRow_other _ (by omega)).other (by simp) _
  have hs2:Since w w2:=by
   rw[hw2];exact((Xn.out.drew).setCells (by omega) _ _).setCell (by simp) _
  have HZ2:Hid (ak w2 (w.heap.size+1) 2050 (aD (aF l (k+1)) (k+1) 0)):=hz2;have HR2:Hid (ak w2 w.heap.size 2050 (aD (fun _ _=>0) 0 0)):=hr2;have HS2:Hid (Since w w2):=hs2;clear hw2 hz2 hr2 hs2 q1;go_wp2_with fail
  go_roundw
  case rel=>exact⟨k+1,by omega,by go_num,HZ2.out,HR2.out,HS2.out⟩
  case measure=>simp[intOf];omega
 have hke:n=k:=by omega
 subst hke;have c1:=HZ.out.cell 2048 (by omega);rw[show aD (aF l n) n 0 2048=.int .i64 (n:Nat) by unfold aD;rfl] at c1;have c2:=HZ.out.cell 2049 (by omega);have f2:=HZ.out.frozen 2049 (by omega);have hz3:ak (wr.setCell ⟨w.heap.size+1,2049,none⟩ (.int .i64 (n:Nat))) (w.heap.size+1) 2050 (aD (aF l n) n n):=(HZ.out.set 2049 (by omega) _).congr (fun j hj=>xg _ n 0 j hj);have hr3:ak (wr.setCell ⟨w.heap.size+1,2049,none⟩ (.int .i64 (n:Nat))) w.heap.size 2050 (aD (fun _ _=>0) 0 0):=HR.out.other (by simp) _;have hs3:Since w (wr.setCell ⟨w.heap.size+1,2049,none⟩ (.int .i64 (n:Nat))):=Xn.out.setCell (by simp) _
 skip
 have hR:=hz3.range 0 2050 (by omega);simp only[Nat.zero_add] at hR;have hst:=hr3.store Tryz.prog 0 2050 (by omega) (aD (aF l n) n n) (fun _ _=>nX _ _ _ _);have hr4:=(hr3.setRow 0 2050 (by omega) (aD (aF l n) n n)).congr (g:=aD (aF l n) n n) (fun j hj=>by unfold dF;rw[if_pos (by omega)];congr 1);have KS:=hr4.range 0 2050 (by omega);simp only[Nat.zero_add] at KS;have hL:(aa 2050 (aD (aF l n) n n)).length=2050:=ag _ _;have HR4:Hid _:=KS;have iY:Hid (Since w _):=hs3.setCells (b:=w.heap.size) (Nat.le_refl _) (aa 2050 (aD (aF l n) n n)) 0;clear hz3 hr3 hs3 hr4 KS;generalize hcs:aa 2050 (aD (aF l n) n n)=cs at *;go_wp2_with (refine wpList_load_mid (by rfl) 98 _ (by rfl) (w.heap.size+1) 0 (by rfl) _ _ hR Tryz.underlying98 (by rfl) (by rw[hL];kernel_rfl) ?_)
 exact bodyPost_ret (aQ Tryz.results210 _ _ _ w.heap.size _ _ (by rfl) HR4.out Tryz.underlying98 (by rfl) (by rw[hL];kernel_rfl)) rfl ⟨by rw[hcs],iY.out⟩
set_option maxRecDepth 100000 in
set_option maxHeartbeats 2000000 in
theorem KT (a:Option Addr) (n c:Nat) (l:Nat→ByteArray) (w:World) (hs:Zu w a n l) (hc:n≤c) (hn:16<n) :
  Calls Tryz.prog 210 #[.slice a n c] w fun e w'=>e=.returned (.agg (aa 2050 (aD (aF l 16) 16 16)).toArray)∧Since w w':=by
 have HT:Hid (Zu w a n l):=hs;clear hs;have hB:ak ((w.alloc (.cells Tryz.zeroCells98 98)).alloc (.cells Tryz.zeroCells98 98)) w.heap.size 2050 (aD (fun _ _=>0) 0 0):=(ak.new w _ _ _ _ (fun j hj=>fD j hj) _ rfl).since ((Since.refl _).alloc _);have hA:ak ((w.alloc (.cells Tryz.zeroCells98 98)).alloc (.cells Tryz.zeroCells98 98)) (w.heap.size+1) 2050 (aD (aF l 0) 0 0):=(ak.new (w.alloc _) _ _ _ _ (fun j hj=>fD j hj) _ (by simp))
 have hS:Since w ((w.alloc (.cells Tryz.zeroCells98 98)).alloc (.cells Tryz.zeroCells98 98)):=((Since.refl w).alloc _).alloc _;have HB:Hid (ak _ w.heap.size 2050 (aD (fun _ _=>0) 0 0)):=hB;have HA:Hid (ak _ (w.heap.size+1) 2050 (aD (aF l 0) 0 0)):=hA;have HS:Hid (Since w _):=hS;have HC:Hid (n≤c):=hc;clear hA hB hS;have hni:¬(n:Int)≤16:=by omega
 have a5z:16≤c:=by omega
 go_enter Tryz.func210,Tryz.ntmps210
 go_wp2_with fail
 try rw[show (max (16:Int) 0)=16 from rfl]
 go_loopw [12] (fun i wr=>∃k:Nat,k≤16∧i=.int .i64 k∧ak wr (w.heap.size+1) 2050 (aD (aF l k) k 0)∧ak wr w.heap.size 2050 (aD (fun _ _=>0) 0 0)∧Since w wr) (fun i _=>16-(intOf i).toNat)
 case atStart=>exact⟨0,by omega,rfl,HA.out,HB.out,HS.out⟩
 obtain⟨k,hk,rfl,hz,hr,hsn⟩:=hrel;have HZ:Hid (ak wr (w.heap.size+1) 2050 (aD (aF l k) k 0)):=hz;have HR:Hid (ak wr w.heap.size 2050 (aD (fun _ _=>0) 0 0)):=hr;have Xn:Hid (Since w wr):=hsn;clear hz hr hsn HA HB HS;by_cases hlt:k<16
 ·have hlt2:(k:Int)<(16:Nat):=by omega
  obtain⟨lk,lo,rfl,hlc⟩:=HT.out (by omega);have q1:=(Xn.out.cell (p:=⟨lk,lo+k,none⟩) (World.block_lt_of_cell? w _ (hlc k (by omega)))).trans (hlc k (by omega));clear hlc;go_wp2_with fail
  refine(Bg (w.heap.size+1) 0 k 2050 (aD (aF l k) k 0) (l k) _ HZ.out (by omega) (by unfold aD;rfl) (by omega)).mono ?_;rintro e w2 ⟨rfl,hw2⟩;have hz2:ak w2 (w.heap.size+1) 2050 (aD (aF l (k+1)) (k+1) 0):=by
   rw[hw2,Nat.zero_add,Nat.zero_add];refine(((HZ.out.since (Since.refl _).drew).setRow (k*128) (min (l k).size 128) (by omega) (fun i=>bv (sb (l k) i))).set 2048 (by omega) (.int .i64 (k+1))).congr (fun j hj=>?_);rw[tC (aF l k) k 0 (l k) (by omega) (fun i _=>by unfold aF;rw[if_neg (by omega)]) j hj,rq]
  have hr2:ak w2 w.heap.size 2050 (aD (fun _ _=>0) 0 0):=by
   rw[hw2];exact((HR.out.since (Since.refl _).drew).setRow_other _ (by omega)).other (by simp) _
  have hs2:Since w w2:=by
   rw[hw2];exact((Xn.out.drew).setCells (by omega) _ _).setCell (by simp) _
  have HZ2:Hid (ak w2 (w.heap.size+1) 2050 (aD (aF l (k+1)) (k+1) 0)):=hz2;have HR2:Hid (ak w2 w.heap.size 2050 (aD (fun _ _=>0) 0 0)):=hr2;have HS2:Hid (Since w w2):=hs2;clear hw2 hz2 hr2 hs2 q1;go_wp2_with fail
  go_roundw
  case rel=>exact⟨k+1,by omega,by go_num,HZ2.out,HR2.out,HS2.out⟩
  case measure=>simp[intOf];omega
 have hke:16=k:=by omega
 subst hke;have c1:=HZ.out.cell 2048 (by omega);rw[show aD (aF l 16) 16 0 2048=.int .i64 (16:Nat) by unfold aD;rfl] at c1;have c2:=HZ.out.cell 2049 (by omega);have f2:=HZ.out.frozen 2049 (by omega);have hz3:ak (wr.setCell ⟨w.heap.size+1,2049,none⟩ (.int .i64 (16:Nat))) (w.heap.size+1) 2050 (aD (aF l 16) 16 16):=(HZ.out.set 2049 (by omega) _).congr (fun j hj=>xg _ 16 0 j hj);have hr3:ak (wr.setCell ⟨w.heap.size+1,2049,none⟩ (.int .i64 (16:Nat))) w.heap.size 2050 (aD (fun _ _=>0) 0 0):=HR.out.other (by simp) _;have hs3:Since w (wr.setCell ⟨w.heap.size+1,2049,none⟩ (.int .i64 (16:Nat))):=Xn.out.setCell (by simp) _;simp only[Int.cast_ofNat_Int] at c1 hz3 hr3 hs3;have hR:=hz3.range 0 2050 (by omega);simp only[Nat.zero_add] at hR;have hst:=hr3.store Tryz.prog 0 2050 (by omega) (aD (aF l 16) 16 16) (fun _ _=>nX _ _ _ _)
 have hr4:=(hr3.setRow 0 2050 (by omega) (aD (aF l 16) 16 16)).congr (g:=aD (aF l 16) 16 16) (fun j hj=>by unfold dF;rw[if_pos (by omega)];congr 1);have KS:=hr4.range 0 2050 (by omega);simp only[Nat.zero_add] at KS;have hL:(aa 2050 (aD (aF l 16) 16 16)).length=2050:=ag _ _;have HR4:Hid _:=KS;have iY:Hid (Since w _):=hs3.setCells (b:=w.heap.size) (Nat.le_refl _) (aa 2050 (aD (aF l 16) 16 16)) 0;clear hz3 hr3 hs3 hr4 KS;generalize hcs:aa 2050 (aD (aF l 16) 16 16)=cs at *;go_wp2_with (refine wpList_load_mid (by rfl) 98 _ (by rfl) (w.heap.size+1) 0 (by rfl) _ _ hR Tryz.underlying98 (by rfl) (by rw[hL];kernel_rfl) ?_)
 exact bodyPost_ret (aQ Tryz.results210 _ _ _ w.heap.size _ _ (by rfl) HR4.out Tryz.underlying98 (by rfl) (by rw[hL];kernel_rfl)) rfl ⟨by rw[hcs],iY.out⟩
theorem qR (a:Option Addr) (n c:Nat) (l:Nat→ByteArray) (w:World) (hs:Zu w a n l) (hc:n≤c) :
  Calls Tryz.prog 210 #[.slice a n c] w fun e w'=>e=.returned (.agg (aa 2050 (aD (aF l (min n 16)) (min n 16) (min n 16))).toArray)∧Since w w':=by
 by_cases h:n≤16
 ·rw[Nat.min_eq_left h];exact OH a n c l w hs hc h
 rw[Nat.min_eq_right (by omega)];exact KT a n c l w hs hc (by omega)
end Go.Proofs.YtmhcfaaggkidjaaGreatDoor
end
section
namespace Go.Proofs.YtmhcfaaggkidjaaGreatDoor
open Go.RowKit
def Dv.ic (D:Dv) (n:Nat→Nat) (l:Nat→Nat→ByteArray) (k:Nat):Dv:=
 { D with blk:=fun z=>if z<k then aF (l z) (min (n z) 16) else D.blk z,cnt:=fun z=>if z<k then min (n z) 16 else D.cnt z,sure:=fun z=>if z<k then min (n z) 16 else D.sure z }
theorem OI (D:Dv) (n:Nat→Nat) (l:Nat→Nat→ByteArray) (k:Nat) (h:D.ok):(D.ic n l k).ok where
 cnt z hz:=by
  show (if z<k then _ else _)≤16
  split
  ·omega
  exact h.cnt z hz
 sure z hz:=by
  show (if z<k then _ else _)≤(if z<k then _ else _)
  split
  ·exact Nat.le_refl _
  exact h.sure z hz
 zero z j i hz hk hk2 hi:=by
  show (if z<k then aF (l z) (min (n z) 16) else D.blk z) j i=0
  have hk':(if z<k then min (n z) 16 else D.cnt z)≤j:=hk;by_cases e:z<k
  ·rw[if_pos e] at hk' ⊢;unfold aF;rw[if_neg (by omega)]
  rw[if_neg e] at hk' ⊢;exact h.zero z j i hz hk' hk2 hi
 left:=h.left
 ws:=h.ws
 few:=h.few
set_option maxRecDepth 100000 in
theorem KU (D:Dv) (v:Value) (b k:Nat) (n:Nat→Nat) (l:Nat→Nat→ByteArray) (w:World) (hd:Dev w b (D.ic n l k) v) (hok:D.ok) (hk:k<8):Dev (w.setCells b (k*2050) (aa 2050 (aD (aF (l k) (min (n k) 16)) (min (n k) 16) (min (n k) 16)))) b (D.ic n l (k+1)) v:=by
 refine hd.turn ((hd.bL.setRow (k*2050) 2050 (by omega) _).congr (fun j hj=>?_)) (Fr.setCells _ _ _ _ _) rfl (OI D n l (k+1) hok);have hne:∀{α:Type} (z':Nat) (x y:α),z'≠k→(if z'<k+1 then x else y)=if z'<k then x else y:=fun z' x y h=>by
  by_cases h1:z'<k
  ·rw[if_pos h1,if_pos (by omega)]
  rw[if_neg h1,if_neg (by omega)]
 refine jL (D.ic n l k) (D.ic n l (k+1)) v k hk _ (fun j hj=>?_) (fun j hj=>?_) (fun z' h=>?_) (fun z' h=>?_) (fun z' h=>?_) rfl rfl rfl j
 ·unfold dF;rw[if_pos (by omega),show k*2050+j-k*2050=j by omega];have e1:(D.ic n l (k+1)).blk k=aF (l k) (min (n k) 16):=by show (if k<k+1 then _ else _)=_;rw[if_pos (by omega)]
  have e2:(D.ic n l (k+1)).cnt k=min (n k) 16:=by show (if k<k+1 then _ else _)=_;rw[if_pos (by omega)]
  have e3:(D.ic n l (k+1)).sure k=min (n k) 16:=by show (if k<k+1 then _ else _)=_;rw[if_pos (by omega)]
  rw[e1,e2,e3]
 ·unfold dF;rw[if_neg (by omega)]
 ·exact hne z' _ _ h
 ·exact hne z' _ _ h
 exact hne z' _ _ h
def Dv.OJ (D:Dv) (n:Nat→Nat) (l:Nat→Nat→ByteArray) (s0 s1:ByteArray):Dv:=(((D.ic n l 8).gN 0 (sb s0)).gN 1 (sb s1)).none
theorem Dy (t:TypeId) (xs:Array Value) (i:Nat) (x:Value) (w:World) (ha:(isAgg t).run Tryz.prog w=.ok false w) (h:xs[i]?=some x):(part t xs i).run Tryz.prog w=.ok x w:=by
 simp[part,h,ha,Result.andThen]
theorem TA (iv:Nat→Value) (k:Nat) (hk:k<8) (w:World):(Instr.index 72 (.agg (aa 8 iv).toArray) (.int .i64 (k:Int))).run Tryz.prog w=.ok (iv k) w:=by
 have hp:=Dy 28 (aa 8 iv).toArray k (iv k) w (Tryz.isAgg28 w) (by rw[List.getElem?_toArray];exact aU _ _ _ hk);have hz:(Go.sizeOf 28).run Tryz.prog w=.ok 1 w:=Tryz.sizeOf28 w;have h2:(0:Int)≤k∧(k:Int)<8:=by omega
 simp[Instr.index,go_sem,run_underlying Tryz.underlying72,hz,hk,aU 8 iv k hk,Result.andThen]
theorem Jw (sv:Nat→Value) (k:Nat) (hk:k<2) (w:World):(Instr.index 73 (.agg (aa 2 sv).toArray) (.int .i64 (k:Int))).run Tryz.prog w=.ok (sv k) w:=by
 have hp:=Dy 9 (aa 2 sv).toArray k (sv k) w (Tryz.isAgg9 w) (by rw[List.getElem?_toArray];exact aU _ _ _ hk);have hz:(Go.sizeOf 9).run Tryz.prog w=.ok 1 w:=Tryz.sizeOf9 w;have h2:(0:Int)≤k∧(k:Int)<2:=by omega
 simp[Instr.index,go_sem,run_underlying Tryz.underlying73,hz,hk,aU 2 sv k hk,Result.andThen]
structure Xo (w:World) (b:Nat) (iv:Nat→Value) (n:Nat→Nat) (l:Nat→Nat→ByteArray):Prop where
 row:∀z,z<8→∃a c,iv z=.slice a (n z) c∧n z≤c∧(0<n z→∃k o,a=some ⟨k,o,none⟩∧k≠b∧∀j,j<n z→w.cell? ⟨k,o+j,none⟩=some (.string (l z j)))
theorem Xo.fr {w w':World} {b:Nat} {iv:Nat→Value} {n:Nat→Nat} {l:Nat→Nat→ByteArray} (h:Xo w b iv n l) (hf:Fr b none w w'):Xo w' b iv n l where
 row z hz:=by
  obtain⟨a,c,h1,h2,h3⟩:=h.row z hz;refine⟨a,c,h1,h2,fun hn=>?_⟩;obtain⟨k,o,ha,hk,hc⟩:=h3 hn;exact⟨k,o,ha,hk,fun j hj=>(hf.cell (p:=⟨k,o+j,none⟩) (World.block_lt_of_cell? w _ (hc j hj)) hk (by simp)).trans (hc j hj)⟩
theorem TB (iv:Nat→Value) (s0 s1:ByteArray) (j:Nat) (hj:j<10):(aa 10 (az iv s0 s1)).toArray[j]?=some (az iv s0 s1 j):=by
 rw[List.getElem?_toArray];exact aU _ _ _ hj
set_option maxRecDepth 100000 in
set_option maxHeartbeats 2000000 in
theorem TC (D:Dv) (v:Value) (b:Nat) (iv:Nat→Value) (s0 s1:ByteArray) (n:Nat→Nat) (l:Nat→Nat→ByteArray) (w:World) (hd:Dev w b D v) (hi:Xo w b iv n l) :
  Calls Tryz.prog 156 #[.pointer (some ⟨b,0,none⟩),.agg (aa 10 (az iv s0 s1)).toArray] w fun e w'=>e=.returned (.tuple #[])∧Dev w' b (D.OJ n l s0 s1) (.slice none 0 0)∧Fr b none w w':=by
 have HD:Hid (Dev w b D v):=hd;have HI:Hid (Xo w b iv n l):=hi;have hbl:b≠w.heap.size:=by have:=hd.lt;omega
 clear hd hi;go_enter Tryz.func156,Tryz.ntmps156
 go_wp2_with fail
 have hC:ak (w.alloc (.cells (aa 10 (az iv s0 s1)).toArray 75)) w.heap.size 10 (az iv s0 s1):=ak.new w _ _ _ _ (TB iv s0 s1) _ rfl;have hS:Since w (w.alloc (.cells (aa 10 (az iv s0 s1)).toArray 75)):=(Since.refl w).alloc _;generalize w.alloc (.cells (aa 10 (az iv s0 s1)).toArray 75)=w0 at *;have HC:Hid (ak w0 w.heap.size 10 (az iv s0 s1)):=hC;have HD0:Hid (Dev w0 b (D.ic n l 0) v):=HD.out.since hS;have HI0:Hid (Xo w0 b iv n l):=HI.out.fr (Fr.ah hS);have Tz:Hid (Fr b none w w0):=Fr.ah hS;have TD:Hid (D.ok):=HD.out.ok;clear hC hS HD HI;refine(aW _ _).mono ?_;rintro e w' ⟨rfl,rfl⟩;have hR:w'.rangeAt w.heap.size 0 (aa 8 iv):=by
  have h:=HC.out.range 0 8 (by omega);have e:aa 8 (fun j=>az iv s0 s1 (0+j))=aa 8 iv:=by
   unfold aa;exact List.map_congr_left (fun j hj=>by unfold az;rw[Nat.zero_add,if_pos (List.mem_range.1 hj)])
  rw[e] at h;exact h
 have hL:(aa 8 iv).length=8:=ag _ _;have hix:=fun (k:Nat) (hk:k<8) (w:World)=>TA iv k hk w
 have Nw:Hid (∀(k:Nat) (hk:k<8) (w:World),(Instr.index 72 (.agg (aa 8 iv).toArray) (.int .i64 (k:Int))).run Tryz.prog w=.ok (iv k) w):=hix;clear hix;generalize hcs:aa 8 iv=cs at *;go_wp2_with (refine wpList_load_mid (by rfl) 72 _ (by rfl) w.heap.size 0 (by rfl) _ _ hR Tryz.underlying72 (by rfl) (by rw[hL];kernel_rfl) ?_)
 clear hR hL;go_loopw [12] (fun i wr=>∃k:Nat,k≤8∧i=.int .i64 k∧Dev wr b (D.ic n l k) v∧Fr b none w' wr) (fun i _=>8-(intOf i).toNat)
 case atStart=>exact⟨0,by omega,rfl,HD0.out,Fr.refl _ _ _⟩
 obtain⟨k,hk,rfl,hd,hf⟩:=hrel;have HDK:Hid (Dev wr b (D.ic n l k) v):=hd;have Fw:Hid (Fr b none w' wr):=hf;clear hd hf;by_cases hlt:k<8
 ·have hlt2:(k:Int)<8:=by omega
  have hix:=Nw.out k hlt;obtain⟨a,c,YR,hnc,htx⟩:=(HI0.out.fr Fw.out).row k hlt;rw[YR] at hix;have Xp:Hid (0<n k→∃kb o,a=some ⟨kb,o,none⟩∧kb≠b∧∀j,j<n k→wr.cell? ⟨kb,o+j,none⟩=some (.string (l k j))):=htx;clear htx YR;go_wp2_with fail
  clear hix;go_region_with (go_at_call 210;refine(qR a (n k) c (l k) _ (fun h0=>by obtain⟨kb,o,h1,_,h3⟩:=Xp.out h0;exact⟨kb,o,h1,h3⟩) hnc).mono ?_;rintro e w1 ⟨rfl,hS1⟩;have hd1:=(HDK.out.since (Since.refl _).drew).since hS1;have hst:=hd1.bL.store Tryz.prog (k*2050) 2050 (by omega) (aD (aF (l k) (min (n k) 16)) (min (n k) 16) (min (n k) 16)) (fun _ _=>nX _ _ _ _);have HD1:Hid (Dev w1 b (D.ic n l k) v):=hd1;clear hd1;have hL:(aa 2050 (aD (aF (l k) (min (n k) 16)) (min (n k) 16) (min (n k) 16))).length=2050:=ag _ _)
  have hd2:=KU D v b k n l w1 HD1.out TD.out hlt;have hf2:Fr b none w' (w1.setCells b (k*2050) (aa 2050 (aD (aF (l k) (min (n k) 16)) (min (n k) 16) (min (n k) 16)))):=(Fw.out.trans' (Fr.ah (Since.trans (Since.refl _).drew hS1))).trans' (Fr.setCells _ _ _ _ _);generalize w1.setCells b (k*2050) _=w2 at *;have HD2:Hid (Dev w2 b (D.ic n l (k+1)) v):=hd2;have oN:Hid (Fr b none w' w2):=hf2;clear hd2 hf2 hst HD1 hS1 hL;go_wp2_with fail
  go_roundw
  case rel=>exact⟨k+1,by omega,by go_num,HD2.out,oN.out⟩
  case measure=>simp[intOf];omega
 have hke:8=k:=by omega
 subst hke;have fT:=HC.out.fr Fw.out (by omega) (by simp);have hR:wr.rangeAt w.heap.size 8 (aa 2 (fun j=>if j=0 then .string s0 else .string s1)):=by
  have h:=fT.range 8 2 (by omega);have e:aa 2 (fun j=>az iv s0 s1 (8+j))=aa 2 (fun j=>if j=0 then .string s0 else .string s1):=rfl;rw[e] at h;exact h
 have hL:(aa 2 (fun j=>if j=0 then Value.string s0 else .string s1)).length=2:=ag _ _;have hx0:=Jw (fun j=>if j=0 then .string s0 else .string s1) 0 (by omega);have hx1:=Jw (fun j=>if j=0 then .string s0 else .string s1) 1 (by omega);simp only[if_true,Nat.one_ne_zero,if_false,Int.cast_ofNat_Int] at hx0 hx1;generalize hcs2:aa 2 (fun j=>if j=0 then Value.string s0 else .string s1)=cs2 at *;clear fT;go_wp2_with (refine wpList_load_mid (by rfl) 73 _ (by rfl) w.heap.size 8 (by rfl) _ _ hR Tryz.underlying73 (by rfl) (by rw[hL];kernel_rfl) ?_)
 clear hR hL;refine wp_loop_rounds 3 ?_;rw[rounds_succ];go_wp2_with fail
 go_region_with (go_at_call 191;refine(iy s0 _).mono ?_;rintro e w1 ⟨rfl,hS1⟩;have hd1:=(HDK.out.since (Since.refl _).drew).since hS1;have hst:=hd1.bL.store Tryz.prog 16400 500 (by omega) (fun i=>bv (sb s0 i)) (fun _ _=>rfl);have HD1:Hid (Dev w1 b (D.ic n l 8) v):=hd1;clear hd1;have hL:(aa 500 (fun i=>bv (sb s0 i))).length=500:=ag _ _)
 have hd2:=lL _ v b 0 (sb s0) w1 HD1.out (by omega);have hf2:Fr b none w' (w1.setCells b (16400+0*500) (aa 500 (fun i=>bv (sb s0 i)))):=(Fw.out.trans' (Fr.ah (Since.trans (Since.refl _).drew hS1))).trans' (Fr.setCells _ _ _ _ _);rw[show 16400+0*500=16400 from rfl] at hd2 hf2;generalize w1.setCells b 16400 (aa 500 (fun i=>bv (sb s0 i)))=w2 at *;have HD2:Hid (Dev w2 b ((D.ic n l 8).gN 0 (sb s0)) v):=hd2;have oN:Hid (Fr b none w' w2):=hf2;clear hd2 hf2 hst HD1 hS1 hL hx0;go_wp2_with fail
 rw[rounds_succ];go_wp2_with fail
 go_region_with (go_at_call 191;refine(iy s1 _).mono ?_;rintro e w3 ⟨rfl,fu⟩;have hd3:=(HD2.out.since (Since.refl _).drew).since fu;have hst:=hd3.bL.store Tryz.prog 16900 500 (by omega) (fun i=>bv (sb s1 i)) (fun _ _=>rfl);have HD3:Hid (Dev w3 b ((D.ic n l 8).gN 0 (sb s0)) v):=hd3;clear hd3;have hL:(aa 500 (fun i=>bv (sb s1 i))).length=500:=ag _ _)
 have hd4:=lL _ v b 1 (sb s1) w3 HD3.out (by omega);have zQ:Fr b none w' (w3.setCells b (16400+1*500) (aa 500 (fun i=>bv (sb s1 i)))):=(oN.out.trans' (Fr.ah (Since.trans (Since.refl _).drew fu))).trans' (Fr.setCells _ _ _ _ _);rw[show 16400+1*500=16900 from rfl] at hd4 zQ;generalize w3.setCells b 16900 (aa 500 (fun i=>bv (sb s1 i)))=w4 at *;have c4:=hd4.bL.cell 17400 (by omega);have f4:=hd4.bL.frozen 17400 (by omega);rw[gI] at c4;have HD4:Hid (Dev w4 b (((D.ic n l 8).gN 0 (sb s0)).gN 1 (sb s1)) v):=hd4;have OC:Hid (Fr b none w' w4):=zQ;clear hd4 zQ hst HD3 fu hL hx1;go_wp2_with fail
 rw[rounds_succ];go_wp2_with fail
 go_end0
 exact⟨rfl,Dt _ v b w4 HD4.out,(Tz.out.trans' OC.out).trans' (Fr.setCell _ _ _ _ _)⟩
end Go.Proofs.YtmhcfaaggkidjaaGreatDoor
end
section
namespace Go.Proofs.YtmhcfaaggkidjaaGreatDoor
open Go.RowKit
def AP (iv:Nat→Value) (k:Nat):Prop:=∀z z',z<z'→z'<k→∀kk,(iv z).ownBlock=some kk→(iv z').ownBlock≠some kk
theorem AP.step {iv:Nat→Value} {k B:Nat} {x:Value} (h:AP iv k) (hx:∀kk,x.ownBlock=some kk→B≤kk) (hw:∀z,z<k→∀kk,(iv z).ownBlock=some kk→kk<B):AP (fun z=>if z=k then x else iv z) (k+1):=by
 intro z z' h1 h2 kk e;have hz:¬z=k:=by omega
 simp only[if_neg hz] at e;by_cases hk:z'=k
 ·simp only[if_pos hk];intro e2;have a1:=hx kk e2;have a2:=hw z (by omega) kk e;omega
 simp only[if_neg hk];exact h z z' h1 (by omega) kk e
theorem AP.ne {iv:Nat→Value} {z z' k1 k2:Nat} (h:AP iv 8) (hz:z<8) (hz':z'<8) (hn:z≠z') (e1:(iv z).ownBlock=some k1) (e2:(iv z').ownBlock=some k2):k1≠k2:=by
 intro e;subst e;rcases Nat.lt_or_gt_of_ne hn with hh | hh
 ·exact h z z' hh hz' k1 e1 e2
 exact h z' z hh hz k1 e2 e1
set_option maxRecDepth 100000 in
set_option maxHeartbeats 4000000 in
theorem OL (D:Dv) (v:Value) (b:Nat) (w:World) (hd:Dev w b D v) :
  Calls Tryz.prog 103 #[.pointer (some ⟨b,0,none⟩)] w fun e w'=>∃iv,e=.returned (.agg (aa 10 (az iv (txt 500 (D.slot 0)) (txt 500 (D.slot 1)))).toArray)∧(∀z,z<8→w'.ownsRow w.heap.size 9 1 (iv z) (D.sure z) (fG (D.blk z) (D.sure z)))∧AP iv 8∧Since w w':=by
 have hbl:=hd.lt;have HD:Hid (Dev w b D v):=hd;clear hd;go_enter Tryz.func103,Tryz.ntmps103
 go_wp2_with fail
 refine(aW _ _).mono ?_;rintro e w' ⟨rfl,rfl⟩;go_wp2_with fail
 go_loopw [8] (fun i wr=>∃(k:Nat) (iv:Nat→Value),k≤8∧i=.int .i64 k∧ak wr (w.heap.size+1) 10 (az (mF iv k) ⟨#[]⟩ ⟨#[]⟩)∧ak wr w.heap.size 10 (az (mF iv 0) ⟨#[]⟩ ⟨#[]⟩)∧((∀z,z<k→wr.ownsRow (w.heap.size+2) 9 1 (iv z) (D.sure z) (fG (D.blk z) (D.sure z)))∧AP iv k)∧Since w wr∧w.heap.size+2≤wr.heap.size) (fun i _=>8-(intOf i).toNat)
 case atStart=>
  have hz:∀j,j<10→#[Value.slice none 0 0,.slice none 0 0,.slice none 0 0,.slice none 0 0,.slice none 0 0,.slice none 0 0,.slice none 0 0,.slice none 0 0,.string ⟨#[]⟩,.string ⟨#[]⟩][j]?=some (az (mF (fun _=>undef) 0) ⟨#[]⟩ ⟨#[]⟩ j):=by
   intro j hj
   match j,hj with
   | 0,_=>rfl
   | 1,_=>rfl
   | 2,_=>rfl
   | 3,_=>rfl
   | 4,_=>rfl
   | 5,_=>rfl
   | 6,_=>rfl
   | 7,_=>rfl
   | 8,_=>rfl
   | 9,_=>rfl
  exact⟨0,fun _=>undef,by omega,rfl,ak.new _ _ _ _ _ hz _ (by simp),(ak.new w _ _ _ _ hz _ rfl).since ((Since.refl _).alloc _),⟨fun z hz=>by omega,fun z z' h1 h2=>by omega⟩,((Since.refl _).alloc _).alloc _,by simp⟩
 obtain⟨k,iv,hk,rfl,hm,hr,⟨hrow,hap⟩,hS,hsz⟩:=hrel;have YS:Hid (AP iv k):=hap;clear hap;have HM:Hid (ak wr (w.heap.size+1) 10 (az (mF iv k) ⟨#[]⟩ ⟨#[]⟩)):=hm;have HR:Hid (ak wr w.heap.size 10 (az (mF iv 0) ⟨#[]⟩ ⟨#[]⟩)):=hr;have HW:Hid (∀z,z<k→wr.ownsRow (w.heap.size+2) 9 1 (iv z) (D.sure z) (fG (D.blk z) (D.sure z))):=hrow;have HS:Hid (Since w wr):=hS;by_cases hlt:k<8
 ·have hlt2:(k:Int)<8:=by omega
  clear hm hr hrow hS;go_wp2_with fail
  refine(xe D v b k _ (HD.out.since HS.out) hlt).mono ?_;rintro e w2 ⟨x,rfl,hx,hS2⟩;have hm2:=HM.out.since hS2;have c1:=hm2.cell k (by omega);have f1:=hm2.frozen k (by omega);have hx1:x.oneCell'=true∧∃xa xn xc,x=.slice xa xn xc:=by
   rcases hx.2 with⟨h,_⟩ | ⟨g,cap,cur,h,_⟩<;>subst h<;>exact⟨rfl,_,_,_,rfl⟩
  obtain⟨_,xa,xn,xc,rfl⟩:=hx1;have HX:Hid (w2.ownsRow wr.heap.size 9 1 (.slice xa xn xc) (D.sure k) (fG (D.blk k) (D.sure k))):=hx;have OE:Hid (ak w2 (w.heap.size+1) 10 (az (mF iv k) ⟨#[]⟩ ⟨#[]⟩)):=hm2;clear hm2 hx;go_wp2_with fail
  go_roundw
  case rel=>
   refine⟨k+1,fun z=>if z=k then .slice xa xn xc else iv z,by omega,by go_num,(OE.out.set k (by omega) _).congr (fun j hj=>?_),((HR.out.since hS2).other (by simp) _).congr (fun j hj=>rfl),⟨fun z hz=>?_,AP.step YS.out (fun kk e=>(HX.out.lt kk e).1) (fun z hz kk e=>((HW.out z hz).lt kk e).2)⟩,(HS.out.trans hS2).setCell (by simp) _,by have:=hS2.size;simp;omega⟩
   ·unfold aZ az mF;by_cases h1:j=k
    ·subst h1;dsimp only;rw[if_pos rfl,if_pos hlt,if_pos (by omega),if_pos rfl]
    rw[if_neg h1];by_cases h2:j<8
    ·rw[if_pos h2,if_pos h2];by_cases h3:j<k
     ·dsimp only;rw[if_pos h3,if_pos (by omega),if_neg h1]
     rw[if_neg h3,if_neg (by omega)]
    rw[if_neg h2,if_neg h2]
   by_cases h1:z=k
   ·subst h1;simp only[if_true];exact ownsRow_setCell_below (jc HX.out (by omega)) (by simp) _
   simp only[if_neg h1];exact ownsRow_setCell_below (iN (HW.out z (by omega)) hS2) (by simp) _
  case measure=>simp[intOf];omega
 have hke:k=8:=by omega
 subst hke;clear hm hr hrow hS;go_wp2_with fail
 have YR:∀j,j<8→mF iv 8 j=iv j:=fun j hj=>by unfold mF;rw[if_pos hj]
 have Xl:=dH wr b 16400 500 500 (D.slot 0) (fun i hi=>by rw[(HD.out.since HS.out).bL.cell _ (by omega)];exact congrArg some (il D v 0 i (by omega) hi));have c8:=HM.out.cell 8 (by omega);have f8:=HM.out.frozen 8 (by omega);refine wp_loop_rounds 3 ?_;rw[rounds_succ];go_wp2_with fail
 have hm1:=HM.out.set 8 (by omega) (.string (txt 500 (D.slot 0)));have hr1:=HR.out.other (a:=⟨w.heap.size+1,8,none⟩) (by simp) (.string (txt 500 (D.slot 0)));have hS1:=HS.out.setCell (p:=⟨w.heap.size+1,8,none⟩) (by simp) (.string (txt 500 (D.slot 0)));have hw1:∀z,z<8→(wr.setCell ⟨w.heap.size+1,8,none⟩ (.string (txt 500 (D.slot 0)))).ownsRow (w.heap.size+2) 9 1 (iv z) (D.sure z) (fG (D.blk z) (D.sure z)):=fun z hz=>ownsRow_setCell_below (HW.out z hz) (by simp) _
 generalize wr.setCell ⟨w.heap.size+1,8,none⟩ (.string (txt 500 (D.slot 0)))=w1 at *;have Xm:=dH w1 b 16900 500 500 (D.slot 1) (fun i hi=>by rw[(HD.out.since hS1).bL.cell _ (by omega)];exact congrArg some (il D v 1 i (by omega) hi));have c9:=hm1.cell 9 (by omega);have f9:=hm1.frozen 9 (by omega);have Bo:Hid (ak w1 (w.heap.size+1) 10 _):=hm1;have HR1:Hid (ak w1 w.heap.size 10 _):=hr1;have bY:Hid (Since w w1):=hS1;have HW1:Hid (∀z,z<8→w1.ownsRow (w.heap.size+2) 9 1 (iv z) (D.sure z) (fG (D.blk z) (D.sure z))):=hw1;clear hm1 hr1 hS1 hw1 Xl c8 f8;rw[rounds_succ];go_wp2_with fail
 have hm2:=Bo.out.set 9 (by omega) (.string (txt 500 (D.slot 1)));have hr2:=HR1.out.other (a:=⟨w.heap.size+1,9,none⟩) (by simp) (.string (txt 500 (D.slot 1)));have hS2:=bY.out.setCell (p:=⟨w.heap.size+1,9,none⟩) (by simp) (.string (txt 500 (D.slot 1)));have hw2:∀z,z<8→(w1.setCell ⟨w.heap.size+1,9,none⟩ (.string (txt 500 (D.slot 1)))).ownsRow (w.heap.size+2) 9 1 (iv z) (D.sure z) (fG (D.blk z) (D.sure z)):=fun z hz=>ownsRow_setCell_below (HW1.out z hz) (by simp) _
 generalize w1.setCell ⟨w.heap.size+1,9,none⟩ (.string (txt 500 (D.slot 1)))=w2 at *;have YK:ak w2 (w.heap.size+1) 10 (az iv (txt 500 (D.slot 0)) (txt 500 (D.slot 1))):=hm2.congr (fun j hj=>by
  unfold aZ az;by_cases h9:j=9
  ·subst h9;rfl
  rw[if_neg h9];by_cases h8:j=8
  ·subst h8;rfl
  rw[if_neg h8,if_pos (by omega),if_pos (by omega),YR j (by omega)])
 have hR:=YK.range 0 10 (by omega);simp only[Nat.zero_add] at hR;have OG:∀j,j<10→(az iv (txt 500 (D.slot 0)) (txt 500 (D.slot 1)) j).oneCell'=true:=fun j hj=>by
  unfold az;by_cases h:j<8
  ·rw[if_pos h];rcases (hw2 j h).2 with⟨e,_⟩ | ⟨g,cap,cur,e,_⟩<;>rw[e]<;>rfl
  rw[if_neg h];split<;>rfl
 have hst:=hr2.store Tryz.prog 0 10 (by omega) (az iv (txt 500 (D.slot 0)) (txt 500 (D.slot 1))) OG;have hL:(aa 10 (az iv (txt 500 (D.slot 0)) (txt 500 (D.slot 1)))).length=10:=ag _ _;have hr3:=(hr2.setRow 0 10 (by omega) (az iv (txt 500 (D.slot 0)) (txt 500 (D.slot 1)))).congr (g:=az iv (txt 500 (D.slot 0)) (txt 500 (D.slot 1))) (fun j hj=>by unfold dF;rw[if_pos (by omega)];rfl);have AR:=hr3.range 0 10 (by omega);simp only[Nat.zero_add] at AR;have HR3:Hid _:=AR;have iw:Hid (Since w _):=hS2.setCells (b:=w.heap.size) (by simp) (aa 10 (az iv (txt 500 (D.slot 0)) (txt 500 (D.slot 1)))) 0;have HW3:Hid (∀z,z<8→(w2.setCells w.heap.size 0 (aa 10 (az iv (txt 500 (D.slot 0)) (txt 500 (D.slot 1))))).ownsRow w.heap.size 9 1 (iv z) (D.sure z) (fG (D.blk z) (D.sure z))):=fun z hz=>
  jc (jD (hw2 z hz) (Fr.setCells w.heap.size none _ 0 w2) (fun e=>by have:=((hw2 z hz).lt _ e).1;omega) (by
   cases hv:(iv z).ownBlock with
   | none=>exact Or.inl rfl
   | some k=>exact Or.inr (by simp))) (by omega)
 clear hm2 hr2 hS2 hw2 YK OG hr3 AR Xm c9 f9;rw[rounds_succ];generalize hcs:aa 10 (az iv (txt 500 (D.slot 0)) (txt 500 (D.slot 1)))=cs at *;go_wp2_with (refine wpList_load_mid (by rfl) 75 _ (by rfl) (w.heap.size+1) 0 (by rfl) _ _ hR Tryz.underlying75 (by rfl) (by rw[hL];kernel_rfl) ?_)
 refine bodyPost_ret (aQ Tryz.results103 _ _ _ w.heap.size _ _ (by rfl) HR3.out Tryz.underlying75 (by rfl) (by rw[hL];kernel_rfl)) rfl ⟨iv,by rw[hcs],HW3.out,YS.out,iw.out⟩
end Go.Proofs.YtmhcfaaggkidjaaGreatDoor
end
