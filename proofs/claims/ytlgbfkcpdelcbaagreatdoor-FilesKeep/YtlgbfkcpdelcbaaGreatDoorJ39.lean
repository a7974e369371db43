import Derived.Deep.Upon
import Derived.Test.YtlgbfkcpdelcbaaGreatDoorJ20
import Derived.Test.YtlgbfkcpdelcbaaGreatDoorJ38
set_option linter.unusedSimpArgs false
set_option linter.unusedVariables false
set_option maxHeartbeats 8000000
set_option maxRecDepth 100000
namespace Go.Proofs.YtlgbfkcpdelcbaaGreatDoor
section
open Go.RowKit
structure Fs (S:Nat→Prop)(w w':World):Prop where
 os:w'.os=w.os
 tape:w'.tape=w.tape
 output:w'.output=w.output
 size:w.heap.size≤w'.heap.size
 block:∀k,k<w.heap.size→¬S k→w'.heap[k]?=w.heap[k]?
theorem Fs.trans {S:Nat→Prop}{w w' w'':World}(h:Fs S w w')(k:Fs S w' w''):Fs S w w'':=
 ⟨k.os.trans h.os,k.tape.trans h.tape,k.output.trans h.output,Nat.le_trans h.size k.size,fun j hj hs=>(k.block j (Nat.lt_of_lt_of_le hj h.size) hs).trans (h.block j hj hs)⟩
theorem Fs.ag {S:Nat→Prop}{w w':World}(h:Since w w'):Fs S w w':=⟨h.os,h.tape,h.output,h.size,fun k hk _=>h.block k hk⟩
theorem Fs.kU {S:Nat→Prop}{b:Nat}{g:Option Nat}{w w':World}(h:Fr b g w w')(hb:S b)(hg:∀k,g=some k→S k):Fs S w w':=
 ⟨h.os,h.tape,h.output,h.size,fun k hk hs=>h.block k hk (fun e=>hs (e▸hb)) (fun e=>hs (hg k e.symm))⟩
theorem Fs.EX {S:Nat→Prop}{g:Option Nat}{w w':World}(h:w.grownBy w' g)(hg:∀k,g=some k→S k):Fs S w w':=
 ⟨h.os,h.tape,h.output,h.size,fun k hk hs=>h.block k hk (fun e=>hs (hg k e.symm))⟩
theorem Fs.since {S:Nat→Prop}{a w w':World}(h:Fs S w w')(hs:Since a w)(hS:∀k,S k→a.heap.size≤k):Since a w':=
 Below.trans (show Below a.heap.size a w from hs) ⟨h.os,h.tape,h.output,h.size,fun k hk=>h.block k (Nat.lt_of_lt_of_le hk hs.size) (fun e=>by have:=hS k e;omega)⟩
theorem pV {w:World}{b1 b2 e1 e2 s1 s2 n1 n2:Nat}{v1 v2:Value}{x1 x2:List Value}(h1:w.ownsRow b1 e1 s1 v1 n1 x1)(h2:w.ownsRow b2 e2 s2 v2 n2 x2)(he:e1≠e2):v1.ownBlock=none∨v1.ownBlock≠v2.ownBlock:=by
 rcases h1.2 with⟨rfl,_⟩ | ⟨g1,c1,u1,rfl,_,hg1,_⟩
 ·exact Or.inl rfl
 right
 rcases h2.2 with⟨rfl,_⟩ | ⟨g2,c2,u2,rfl,_,hg2,_⟩
 ·simp[Value.ownBlock]
 intro e;simp only[Value.ownBlock,Option.some.injEq] at e;subst e;rw[hg1] at hg2;injection hg2 with hg2
 injection hg2 with _ h3
 exact he h3
theorem xC:(Tryz.prog.info? 3).map (fun i=>(i.zero,i.size,i.bytes))=some (some (.int .i64 0),1,8):=by kernel_rfl
theorem aA.grown {w w2:World}{b n:Nat}{g:Option Nat}{f:Nat→Value}(h:aA w b n f)(hg:w.grownBy w2 g)(hne:some b≠g):aA w2 b n f:=
 ⟨fun j hj=>by
   have hc:=h.cell j hj;rw[World.cell?_of_block (w:=w) (a:=⟨b,j,none⟩) (hg.block b (World.block_lt_of_cell? w _ hc) hne)];exact hc,fun j hj=>by
   have hc:=h.cell j hj;rw[World.frozen?_of_block (w:=w) (a:=⟨b,j,none⟩) (hg.block b (World.block_lt_of_cell? w _ hc) hne)];exact h.frozen j hj⟩
theorem Ref.a5b {w:World}{rb N:Nat}{D:Dv}{lv:Nat→Value}{av wv:Value}(h:Ref w rb N D lv av wv):some rb≠av.ownBlock:=fun e=>by have:=(h.at_.lt rb e.symm).1;have:=h.lt;omega
theorem Ref.XL {w:World}{rb N:Nat}{D:Dv}{lv:Nat→Value}{av wv:Value}(h:Ref w rb N D lv av wv):some rb≠wv.ownBlock:=fun e=>by have:=(h.what.lt rb e.symm).1;have:=h.lt;omega
theorem Um {w7 w2 w8 w4:World}{rb N k n g2 c2:Nat}{s:ByteArray}{D:Dv}{lv:Nat→Value}{av wv Ng:Value}(h:Ref w7 rb N D lv av wv)(hg1:w7.grownBy w2 av.ownBlock)(ho1:w2.ownsRow N 3 1 Ng (n+1) (QB D.ws++[.int .i64 k]))(hS:Since w2 w8)(hg2:w8.grownBy w4 wv.ownBlock)(ho2:w4.ownsRow N 9 1 (.slice (some ⟨g2,0,none⟩) (n+1) c2) (n+1) (lX D.ws++[.string (txt 500 (sb s))]))(hat:wv.ownBlock=some g2∨g2=w8.heap.size)(hn:n=D.ws.length) :
  Ref ((w4.setCell ⟨rb,18,none⟩ Ng).setCell ⟨rb,19,none⟩ (.slice (some ⟨g2,0,none⟩) (n+1) c2)) rb N (D.wrote k s) lv Ng (.slice (some ⟨g2,0,none⟩) (n+1) c2):=by
 subst hn;have hne:∀g:Option Nat,(∀j,g=some j→N≤j)→some rb≠g:=fun g hg e=>by have:=hg rb e.symm;have:=h.lt;omega
 have hc4:aA w4 rb 21 (bS D lv av wv):=by
  have a1:aA w2 rb 21 (bS D lv av wv):=⟨fun j hj=>by
   have hc:=h.aQ.cell j hj;rw[World.cell?_of_block (w:=w7) (a:=⟨rb,j,none⟩) (hg1.block rb (World.block_lt_of_cell? w7 _ hc) (hne _ (fun j e=>(h.at_.lt j e).1)))];exact hc,fun j hj=>by
   have hc:=h.aQ.cell j hj;rw[World.frozen?_of_block (w:=w7) (a:=⟨rb,j,none⟩) (hg1.block rb (World.block_lt_of_cell? w7 _ hc) (hne _ (fun j e=>(h.at_.lt j e).1)))];exact h.aQ.frozen j hj⟩
  have a2:=a1.since hS;exact⟨fun j hj=>by
   have hc:=a2.cell j hj;rw[World.cell?_of_block (w:=w8) (a:=⟨rb,j,none⟩) (hg2.block rb (World.block_lt_of_cell? w8 _ hc) (hne _ (fun j e=>(h.what.lt j e).1)))];exact hc,fun j hj=>by
   have hc:=a2.cell j hj;rw[World.frozen?_of_block (w:=w8) (a:=⟨rb,j,none⟩) (hg2.block rb (World.block_lt_of_cell? w8 _ hc) (hne _ (fun j e=>(h.what.lt j e).1)))];exact a2.frozen j hj⟩
 have hrow:∀z,z<8→w4.ownsRow N 9 1 (lv z) (D.cnt z) (lm (D.blk z) (D.cnt z)):=fun z hz=>
  (aP ((h.row z hz).kept hg1 (pV (h.row z hz) h.at_ (by decide))) hS).kept hg2 (h.apart z hz)
 have hw8:w8.ownsRow N 9 1 wv D.ws.length (lX D.ws):=aP (h.what.kept hg1 (pV h.what h.at_ (by decide))) hS;have a8d:w4.ownsRow N 3 1 Ng (D.ws.length+1) (QB D.ws++[.int .i64 k]):=(aP ho1 hS).kept hg2 (pV (aP ho1 hS) hw8 (by decide));have hlen:(D.wrote k s).ws.length=D.ws.length+1:=by show (D.ws++[(k,s)]).length=_;simp
 refine⟨?_,fun z hz=>?_,?_,?_,fun z hz=>?_,h.lt,?_⟩
 ·refine((hc4.set 18 (by omega) _).set 19 (by omega) _).congr (fun j hj=>?_);unfold aJ bS;by_cases e1:j=19
  ·subst e1;rfl
  rw[if_neg e1];by_cases e2:j=18
  ·subst e2;rfl
  rw[if_neg e2,if_neg e2,if_neg e2];split
  ·rfl
  split
  ·rfl
  split
  ·rfl
  split
  ·rfl
  first | (rw[if_neg e1,if_neg e1];rfl) | (rw[if_neg e1];rfl) | rfl
 ·exact ownsRow_setCell_below (ownsRow_setCell_below (hrow z hz) h.lt _) h.lt _
 ·rw[hlen,show QB (D.wrote k s).ws=QB D.ws++[.int .i64 k] by show QB (D.ws++[(k,s)])=_;simp[QB]];exact ownsRow_setCell_below (ownsRow_setCell_below a8d h.lt _) h.lt _
 ·rw[hlen,show lX (D.wrote k s).ws=lX D.ws++[.string (txt 500 (sb s))] by show lX (D.ws++[(k,s)])=_;simp[lX]];exact ownsRow_setCell_below (ownsRow_setCell_below ho2 h.lt _) h.lt _
 ·rcases hat with e | e
  ·rw[show (Value.slice (some ⟨g2,0,none⟩) (D.ws.length+1) c2).ownBlock=some g2 from rfl,←e];exact h.apart z hz
  cases hl:(lv z).ownBlock with
  | none=>exact Or.inl rfl
  | some q=>
   right
   intro e2;have e3:q=g2:=by simpa [Value.ownBlock] using e2
   have h1:=((h.row z hz).lt q hl).2;have h2:=hg1.size;have h3:=hS.size;omega
 have h1:=h.le;have h2:=hg1.size;have h3:=hS.size;have h4:=hg2.size;have:(((w4.setCell ⟨rb,18,none⟩ Ng).setCell ⟨rb,19,none⟩ (.slice (some ⟨g2,0,none⟩) (D.ws.length+1) c2))).heap.size=w4.heap.size:=by simp[World.setCell]
 omega
def PS (rb:Nat)(av wv:Value)(k:Nat):Prop:=k=rb∨av.ownBlock=some k∨wv.ownBlock=some k
theorem kI (D:Dv)(lv:Nat→Value)(av wv:Value)(rb N k:Nat)(s:ByteArray)(w:World)(hd:Ref w rb N D lv av wv)(hl:0≤D.left∧D.left≤9223372036854775807)(hk:k<2)(hs:s.size≤500)(hm:D.may=true)(hn:D.ws.length<1000) :
  Calls Tryz.prog 64 #[.pointer (some ⟨rb,0,none⟩),.int .i64 k,.string s] w fun e w'=>e=.returned (.int .i64 0)∧∃Ng wv',Ref w' rb N (D.ai.wrote k s) lv Ng wv'∧Fs (PS rb av wv) w w':=by
 have hh:=Cg hk;have hs2:(s.size:Int)≤500:=by omega
 have HD:=hid hd;clear hd;go_enter Tryz.func64,Tryz.ntmps64
 go_wp2_with fail
 refine(fu _ _ _ _).mono ?_;rintro e w' ⟨rfl,rfl⟩;rw[hh];go_wp2_with fail
 refine(iJ D lv av wv rb N _ HD.o hl).mono ?_;rintro e w1 ⟨rfl,_,h1⟩;obtain⟨hd1,hf1⟩:=h1 hm;rw[hm];have hwl:D.ai.ws.length+1≤1000:=by rw[lK];omega
 have HWL:=hid hwl;have Qv:Hid (Fs (PS rb av wv) w' w1):=Fs.kU hf1 (Or.inl rfl) (fun k e=>by cases e);have HD1:=hid hd1;generalize hDb:D.ai=E at *;have Ci:=hid hDb;clear h1 hd1 hf1 hwl hDb;go_wp2_with fail
 have c18:=HD1.o.aQ.cell 18 (by omega);have c19:=HD1.o.aQ.cell 19 (by omega);rw[yK] at c18;rw[qV] at c19;obtain⟨i0,hi,hz0,hz1,hz2⟩:=info_parts' xC;have HI:=hid (an hi (an hz0 (an hz1 hz2)));clear hi hz0 hz1 hz2;obtain⟨i1,hi,hz0,hz1,hz2⟩:=info_parts' zS;have HJ:=hid (an hi (an hz0 (an hz1 hz2)));clear hi hz0 hz1 hz2;have HD7:Hid (Ref (w1.drew.alloc (.cells #[.int .i64 (k:Int)] 3)) rb N E lv av wv):=HD1.o.since ((Since.refl _).drew.alloc _);have d18:(w1.alloc (.cells #[.int .i64 (k:Int)] 3)).cell? ⟨rb,18,none⟩=some av:=HD7.o.aQ.cell 18 (by omega);have d19:(w1.alloc (.cells #[.int .i64 (k:Int)] 3)).cell? ⟨rb,19,none⟩=some wv:=HD7.o.aQ.cell 19 (by omega);go_region_law (first
  | (refine step_append_lies _ (by rfl) (.tmp 20) (.tmp 22) 61 (by rfl) N 3 i0 _ 1 8 Tryz.underlying61 HI.o.1 HI.o.2.1 HI.o.2.2.1 HI.o.2.2.2 (by rfl) (by decide) av E.ws.length (QB E.ws) (by rfl) HD7.o.at_ ⟨w1.heap.size,0,none⟩ 1 1 [.int .i64 k] (by rfl) (by rfl) (World.news_of_block (heap_alloc_new w1.drew _)) (by simp[Value.oneCell']) (by decide) (by have:=HWL.o;unfold maxLen;omega) (by have:=HWL.o;omega) HD7.o.le (w1.heap.size+1) (by simp) ?_;intro g1 a8e w2 hown1 hgrow1 a8f hlt1;have pK:=hid hown1;have rq:=hid hgrow1;have nO:Hid (aA w2 rb 21 (bS E lv av wv)):=HD7.o.aQ.grown hgrow1 HD7.o.a5b;have e19:w2.cell? ⟨rb,19,none⟩=some wv:=nO.o.cell 19 (by omega);clear hown1 hgrow1 a8f hlt1)
  | (refine step_append_lies _ (by rfl) (.tmp 27) (.tmp 30) 65 (by rfl) N 9 i1 _ 1 16 Tryz.underlying65 HJ.o.1 HJ.o.2.1 HJ.o.2.2.1 HJ.o.2.2.2 (by rfl) (by decide) wv E.ws.length (lX E.ws) (by rfl) HW8.o ⟨w3.heap.size,0,none⟩ 1 1 [.string (txt 500 (sb s))] (by rfl) (by rfl) (World.news_of_block (heap_alloc_new w3 _)) (by simp[Value.oneCell']) (by decide) (by have:=HWL.o;unfold maxLen;omega) (by have:=HWL.o;omega) a8g.o (w3.heap.size+1) (by simp) ?_;intro g2 cap2 w4 hown2 hgrow2 XM hlt2;have Cb:=hid hown2;have HG2:=hid hgrow2;have a8h:=hid XM;have hc4:=(nO.o.since yL.o).grown hgrow2 HD7.o.XL;have k18:w4.cell? ⟨rb,18,none⟩=some av:=hc4.cell 18 (by omega);have k19:w4.cell? ⟨rb,19,none⟩=some wv:=hc4.cell 19 (by omega);have l18:=hc4.frozen 18 (by omega);have l19:=hc4.frozen 19 (by omega);clear hown2 hgrow2 XM hlt2 hc4)
  | (go_simp;go_at_call 130;refine(pu s 500 _ (by omega)).mono ?_;rintro e w3 ⟨rfl,bQ⟩;have yL:Hid (Since w2 (w3.alloc (.cells #[.string (txt 500 (sb s))] 9))):=Since.alloc bQ _;have HW8:Hid ((w3.alloc (.cells #[.string (txt 500 (sb s))] 9)).ownsRow N 9 1 wv E.ws.length (lX E.ws)):=aP (HD7.o.what.kept rq.o (pV HD7.o.what HD7.o.at_ (by decide))) yL.o;have a8g:Hid (N≤(w3.alloc (.cells #[.string (txt 500 (sb s))] 9)).heap.size):=Nat.le_trans HD7.o.le (Nat.le_trans rq.o.size yL.o.size);have m19:w3.cell? ⟨rb,19,none⟩=some wv:=(nO.o.since bQ).cell 19 (by omega);have n19:(w3.alloc (.cells #[.string (txt 500 (sb s))] 9)).cell? ⟨rb,19,none⟩=some wv:=(nO.o.since yL.o).cell 19 (by omega);dsimp only))
 all_goals
  go_wp2_with fail
  go_ret;refine⟨rfl,.slice (some ⟨g1,0,none⟩) (E.ws.length+1) a8e,.slice (some ⟨g2,0,none⟩) (E.ws.length+1) cap2,?_,?_⟩
  ·rw[Ci.o];exact Um HD7.o rq.o pK.o yL.o HG2.o Cb.o (by rcases a8h.o with h | h;exact Or.inl h;exact Or.inr (by rw[h];simp)) rfl
  exact(((((Qv.o.trans (Fs.ag ((Since.refl _).drew.alloc _))).trans (Fs.EX rq.o (fun j e=>Or.inr (Or.inl e)))).trans (Fs.ag yL.o)).trans (Fs.EX HG2.o (fun j e=>Or.inr (Or.inr e)))).trans (Fs.kU (Fr.setCell rb none 18 _ _) (Or.inl rfl) (fun k e=>by cases e))).trans (Fs.kU (Fr.setCell rb none 19 _ _) (Or.inl rfl) (fun k e=>by cases e))
end
section
open Go.RowKit
def Cj (l:Nat→ByteArray)(n:Nat):List Value:=(List.range n).map fun j=>.string (l j)
theorem EY (l:Nat→ByteArray)(n j:Nat)(hj:j<n):(Cj l n)[j]?=some (.string (l j)):=by simp[Cj,hj]
theorem uZ (l:Nat→ByteArray)(n:Nat):(Cj l n).length=n:=by simp[Cj]
theorem Un (l:Nat→ByteArray)(n:Nat):∀u ∈ Cj l n,u.oneCell'=true:=by
 intro u hu;simp only[Cj,List.mem_map] at hu;obtain⟨j,_,rfl⟩:=hu
 rfl
def Tx (w:World)(a:Option Addr)(n:Nat)(l:Nat→ByteArray):Prop:=0<n→∃k o,a=some ⟨k,o,none⟩∧∀j,j<n→w.cell? ⟨k,o+j,none⟩=some (.string (l j))
theorem Tx.since {w w':World}{a:Option Addr}{n:Nat}{l:Nat→ByteArray}(h:Tx w a n l)(hs:Since w w'):Tx w' a n l:=fun hn=>by
 obtain⟨k,o,ha,hc⟩:=h hn;exact⟨k,o,ha,fun j hj=>(hs.cell (p:=⟨k,o+j,none⟩) (World.block_lt_of_cell? w _ (hc j hj))).trans (hc j hj)⟩
theorem Tx.ll {w:World}{base n:Nat}{v:Value}{l:Nat→ByteArray}(h:w.ownsRow base 9 1 v n (Cj l n)):∃a c,v=.slice a n c∧n≤c∧Tx w a n l:=by
 rcases h.2 with⟨rfl,h0⟩ | ⟨g,cap,cur,rfl,hg,hh,h1,h2,h3,h4⟩
 ·exact⟨none,0,by rw[h0],by omega,fun hn=>by omega⟩
 refine⟨_,_,rfl,h1,fun _=>⟨g,0,rfl,fun j hj=>?_⟩⟩;have e:=EY l n j hj;rw[←h4,List.getElem?_take_of_lt (by omega),Array.getElem?_toList] at e;rw[Nat.zero_add];simp[World.cell?,hh,e]
theorem yM (w:World)(ty base g0:Nat)(a:Option Addr)(n c:Nat)(l:Nat→ByteArray)(hown:w.ownsRow base 9 1 (.slice (some ⟨g0,0,none⟩) 0 0) 0 [])(hx:Tx w a n l)(hn:n≤1000)(hbase:base≤w.heap.size) :
  ∃g cap w',(Builtin.append_ #[65,65] ty #[.slice (some ⟨g0,0,none⟩) 0 0,.slice a n c]).run Tryz.prog w=.ok (.slice (some ⟨g,0,none⟩) n cap) w'∧w'.ownsRow base 9 1 (.slice (some ⟨g,0,none⟩) n cap) n (Cj l n)∧w.grownBy w' (some g0)∧(g0=g∨g=w.heap.size):=by
 obtain⟨i0,hi,hz0,hz1,hz2⟩:=info_parts' zS;by_cases h0:n=0
 ·subst h0;refine⟨g0,0,w,?_,hown,⟨rfl,rfl,rfl,Nat.le_refl _,fun _ _ _=>rfl⟩,Or.inl rfl⟩;refine run_append_nothing w 65 65 ty 9 i0 Tryz.underlying65 hi _ 0 0 (Nat.le_refl _) _ ⟨Or.inl ⟨9,Tryz.underlying65⟩,fun w'=>?_,?_,?_,by simp,by simp⟩
  ·simp[Builtin.lenOf]
  ·cases a<;>simp[Builtin.firstCells,loadCells,loadCellsFrom]
  cases a<;>simp[Builtin.firstCells,loadCells,loadCellsFrom]
 obtain⟨k,o,rfl,hc⟩:=hx (by omega);obtain⟨g,cap,w',hr,h2,h3,h4,h5⟩:=run_append_lies (P:=Tryz.prog) w 65 ty base 9 i0 (.string ⟨#[]⟩) 1 16 Tryz.underlying65 hi hz0 hz1 hz2 rfl (by decide) (.slice (some ⟨g0,0,none⟩) 0 0) 0 [] hown ⟨k,o,none⟩ n c (Cj l n) (by rw[uZ];omega) (fun j u hu=>by
  have hj:j<n:=by have:=(List.getElem?_eq_some_iff.1 hu).1;rwa [uZ] at this
  rw[EY l n j hj] at hu;injection hu with hu
  subst hu;rw[Addr.add_mid];exact hc j hj) (Un l n) (by omega) (by unfold maxLen;omega) (by omega) hbase w.heap.size rfl
 rw[Nat.zero_add,List.nil_append] at h2;rw[Nat.zero_add] at hr;refine⟨g,cap,w',hr,h2,h3,?_⟩;rcases h4 with h4 | h4
 ·exact Or.inl (by simpa [Value.ownBlock] using h4)
 exact Or.inr h4
theorem sM {P:Program}{ops:Array Oper}{o:Oper}{a:Act}{w w':World}{K:Act→World→Prop}{Q:Exit→Act→World→Prop}{E:Prop}(hgd:o.guard=none)(s x:Operand)(t:TypeId)(vs vx r:Value)(ho:o.op=.call { callee:=.builtin .append,args:=#[s,x],argTypes:=#[t,t] })(hs:a.eval s=vs)(hx:a.eval x=vx)(hr:(Builtin.append_ #[t,t] o.type #[vs,vx]).run P w=.ok r w')(h:K (a.put o.dst r) w') :
  if Region.wanted o (yielded ops a.tmps)=true then Oper.wp P o a w K Q else E:=by
 have hw:Region.wanted o (yielded ops a.tmps)=true:=by simp[Region.wanted,hgd]
 rw[if_pos hw];unfold Oper.wp execOp;simp only[ho,resolve,invoke,builtin,Sem.run_bind,Sem.run_pure,Result.andThen_ok,List.map_toArray,List.map_cons,List.map_nil,hs,hx,hr];exact h
theorem XN (D:Dv)(lv:Nat→Value)(av wv:Value)(rb N z:Nat)(s:ByteArray)(w:World)(hd:Ref w rb N D lv av wv)(hz:z<8)(hs:s.size≤128)(hc:D.cnt z=16) :
  Calls Tryz.prog 133 #[.pointer (some ⟨rb,0,none⟩),.int .i64 z,.string s] w fun e w'=>e=.returned (.tuple #[.int .i64 0,.int .i64 12])∧w'=w:=by
 have hh:=ny hz;have hz2:(z:Int)<8:=by omega
 have hs2:¬(128:Int)<s.size:=by omega
 have c1:=hd.aQ.cell z (by omega);rw[ic _ _ _ _ z hz] at c1;obtain⟨a,c,e,_,_⟩:=Tx.ll (hd.row z hz);rw[e,hc] at c1;clear e hd hc;go_enter Tryz.func133,Tryz.ntmps133
 go_wp2_with fail
 refine(fu _ _ _ _).mono ?_;rintro e w' ⟨rfl,rfl⟩;rw[hh];go_wp2_with fail
 go_ret2;exact⟨rfl,rfl⟩
theorem zx (D:Dv)(lv:Nat→Value)(av wv:Value)(rb N z:Nat)(s:ByteArray)(w:World)(hd:Ref w rb N D lv av wv)(hl:0≤D.left∧D.left≤9223372036854775807)(hz:z<8)(hs:s.size≤128)(hc:D.cnt z<16)(hm:D.may=false) :
  Calls Tryz.prog 133 #[.pointer (some ⟨rb,0,none⟩),.int .i64 z,.string s] w fun e w'=>e=.returned (.tuple #[.int .i64 0,.int .i64 14])∧w'=w:=by
 have hh:=ny hz;have hz2:(z:Int)<8:=by omega
 have hs2:¬(128:Int)<s.size:=by omega
 have c1:=hd.aQ.cell z (by omega);rw[ic _ _ _ _ z hz] at c1;obtain⟨a,c,e,_,_⟩:=Tx.ll (hd.row z hz);rw[e] at c1;have HD:=hid hd;have hc2:¬(16:Int)≤D.cnt z:=by omega
 clear e hd;go_enter Tryz.func133,Tryz.ntmps133
 go_wp2_with fail
 refine(fu _ _ _ _).mono ?_;rintro e w' ⟨rfl,rfl⟩;rw[hh];go_wp2_with fail
 refine(iJ D lv av wv rb N _ HD.o hl).mono ?_;rintro e w1 ⟨rfl,h1,_⟩;obtain rfl:=h1 hm;rw[hm];go_wp2_with fail
 go_ret2;exact⟨rfl,rfl⟩
theorem Uo {w w5:World}{rb N z:Nat}{s:ByteArray}{D:Dv}{lv:Nat→Value}{av wv x:Value}(h:Ref w rb N D lv av wv)(hS:Since w w5)(hz:z<8)(hx:w5.ownsRow N 9 1 x (D.cnt z+1) (lm (D.blk z) (D.cnt z)++[.string (txt 128 (sb s))]))(hnew:∀k,x.ownBlock=some k→w.heap.size≤k) :
  Ref (w5.setCell ⟨rb,z,none⟩ x) rb N (D.app z s) (aJ lv z x) av wv where
 aQ:=by
  refine((h.aQ.since hS).set z (by omega) _).congr (fun j hj=>?_);unfold aJ bS;by_cases h2:j=z
  ·rw[if_pos h2,if_pos (by omega)];dsimp only;rw[if_pos h2]
  rw[if_neg h2];by_cases h3:j<8
  ·rw[if_pos h3,if_pos h3];dsimp only;rw[if_neg h2]
  rw[if_neg h3,if_neg h3]
  rfl
 row y hy:=by
  by_cases e:y=z
  ·subst e;have e1:(D.app y s).cnt y=D.cnt y+1:=by simp[Dv.app]
   have e2:lm ((D.app y s).blk y) (D.cnt y+1)=lm (D.blk y) (D.cnt y)++[.string (txt 128 (sb s))]:=by
    rw[Oo]
    congr 1
    ·unfold lm;exact List.map_congr_left (fun j hj=>by
      have hj2:=List.mem_range.1 hj;have:(D.app y s).blk y j=D.blk y j:=by funext i;simp[Dv.app,show ¬j=D.cnt y by omega]
      rw[this])
    have:(D.app y s).blk y (D.cnt y)=sb s:=by funext i;simp[Dv.app]
    rw[this]
   rw[e1,e2,show aJ lv y x y=x by unfold aJ;rw[if_pos rfl]];exact ownsRow_setCell_below hx h.lt _
  have e1:(D.app z s).cnt y=D.cnt y:=by simp[Dv.app,e]
  have e2:(D.app z s).blk y=D.blk y:=by funext k i;simp[Dv.app,e]
  rw[e1,e2,show aJ lv z x y=lv y by unfold aJ;rw[if_neg e]];exact ownsRow_setCell_below (aP (h.row y hy) hS) h.lt _
 at_:=ownsRow_setCell_below (aP h.at_ hS) h.lt _
 what:=ownsRow_setCell_below (aP h.what hS) h.lt _
 apart y hy:=by
  by_cases e:y=z
  ·subst e;rw[show aJ lv y x y=x by unfold aJ;rw[if_pos rfl]];cases hb:x.ownBlock with
   | none=>exact Or.inl rfl
   | some q=>
    right
    intro e2;have h1:=hnew q hb;have h2:=(h.what.lt q e2.symm).2;omega
  rw[show aJ lv z x y=lv y by unfold aJ;rw[if_neg e]];exact h.apart y hy
 lt:=h.lt
 le:=by have h1:=h.le;have h2:=hS.size;have:(w5.setCell ⟨rb,z,none⟩ x).heap.size=w5.heap.size:=(by simp[World.setCell]);omega
end
section
open Go.RowKit
theorem EZ (D:Dv)(lv:Nat→Value)(av wv:Value)(rb N z:Nat)(s:ByteArray)(w:World)(hd:Ref w rb N D lv av wv)(hl:0≤D.left∧D.left≤9223372036854775807)(hz:z<8)(hs:s.size≤128)(hc:D.cnt z<16)(hm:D.may=true) :
  Calls Tryz.prog 133 #[.pointer (some ⟨rb,0,none⟩),.int .i64 z,.string s] w fun e w'=>e=.returned (.tuple #[.int .i64 (D.cnt z),.int .i64 0])∧(∃dK,Ref w' rb N (D.ai.app z s) dK av wv)∧Fr rb none w w':=by
 have hh:=ny hz;have hz2:(z:Int)<8:=by omega
 have hs2:¬(128:Int)<s.size:=by omega
 have c1:=hd.aQ.cell z (by omega);rw[ic _ _ _ _ z hz] at c1;obtain⟨a,c,ea,_,_⟩:=Tx.ll (hd.row z hz);rw[ea] at c1;have HD:=hid hd;have hc2:¬(16:Int)≤D.cnt z:=by omega
 clear hd ea;go_enter Tryz.func133,Tryz.ntmps133
 go_wp2_with fail
 refine(fu _ _ _ _).mono ?_;rintro e w' ⟨rfl,rfl⟩;rw[hh];go_wp2_with fail
 refine(iJ D lv av wv rb N _ HD.o hl).mono ?_;rintro e w1 ⟨rfl,_,h1⟩;obtain⟨hd1,hf1⟩:=h1 hm;rw[hm];have Qv:=hid hf1;have HD1:=hid hd1;rw[show D.cnt z=D.ai.cnt z by rw[bF]] at hc hc2 c1 ⊢;clear h1 hd1 hf1 c1;have HDE:Hid (D.cnt z=D.ai.cnt z):=show D.cnt z=D.ai.cnt z by rw[bF]
 generalize hDb:D.ai=E at *;have Ci:=hid hDb;clear hDb;obtain⟨a,c,ea,_,hTx⟩:=Tx.ll (l:=fun j=>txt 128 (E.blk z j)) (HD1.o.row z hz);have c1:=HD1.o.aQ.cell z (by omega);rw[ic _ _ _ _ z hz,ea] at c1;have Ug:=hid hTx;have sU:Since w1 (w1.drew.alloc (.cells #[] 9)):=(Since.refl w1).drew.alloc _;have mH:=hid sU;have QC:Hid ((w1.drew.alloc (.cells #[] 9)).ownsRow w1.heap.size 9 1 (.slice (some ⟨w1.heap.size,0,none⟩) 0 0) 0 []):=World.ownsRow_lit (base:=w1.heap.size) w1.drew #[] 0 (Nat.le_refl _) (by unfold maxLen;omega) rfl;obtain⟨i1,hi,hz0,hz1,hz3⟩:=info_parts' zS;have HJ:=hid (an hi (an hz0 (an hz1 hz3)));have HC:=hid hc;have d1:(w1.alloc (.cells #[] 9)).cell? ⟨rb,z,none⟩=some (.slice a (E.cnt z) c):=by
  have:=(HD1.o.since mH.o).aQ.cell z (by omega);rw[ic _ _ _ _ z hz,ea] at this;exact this
 have HEA:=hid ea;clear hi hz0 hz1 hz3 hTx sU ea;go_wp2_with fail
 go_region_law (first
  | (obtain⟨g3,XO,w2,hr,ho,hg,hgg⟩:=yM (w1.drew.alloc (.cells #[] 9)) 65 w1.heap.size w1.heap.size a (E.cnt z) c _ QC.o (Ug.o.since mH.o) (by have:=HC.o;omega) mH.o.size;refine sM (by rfl) (.tmp 26) (.tmp 32) 65 _ _ _ (by rfl) (by rfl) (by rfl) hr ?_;have HO3:=hid ho;have HS2:Hid (Since w1 w2):=Below.grown mH.o hg mH.o.size (fun j hj=>by cases hj;exact Nat.le_refl _);clear hr ho hg hgg)
  | (refine step_append_lies _ (by rfl) (.tmp 33) (.tmp 36) 65 (by rfl) w1.heap.size 9 i1 _ 1 16 Tryz.underlying65 HJ.o.1 HJ.o.2.1 HJ.o.2.2.1 HJ.o.2.2.2 (by rfl) (by decide) _ (E.cnt z) (lm (E.blk z) (E.cnt z)) (by rfl) (aP HO3.o yL.o) ⟨w3.heap.size,0,none⟩ 1 1 [.string (txt 128 (sb s))] (by rfl) (by rfl) (World.news_of_block (heap_alloc_new w3 _)) (by simp[Value.oneCell']) (by decide) (by have:=HC.o;unfold maxLen;omega) (by have:=HC.o;omega) (Nat.le_trans HS2.o.size yL.o.size) (w3.heap.size+1) (by simp) ?_;intro g2 cap2 w4 hown2 hgrow2 XM hlt2;have Cb:=hid hown2;have fO:Hid (Since w1 w4):=Below.grown (HS2.o.trans yL.o) hgrow2 (Nat.le_trans HS2.o.size yL.o.size) (fun j hj=>(HO3.o.lt j hj).1);have hc4:=(HD1.o.since fO.o).aQ;have k1:=hc4.cell z (by omega);have l1:=hc4.frozen z (by omega);rw[ic _ _ _ _ z hz,HEA.o] at k1;clear hown2 hgrow2 XM hlt2 hc4)
  | (go_simp;go_at_call 130;refine(pu s 128 _ (by omega)).mono ?_;rintro e w3 ⟨rfl,bQ⟩;have yL:Hid (Since w2 (w3.alloc (.cells #[.string (txt 128 (sb s))] 9))):=Since.alloc bQ _;dsimp only))
 all_goals
  go_wp2_with fail
  go_ret2;rw[Ci.o,HDE.o];refine⟨by first | rfl | (congr 3;omega),⟨_,Uo HD1.o fO.o hz (rP Cb.o HD1.o.le) (fun k hk=>(Cb.o.lt k hk).1)⟩,(Qv.o.trans' (Fr.ag fO.o)).trans' (Fr.setCell _ _ _ _ _)⟩
end
section
open Go.RowKit
theorem eO {w:World}{base n:Nat}{e:TypeId}{v:Value}{xs:List Value}(h:w.ownsRow base e 1 v n xs):∃a c,v=.slice a n c∧n≤c∧(0<n→∃g,a=some ⟨g,0,none⟩∧base≤g∧∀j x,j<n→xs[j]?=some x→w.cell? ⟨g,j,none⟩=some x):=by
 rcases h.2 with⟨rfl,h0⟩ | ⟨g,cap,cur,rfl,hg,hh,h1,h2,h3,h4⟩
 ·exact⟨none,0,by rw[h0],by omega,fun hn=>by omega⟩
 refine⟨_,_,rfl,h1,fun _=>⟨g,rfl,hg,fun j x hj e=>?_⟩⟩;rw[←h4,List.getElem?_take_of_lt (by omega),Array.getElem?_toList] at e;simp[World.cell?,hh,e]
def Dv.eT (D:Dv)(k:Nat)(kept:Nat→Bool):Nat→ByteArray
 | 0=>txt 500 (D.slot k)
 | n+1=>if (D.ws.getD n (0,⟨#[]⟩)).1=k∧kept n=true then txt 500 (sb (D.ws.getD n (0,⟨#[]⟩)).2) else D.eT k kept n
theorem yN (D:Dv)(k:Nat)(kept:Nat→Bool):∀n,D.eT k kept n=match ((List.range n).map fun j=>item D.ws (n-1-j)).find? (hit k kept) with | some x=>txt 500 (sb x.2.2) | none=>txt 500 (D.slot k)
 | 0=>rfl
 | n+1=>by
  have e:(List.range (n+1)).map (fun j=>item D.ws (n+1-1-j))=item D.ws n::(List.range n).map (fun j=>item D.ws (n-1-j)):=by
   rw[List.range_succ_eq_map,List.map_cons,List.map_map]
   congr 1
   exact List.map_congr_left (fun j hj=>by
    show item D.ws (n+1-1-(j+1))=_
    rw[show n+1-1-(j+1)=n-1-j by omega])
  rw[e,List.find?_cons];unfold Dv.eT;by_cases hh:(D.ws.getD n (0,⟨#[]⟩)).1=k∧kept n=true
  ·have:hit k kept (item D.ws n)=true:=by unfold hit item;simp only[Bool.and_eq_true,beq_iff_eq];exact hh
   rw[if_pos hh,this]
   rfl
  have:hit k kept (item D.ws n)=false:=by
   cases hc:hit k kept (item D.ws n) with
   | false=>rfl
   | true=>
    unfold hit item at hc;simp only[Bool.and_eq_true,beq_iff_eq] at hc;exact absurd hc hh
  rw[if_neg hh,this];exact yN D k kept n
theorem qW (D:Dv)(k:Nat)(kept:Nat→Bool):D.eT k kept D.ws.length=txt 500 (D.aL k kept):=by
 rw[yN];unfold Dv.aL MC dn;split<;>(rename_i h;rw[h])
theorem Nh (ws:List (Nat × ByteArray))(j:Nat)(hj:j<ws.length):(QB ws)[j]?=some (.int .i64 ((ws.getD j (0,⟨#[]⟩)).1:Int)):=by
 simp[QB,List.getD_eq_getElem?_getD,List.getElem?_eq_getElem hj]
theorem AU (ws:List (Nat × ByteArray))(j:Nat)(hj:j<ws.length):(lX ws)[j]?=some (.string (txt 500 (sb (ws.getD j (0,⟨#[]⟩)).2))):=by
 simp[lX,List.getD_eq_getElem?_getD,List.getElem?_eq_getElem hj]
theorem yO (D:Dv)(lv:Nat→Value)(av wv:Value)(rb N k:Nat)(w:World)(hd:Ref w rb N D lv av wv)(hk:k<2)(hn:D.ws.length≤1000) :
  Calls Tryz.prog 146 #[.pointer (some ⟨rb,0,none⟩),.int .i64 k] w fun e w'=>e=.returned (.tuple #[.string (txt 500 (D.aL k (fun _=>true))),.int .i64 0])∧w'=w:=by
 have hh:=Cg hk;have hk2:(k:Int)<2:=by omega
 obtain⟨aa,ac,ea,_,ha⟩:=eO hd.at_;obtain⟨wa,wc,ew,_,hw⟩:=eO hd.what;have c1:=hd.aQ.cell (16+k) (by omega);rw[JS _ _ _ _ k hk] at c1;have c2:=hd.aQ.cell 18 (by omega);rw[yK,ea] at c2;have c3:=hd.aQ.cell 19 (by omega);rw[qV,ew] at c3;have HA:=hid ha;have HW:=hid hw;have HG:Hid (D.eT k (fun _=>true) D.ws.length=txt 500 (D.aL k (fun _=>true))):=qW D k _;clear hd ea ew ha hw;go_enter Tryz.func146,Tryz.ntmps146
 go_wp2_with fail
 refine(fu _ _ _ _).mono ?_;rintro e w' ⟨rfl,rfl⟩;rw[hh];go_wp2_with fail
 go_loopw [23,6] (fun i s wr=>∃n:Nat,n≤D.ws.length∧i=.int .i64 n∧s=.string (D.eT k (fun _=>true) n)∧wr=w') (fun i _ _=>D.ws.length-(intOf i).toNat)
 case atStart=>exact⟨0,by omega,rfl,rfl,rfl⟩
 obtain⟨n,hnl,rfl,rfl,rfl⟩:=hrel;by_cases hlt:n<D.ws.length
 ·have hlt2:(n:Int)<D.ws.length:=by omega
  obtain⟨ga,rfl,_,ha⟩:=HA.o (by omega);obtain⟨gw,rfl,_,hw⟩:=HW.o (by omega);have q1:=ha n _ hlt (Nh _ n hlt);have q2:=hw n _ hlt (AU _ n hlt);clear ha hw;by_cases he:(D.ws.getD n (0,⟨#[]⟩)).1=k
  ·rw[he] at q1;have HN:Hid (D.eT k (fun _=>true) (n+1)=txt 500 (sb (D.ws.getD n (0,⟨#[]⟩)).2)):=by
    show D.eT k (fun _=>true) (n+1)=_
    rw[Dv.eT,if_pos ⟨he,rfl⟩]
   generalize D.ws.getD n (0,⟨#[]⟩)=p at *;clear he;go_wp2_with fail
   go_roundw
   case rel=>exact⟨n+1,by omega,by go_num,by rw[HN.o],by first | rfl | trivial⟩
   case measure=>simp[intOf];omega
  have HN:Hid (D.eT k (fun _=>true) (n+1)=D.eT k (fun _=>true) n):=by
   show D.eT k (fun _=>true) (n+1)=_
   rw[Dv.eT,if_neg (fun h=>he h.1)]
  have he2:¬(((D.ws.getD n (0,⟨#[]⟩)).1:Nat):Int)=(k:Int):=by omega
  generalize D.ws.getD n (0,⟨#[]⟩)=p at *;clear he;go_wp2_with fail
  go_roundw
  case rel=>exact⟨n+1,by omega,by go_num,by rw[HN.o],by first | rfl | trivial⟩
  case measure=>simp[intOf];omega
 have hne:n=D.ws.length:=by omega
 subst hne;rw[HG.o];go_wp2_with fail
 go_ret2;exact⟨rfl,rfl⟩
end
section
open Go.RowKit
def Dv.dA (D:Dv)(kp:Nat→Nat)(k:Nat):Dv:={ D with cnt:=fun z=>if z<k then min (D.sure z+kp z) (D.cnt z) else D.cnt z,sure:=fun z=>if z<k then min (D.sure z+kp z) (D.cnt z) else D.sure z }
theorem Ni {w w5:World}{rb N k:Nat}{kp:Nat→Nat}{D:Dv}{lv:Nat→Value}{av wv x:Value}(h:Ref w rb N (D.dA kp k) lv av wv)(hF:Fr rb none w w5)(BP:aA w5 rb 21 (aJ (bS (D.dA kp k) lv av wv) k x))(hk:k<8)(hx:w5.ownsRow N 9 1 x (min (D.sure k+kp k) (D.cnt k)) (lm (D.blk k) (min (D.sure k+kp k) (D.cnt k))))(hnew:x=lv k∨∀j,x.ownBlock=some j→w.heap.size≤j) :
  Ref (w5.setCell ⟨rb,8+k,none⟩ (.int .i64 ((min (D.sure k+kp k) (D.cnt k):Nat):Int))) rb N (D.dA kp (k+1)) (aJ lv k x) av wv where
 aQ:=by
  refine(BP.set (8+k) (by omega) _).congr (fun j hj=>?_);unfold aJ bS;by_cases h1:j=8+k
  ·rw[if_pos h1,if_neg (by omega),if_pos (by omega)];have e:(D.dA kp (k+1)).sure (j-8)=min (D.sure k+kp k) (D.cnt k):=by
    rw[show j-8=k by omega];show (if k<k+1 then _ else _)=_
    rw[if_pos (by omega)]
   rw[e]
  rw[if_neg h1];by_cases h2:j=k
  ·rw[if_pos h2,if_pos (by omega)];dsimp only;rw[if_pos h2]
  rw[if_neg h2];by_cases h3:j<8
  ·rw[if_pos h3,if_pos h3];dsimp only;rw[if_neg h2]
  rw[if_neg h3,if_neg h3];by_cases h4:j<16
  ·rw[if_pos h4,if_pos h4];have e:(D.dA kp (k+1)).sure (j-8)=(D.dA kp k).sure (j-8):=by
    show (if j-8<k+1 then _ else _)=(if j-8<k then _ else _)
    by_cases h5:j-8<k
    ·rw[if_pos h5,if_pos (by omega)]
    rw[if_neg h5,if_neg (by omega)]
   rw[e]
  rw[if_neg h4,if_neg h4]
  rfl
 row y hy:=by
  by_cases e:y=k
  ·subst e;have e1:(D.dA kp (y+1)).cnt y=min (D.sure y+kp y) (D.cnt y):=by show (if y<y+1 then _ else _)=_;rw[if_pos (by omega)]
   rw[e1,show aJ lv y x y=x by unfold aJ;rw[if_pos rfl]];exact ownsRow_setCell_below hx h.lt _
  have e1:(D.dA kp (k+1)).cnt y=(D.dA kp k).cnt y:=by
   show (if y<k+1 then _ else _)=(if y<k then _ else _)
   by_cases h5:y<k
   ·rw[if_pos h5,if_pos (by omega)]
   rw[if_neg h5,if_neg (by omega)]
  rw[e1,show aJ lv k x y=lv y by unfold aJ;rw[if_neg e]];exact ownsRow_setCell_below (dh (h.row y hy) hF (jw (h.row y hy) h.lt) (jV _)) h.lt _
 at_:=ownsRow_setCell_below (dh h.at_ hF (jw h.at_ h.lt) (jV _)) h.lt _
 what:=ownsRow_setCell_below (dh h.what hF (jw h.what h.lt) (jV _)) h.lt _
 apart y hy:=by
  by_cases e:y=k
  ·subst e;rw[show aJ lv y x y=x by unfold aJ;rw[if_pos rfl]];rcases hnew with hnew | hnew
   ·rw[hnew];exact h.apart y hy
   cases hb:x.ownBlock with
   | none=>exact Or.inl rfl
   | some q=>
    right
    intro e2;have h1:=hnew q hb;have h2:=(h.what.lt q e2.symm).2;omega
  rw[show aJ lv k x y=lv y by unfold aJ;rw[if_neg e]];exact h.apart y hy
 lt:=h.lt
 le:=by
  have h1:=h.le;have h2:=hF.size;have:(w5.setCell ⟨rb,8+k,none⟩ (.int .i64 ((min (D.sure k+kp k) (D.cnt k):Nat):Int))).heap.size=w5.heap.size:=by simp[World.setCell]
  omega
theorem PP (f:Nat→Value)(k:Nat)(j:Nat):f j=aJ f k (f k) j:=by
 unfold aJ;by_cases h:j=k
 ·rw[if_pos h,h]
 rw[if_neg h]
def Dv.Uq (D:Dv)(kept:Nat→Bool)(n:Nat):Dv:={ D with slot:=fun k=>sb (D.eT k kept n) }
theorem uw (D:Dv)(k:Nat)(kept:Nat→Bool):∀n,txt 500 (sb (D.eT k kept n))=D.eT k kept n
 | 0=>pq (fun i hi=>ma 500 _ i hi)
 | n+1=>by
  unfold Dv.eT;split
  ·exact pq (fun i hi=>ma 500 _ i hi)
  exact uw D k kept n
theorem kr (D:Dv)(kept:Nat→Bool)(n:Nat)(lv:Nat→Value)(av wv:Value)(j:Nat):bS (D.Uq kept n) lv av wv j=if j=16 then .string (D.eT 0 kept n) else if j=17 then .string (D.eT 1 kept n) else bS D lv av wv j:=by
 unfold bS;by_cases h1:j<8
 ·rw[if_pos h1,if_pos h1,if_neg (by omega),if_neg (by omega)]
 rw[if_neg h1,if_neg h1];by_cases h2:j<16
 ·rw[if_pos h2,if_pos h2,if_neg (by omega),if_neg (by omega)];rfl
 rw[if_neg h2,if_neg h2];by_cases h3:j=16
 ·rw[if_pos h3,if_pos h3,←uw D 0 kept n];rfl
 rw[if_neg h3,if_neg h3,if_neg h3];by_cases h4:j=17
 ·rw[if_pos h4,if_pos h4,←uw D 1 kept n];rfl
 rw[if_neg h4,if_neg h4,if_neg h4];rfl
theorem Ur (D:Dv)(kept:Nat→Bool)(lv:Nat→Value)(av wv:Value)(j:Nat):bS D lv av wv j=bS (D.Uq kept 0) lv av wv j:=by
 rw[kr];by_cases h:j=16
 ·rw[if_pos h,h];rfl
 rw[if_neg h];by_cases h2:j=17
 ·rw[if_pos h2,h2];rfl
 rw[if_neg h2]
theorem Us (D:Dv)(kept:Nat→Bool)(n:Nat)(lv:Nat→Value)(av wv:Value)(hk:kept n=false)(j:Nat):bS (D.Uq kept n) lv av wv j=bS (D.Uq kept (n+1)) lv av wv j:=by
 have e:∀k,D.eT k kept (n+1)=D.eT k kept n:=fun k=>by rw[Dv.eT,if_neg (fun h=>by rw[hk] at h;exact absurd h.2 (by decide))]
 rw[kr,kr,e,e]
theorem XP (D:Dv)(kept:Nat→Bool)(n q:Nat)(lv:Nat→Value)(av wv:Value)(hk:kept n=true)(hq:(D.ws.getD n (0,⟨#[]⟩)).1=q)(hq2:q<2)(j:Nat):aJ (bS (D.Uq kept n) lv av wv) (16+q) (.string (txt 500 (sb (D.ws.getD n (0,⟨#[]⟩)).2))) j=bS (D.Uq kept (n+1)) lv av wv j:=by
 have e1:D.eT q kept (n+1)=txt 500 (sb (D.ws.getD n (0,⟨#[]⟩)).2):=by rw[Dv.eT,if_pos ⟨hq,hk⟩]
 have e2:∀k,k≠q→D.eT k kept (n+1)=D.eT k kept n:=fun k h=>by rw[Dv.eT,if_neg (fun h2=>h (by rw[←h2.1,hq]))]
 rw[kr];unfold aJ;rw[kr]
 match q,hq2 with
 | 0,_=>
  rw[e1,e2 1 (by decide)];by_cases h:j=16
  ·rw[if_pos h,if_pos h]
  rw[if_neg h,if_neg h,if_neg h]
 | 1,_=>
  rw[e1,e2 0 (by decide)];by_cases h:j=16
  ·rw[if_neg (by omega),if_pos h,if_pos h]
  rw[if_neg h,if_neg h];by_cases h2:j=17
  ·rw[if_pos (by omega),if_pos h2]
  rw[if_neg (by omega)];simp only[if_neg h2]
theorem Ut {w:World}{rb N:Nat}{D E:Dv}{kept:Nat→Bool}{lv:Nat→Value}{av wv:Value}(h:Ref w rb N (E.Uq kept E.ws.length) lv av wv)(he:E.aL 0 kept=D.aL 0 kept∧E.aL 1 kept=D.aL 1 kept) :
  Ref ((w.setCell ⟨rb,18,none⟩ (.slice none 0 0)).setCell ⟨rb,19,none⟩ (.slice none 0 0)) rb N (((E.fM 0 (D.aL 0 kept)).fM 1 (D.aL 1 kept)).none) lv (.slice none 0 0) (.slice none 0 0) where
 aQ:=by
  refine((h.aQ.set 18 (by omega) _).set 19 (by omega) _).congr (fun j hj=>?_);unfold aJ;by_cases e1:j=19
  ·subst e1;rfl
  rw[if_neg e1];by_cases e2:j=18
  ·subst e2;rfl
  rw[if_neg e2,kr,qW,qW,he.1,he.2];by_cases e3:j=16
  ·subst e3;rfl
  rw[if_neg e3];by_cases e4:j=17
  ·subst e4;rfl
  rw[if_neg e4];unfold bS;by_cases h1:j<8
  ·rw[if_pos h1,if_pos h1]
  rw[if_neg h1,if_neg h1];by_cases h2:j<16
  ·rw[if_pos h2,if_pos h2];rfl
  rw[if_neg h2,if_neg h2,if_neg e3,if_neg e3,if_neg e4,if_neg e4,if_neg e2,if_neg e2,if_neg e1,if_neg e1];rfl
 row z hz:=ownsRow_setCell_below (ownsRow_setCell_below (h.row z hz) h.lt _) h.lt _
 at_:=World.ownsRow_nil _ _ _ _
 what:=World.ownsRow_nil _ _ _ _
 apart z hz:=by
  cases hb:(lv z).ownBlock with
  | none=>exact Or.inl rfl
  | some q=>exact Or.inr (by simp[Value.ownBlock])
 lt:=h.lt
 le:=by have:=h.le;simpa [World.setCell] using this
theorem Fa (D:Dv)(lv:Nat→Value)(av wv:Value)(rb N fk fs:Nat)(ck cs:Array Value)(kp:Nat→Nat)(kept:Nat→Bool)(w:World)(hd:Ref w rb N D lv av wv)(hok:D.ok)(hek:∀args w,(callFunc fk args).run Tryz.prog w=.ok (.enter fk args) w)(hes:∀args w,(callFunc fs args).run Tryz.prog w=.ok (.enter fs args) w)(hk:∀(z:Nat) (W:World),z<8→Fr rb none w W→Calls Tryz.prog fk (#[.int .i64 z]++ck) W fun e W'=>e=.returned (.int .i64 (kp z:Int))∧W'=W)(Bj:∀z,kp z≤16)(hs:∀(i:Nat) (W:World),Fr rb none w W→Calls Tryz.prog fs (#[.int .i64 i]++cs) W fun e W'=>e=.returned (.bool (kept i))∧W'=W) :
  Calls Tryz.prog 77 #[.pointer (some ⟨rb,0,none⟩),.func (.func fk) #[] ck,.func (.func fs) #[] cs] w fun e w'=>e=.returned (.tuple #[])∧(∃dK,Ref w' rb N ((((D.dA kp 8).fM 0 (D.aL 0 kept)).fM 1 (D.aL 1 kept)).none) dK (.slice none 0 0) (.slice none 0 0))∧Fr rb none w w':=by
 have HD:Hid (Ref w rb N D lv av wv):=hd;have HK:Hid (∀(z:Nat) (W:World),z<8→Fr rb none w W→Calls Tryz.prog fk (#[.int .i64 z]++ck) W fun e W'=>e=.returned (.int .i64 (kp z:Int))∧W'=W):=hk;have HS:Hid (∀(i:Nat) (W:World),Fr rb none w W→Calls Tryz.prog fs (#[.int .i64 i]++cs) W fun e W'=>e=.returned (.bool (kept i))∧W'=W):=hs;have cO:Hid (D.ok):=hok;have a8j:Hid (∀z,kp z≤16):=Bj;clear hd hk hs hok Bj;go_enter Tryz.func77,Tryz.ntmps77
 go_wp2_with fail
 go_loopw [10] (fun i wr=>∃(k:Nat) (dK:Nat→Value),k≤8∧i=.int .i64 k∧Ref wr rb N (D.dA kp k) dK av wv∧Fr rb none w wr) (fun i _=>8-(intOf i).toNat)
 case atStart=>exact⟨0,lv,by omega,rfl,HD.o,Fr.refl _ _ _⟩
 obtain⟨k,dK,hk8,rfl,hr,hf⟩:=hrel;have HR:Hid (Ref wr rb N (D.dA kp k) dK av wv):=hr;have HF:Hid (Fr rb none w wr):=hf;clear hr hf;by_cases hlt:k<8
 ·have hlt2:(k:Int)<8:=by omega
  have c1:=HR.o.aQ.cell (8+k) (by omega);have e1:(D.dA kp k).sure k=D.sure k:=by show (if k<k then _ else _)=_;rw[if_neg (by omega)]
  rw[JR _ _ _ _ k hlt,e1] at c1;go_wp2_with fail
  go_region_with (refine(HK.o k _ hlt (HF.o.trans' (Fr.ag (Since.refl _).drew))).mono ?_;rintro e W' ⟨rfl,hW⟩;subst hW)
  all_goals
   have hkk:=a8j.o k;have a4e:D.sure k≤16:=Nat.le_trans (cO.o.sure k hlt) (cO.o.cnt k hlt);have hc16:=cO.o.cnt k hlt;have ec:(D.dA kp k).cnt k=D.cnt k:=by show (if k<k then _ else _)=_;rw[if_neg (by omega)]
   have hrow:=HR.o.row k hlt;rw[ec] at hrow;obtain⟨a,c,ea,hac,hTx⟩:=Tx.ll (l:=fun j=>txt 128 (D.blk k j)) hrow;have d1:=HR.o.aQ.cell k (by omega);have g1:=HR.o.aQ.frozen k (by omega);have g2:=HR.o.aQ.frozen (8+k) (by omega);rw[ic _ _ _ _ k hlt,ea] at d1;have HEA:Hid (dK k=.slice a (D.cnt k) c):=ea;have Ug:Hid (Tx wr a (D.cnt k) (fun j=>txt 128 (D.blk k j))):=hTx;have Px:Hid (wr.ownsRow N 9 1 (dK k) (D.cnt k) (lm (D.blk k) (D.cnt k))):=hrow;clear e1 ec ea hTx hrow;by_cases hcut:D.sure k+kp k<D.cnt k
   ·have YY:(D.sure k:Int)+(kp k:Int)<D.cnt k:=by omega
    have ht:((D.sure k:Int)+(kp k:Int)).toNat=D.sure k+kp k:=by omega
    have hcap:D.sure k+kp k≤c:=by omega
    obtain⟨m,hm⟩:∃m:Nat,m=D.sure k+kp k:=⟨_,rfl⟩
    have hm2:(D.sure k:Int)+(kp k:Int)=(m:Int):=by omega
    obtain⟨g,o,rfl,hTc⟩:=Ug.o (by omega);have HM:Hid (min (D.sure k+kp k) (D.cnt k)=m∧m≤16∧m<D.cnt k):=⟨by omega,by omega,by omega⟩
    have HTM:Hid (Tx wr (some ⟨g,o,none⟩) m (fun j=>txt 128 (D.blk k j))):=fun _=>⟨g,o,rfl,fun j hj=>hTc j (by omega)⟩
    have hmc:m≤c:=by omega
    have zW:Hid ((D.sure k:Int)+(kp k:Int)=(m:Int)):=hm2;clear hTc ht hcap hm hm2;go_wp2_with fail
    rw[zW.o];clear YY hcut;have mH:Hid (Since wr (wr.drew.drew.alloc (.cells #[] 9))):=((Since.refl wr).drew.drew).alloc _;have QC:Hid ((wr.drew.drew.alloc (.cells #[] 9)).ownsRow wr.heap.size 9 1 (.slice (some ⟨wr.heap.size,0,none⟩) 0 0) 0 []):=World.ownsRow_lit (base:=wr.heap.size) wr.drew.drew #[] 0 (Nat.le_refl _) (by unfold maxLen;omega) rfl;have d2:(wr.alloc (.cells #[] 9)).cell? ⟨rb,k,none⟩=some (.slice (some ⟨g,o,none⟩) (D.cnt k) c):=by
     have:=(HR.o.since mH.o).aQ.cell k (by omega);rw[ic _ _ _ _ k hlt,HEA.o] at this;exact this
    have hne1:¬8+k=k:=by omega
    have hne2:¬k=8+k:=by omega
    go_region_law (first
     | (obtain⟨g3,XO,w5,hr,ho,hg,hgg⟩:=yM (wr.drew.drew.alloc (.cells #[] 9)) 65 wr.heap.size wr.heap.size (some ⟨g,o,none⟩) m c _ QC.o (HTM.o.since mH.o) (by have:=HM.o;omega) mH.o.size;refine sM (by rfl) (.tmp 34) (.tmp 42) 65 _ _ _ (by rfl) (by rfl) (by rfl) hr ?_;have HO3:=hid ho;have HS2:Hid (Since wr w5):=Below.grown mH.o hg mH.o.size (fun j hj=>by cases hj;exact Nat.le_refl _);have BP:=(HR.o.since HS2.o).aQ;have k1:=BP.cell k (by omega);have l1:=BP.frozen k (by omega);have k2:=BP.cell (8+k) (by omega);have l2:=BP.frozen (8+k) (by omega);clear hr ho hg hgg BP))
    all_goals
     go_wp2_with fail
     go_region
     all_goals
      go_wp2_with fail
      go_roundw
      case rel=>
       refine⟨k+1,aJ dK k (.slice (some ⟨g3,0,none⟩) m XO),by omega,by go_num,?_,?_⟩
       ·have hh:=Ni (x:=.slice (some ⟨g3,0,none⟩) m XO) HR.o ((Fr.ag HS2.o).trans' (Fr.setCell rb none k w5 _)) ((HR.o.since HS2.o).aQ.set k (by omega) _) hlt (by rw[HM.o.1];exact ownsRow_setCell_below (rP HO3.o HR.o.le) HR.o.lt _) (Or.inr (fun j hj=>(HO3.o.lt j hj).1));rw[HM.o.1] at hh;first | exact hh | exact hh.since (Since.refl _).drew | exact(hh.since (Since.refl _).drew).since (Since.refl _).drew
       have hh:=((HF.o.trans' (Fr.ag HS2.o)).trans' (Fr.setCell rb none k w5 (.slice (some ⟨g3,0,none⟩) m XO))).trans' (Fr.setCell rb none (8+k) _ (.int .i64 ((m:Nat):Int)));first | exact hh | exact hh.trans' (Fr.ag (Since.refl _).drew) | exact(hh.trans' (Fr.ag (Since.refl _).drew)).trans' (Fr.ag (Since.refl _).drew)
      case measure=>simp[intOf];omega
   have YY:¬(D.sure k:Int)+(kp k:Int)<D.cnt k:=by omega
   have hmin:min (D.sure k+kp k) (D.cnt k)=D.cnt k:=by omega
   have a5e:Hid (min (D.sure k+kp k) (D.cnt k)=D.cnt k):=hmin;clear hmin;go_wp2_with fail
   go_region
   all_goals
    go_wp2_with fail
    go_roundw
    case rel=>
     refine⟨k+1,aJ dK k (dK k),by omega,by go_num,?_,?_⟩
     ·have hh:=Ni HR.o (Fr.refl _ _ _) (HR.o.aQ.congr (fun j _=>by rw[←ic (D.dA kp k) dK av wv k hlt];exact PP _ k j)) hlt (by rw[a5e.o];exact Px.o) (Or.inl rfl);rw[a5e.o] at hh;first | exact hh | exact hh.since (Since.refl _).drew | exact(hh.since (Since.refl _).drew).since (Since.refl _).drew
     have hh:=HF.o.trans' (Fr.setCell rb none (8+k) wr (.int .i64 ((D.cnt k:Nat):Int)));first | exact hh | exact hh.trans' (Fr.ag (Since.refl _).drew) | exact(hh.trans' (Fr.ag (Since.refl _).drew)).trans' (Fr.ag (Since.refl _).drew)
    case measure=>simp[intOf];omega
 have hke:8=k:=by omega
 subst hke;obtain⟨aa,ac,ea,_,ha⟩:=eO HR.o.at_;obtain⟨wa,wc,ew,_,hw⟩:=eO HR.o.what;subst ea;subst ew;have HA:Hid (0<(D.dA kp 8).ws.length→∃g,aa=some ⟨g,0,none⟩∧N≤g∧∀j x,j<(D.dA kp 8).ws.length→(QB (D.dA kp 8).ws)[j]?=some x→wr.cell? ⟨g,j,none⟩=some x):=ha;have HW:Hid (0<(D.dA kp 8).ws.length→∃g,wa=some ⟨g,0,none⟩∧N≤g∧∀j x,j<(D.dA kp 8).ws.length→(lX (D.dA kp 8).ws)[j]?=some x→wr.cell? ⟨g,j,none⟩=some x):=hw;have HWS:Hid (∀p ∈ (D.dA kp 8).ws,p.1<2∧p.2.size≤500):=cO.o.ws;have HFW:Hid ((D.dA kp 8).ws.length≤1000):=cO.o.few;have Pm:Hid ((D.dA kp 8).aL 0 kept=D.aL 0 kept∧(D.dA kp 8).aL 1 kept=D.aL 1 kept):=⟨rfl,rfl⟩
 have c18:=HR.o.aQ.cell 18 (by omega);rw[yK] at c18;have HR0:Hid (Ref wr rb N ((D.dA kp 8).Uq kept 0) dK (.slice aa (D.dA kp 8).ws.length ac) (.slice wa (D.dA kp 8).ws.length wc)):=HR.o.cells (Fr.refl _ _ _) (HR.o.aQ.congr (fun j _=>Ur _ kept _ _ _ j)) (fun _ _=>rfl) (fun _ _ _ _=>rfl) rfl;generalize hCE:D.dA kp 8=E at *;have Zy:Hid (D.dA kp 8=E):=hCE;clear hCE;clear ha hw HR HD HK hek;go_wp2_with fail
 clear c18;obtain⟨wq,hwq⟩:∃x,x=wr:=⟨wr,rfl⟩
 subst hwq;go_loopw [65] (fun i wr=>∃n:Nat,n≤E.ws.length∧i=.int .i64 n∧Ref wr rb N (E.Uq kept n) dK (.slice aa E.ws.length ac) (.slice wa E.ws.length wc)∧Fr rb none wq wr) (fun i _=>E.ws.length-(intOf i).toNat)
 case atStart=>exact⟨0,by omega,rfl,HR0.o,Fr.refl _ _ _⟩
 obtain⟨n,hnl,rfl,hr,hf⟩:=hrel;have HR:Hid (Ref wr rb N (E.Uq kept n) dK (.slice aa E.ws.length ac) (.slice wa E.ws.length wc)):=hr;have lh:Hid (Fr rb none wq wr):=hf;clear hr hf;by_cases hlt:n<E.ws.length
 ·have hlt2:(n:Int)<E.ws.length:=by omega
  obtain⟨ga,rfl,hga,ha⟩:=HA.o (by omega);obtain⟨gw,rfl,hgw,hw⟩:=HW.o (by omega);have b4p:=HR.o.lt;have hfw:=HFW.o;have q1:=ha n _ hlt (Nh _ n hlt);have q2:=hw n _ hlt (AU _ n hlt)
  replace q1:=(lh.o.cell (p:=⟨ga,n,none⟩) (World.block_lt_of_cell? wq _ q1) (by show ga≠rb;omega) (by simp)).trans q1
  replace q2:=(lh.o.cell (p:=⟨gw,n,none⟩) (World.block_lt_of_cell? wq _ q2) (by show gw≠rb;omega) (by simp)).trans q2
  have hq2:=(HWS.o (E.ws.getD n (0,⟨#[]⟩)) (by rw[List.getD_eq_getElem?_getD,List.getElem?_eq_getElem hlt];exact List.getElem_mem hlt)).1;obtain⟨q,hq⟩:∃q,(E.ws.getD n (0,⟨#[]⟩)).1=q:=⟨_,rfl⟩
  rw[hq] at q1 hq2;have HQ:Hid ((E.ws.getD n (0,⟨#[]⟩)).1=q):=hq;have hq3:(q:Int)<2:=by omega
  clear ha hw hq hga hgw;go_wp2_with fail
  refine(HS.o n _ (HF.o.trans' lh.o)).mono ?_;rintro e W' ⟨rfl,hW⟩;subst hW;cases hkn:kept n with
  | false=>
   go_wp2_with fail
   go_roundw
   case rel=>(repeat apply Exists.intro);exact⟨⟨n+1,by omega,by go_num,HR.o.cells (Fr.refl _ _ _) (HR.o.aQ.congr (fun j _=>Us E kept n _ _ _ hkn j)) (fun _ _=>rfl) (fun _ _ _ _=>rfl) rfl,lh.o⟩,rfl⟩
   case measure=>simp[intOf];omega
  | true=>
   have c19:=HR.o.aQ.cell 19 (by omega);rw[qV] at c19;have c16:=HR.o.aQ.cell (16+q) (by omega);have f16:=HR.o.aQ.frozen (16+q) (by omega);have HRN:Hid (Ref _ rb N (E.Uq kept (n+1)) dK (.slice (some ⟨ga,0,none⟩) E.ws.length ac) (.slice (some ⟨gw,0,none⟩) E.ws.length wc)):=HR.o.cells (Fr.setCell rb none (16+q) W' (.string (txt 500 (sb (E.ws.getD n (0,⟨#[]⟩)).2)))) ((HR.o.aQ.set (16+q) (by omega) _).congr (fun j _=>XP E kept n q _ _ _ hkn HQ.o hq2 j)) (fun _ _=>rfl) (fun _ _ _ _=>rfl) rfl;have HFN:Hid (Fr rb none wq (W'.setCell ⟨rb,16+q,none⟩ (.string (txt 500 (sb (E.ws.getD n (0,⟨#[]⟩)).2))))):=lh.o.trans' (Fr.setCell _ _ _ _ _);generalize (E.ws.getD n (0,⟨#[]⟩)).2=tx at *;go_wp2_with fail
   go_region
   all_goals
    go_wp2_with fail
    go_roundw
    case rel=>
     (repeat apply Exists.intro)
     refine⟨⟨n+1,by omega,by go_num,?_,?_⟩,rfl⟩
     ·first | exact HRN.o | exact HRN.o.since (Since.refl _).drew
     first | exact HFN.o | exact HFN.o.trans' (Fr.ag (Since.refl _).drew)
    case measure=>simp[intOf];omega
 have hne:n=E.ws.length:=by omega
 subst hne;have k18:=HR.o.aQ.cell 18 (by omega);have l18:=HR.o.aQ.frozen 18 (by omega);have k19:=HR.o.aQ.cell 19 (by omega);have l19:=HR.o.aQ.frozen 19 (by omega);go_wp2_with fail
 go_end0
 rw[Zy.o];exact⟨rfl,⟨dK,Ut HR.o Pm.o⟩,((HF.o.trans' lh.o).trans' (Fr.setCell _ _ _ _ _)).trans' (Fr.setCell _ _ _ _ _)⟩
end
section
open Go.RowKit
theorem Ref.same {w:World}{rb N:Nat}{D D':Dv}{lv:Nat→Value}{av wv:Value}(h:Ref w rb N D lv av wv)(h1:∀z,z<8→D'.cnt z=D.cnt z)(h2:∀z j,z<8→j<D.cnt z→D'.blk z j=D.blk z j)(h3:D'.ws=D.ws)(h4:∀z,z<8→D'.sure z=D.sure z)(h5:D'.slot 0=D.slot 0∧D'.slot 1=D.slot 1)(h6:D'.fz=D.fz):Ref w rb N D' lv av wv:=by
 refine h.turn (h.aQ.congr (fun j hj=>?_)) h1 h2 h3;unfold bS;rw[h5.1,h5.2,h6];by_cases a:j<8
 ·rw[if_pos a,if_pos a]
 rw[if_neg a,if_neg a];by_cases b:j<16
 ·rw[if_pos b,if_pos b,h4 (j-8) (by omega)]
 rw[if_neg b,if_neg b]
theorem PQ (z:Int)(w:World):Calls Tryz.prog 128 #[.int .i64 z] w fun e w'=>e=.returned (.int .i64 ((16:Nat):Int))∧w'=w:=by
 go_enter Tryz.func128,Tryz.ntmps128
 go_wp2_with fail
 go_ret;exact⟨rfl,rfl⟩
theorem PR (z:Int)(w:World):Calls Tryz.prog 129 #[.int .i64 z] w fun e w'=>e=.returned (.bool true)∧w'=w:=by
 go_enter Tryz.func129,Tryz.ntmps129
 go_wp2_with fail
 go_ret;exact⟨rfl,rfl⟩
theorem Fb (D:Dv)(lv:Nat→Value)(av wv:Value)(rb N:Nat)(w:World)(hd:Ref w rb N D lv av wv)(hl:0≤D.left∧D.left≤9223372036854775807)(hm:D.may=false) :
  Calls Tryz.prog 63 #[.pointer (some ⟨rb,0,none⟩)] w fun e w'=>e=.returned (.int .i64 14)∧w'=w:=by
 go_enter Tryz.func63,Tryz.ntmps63
 go_wp2_with fail
 refine(iJ D lv av wv rb N _ hd hl).mono ?_;rintro e w1 ⟨rfl,h1,_⟩;obtain rfl:=h1 hm;rw[hm];go_wp2_with fail
 go_ret;exact⟨rfl,rfl⟩
theorem oU (D:Dv)(h:D.ok)(hm:D.may=true):D.ai.ok:=by
 unfold Dv.ai;by_cases hf:D.fused=true
 ·rw[if_pos hf];have h0:D.left≠0:=by
   intro e;unfold Dv.may at hm;rw[hf,e] at hm;exact absurd hm (by decide)
  exact⟨h.cnt,h.sure,h.zero,by show 0≤D.left-1∧D.left-1≤_;have:=h.left;omega,h.ws,h.few⟩
 rw[if_neg hf];exact h
theorem PU (D:Dv)(lv:Nat→Value)(av wv:Value)(rb N:Nat)(w:World)(hd:Ref w rb N D lv av wv)(hok:D.ok)(hm:D.may=true) :
  Calls Tryz.prog 63 #[.pointer (some ⟨rb,0,none⟩)] w fun e w'=>e=.returned (.int .i64 0)∧(∃dK,Ref w' rb N D.ai.synced dK (.slice none 0 0) (.slice none 0 0))∧Fr rb none w w':=by
 have HD:=hid hd;clear hd;go_enter Tryz.func63,Tryz.ntmps63
 go_wp2_with fail
 refine(iJ D lv av wv rb N _ HD.o hok.left).mono ?_;rintro e w1 ⟨rfl,_,h1⟩;obtain⟨hd1,hf1⟩:=h1 hm;have hok1:=oU D hok hm;rw[hm];have HD1:=hid hd1;have Qv:=hid hf1;clear h1 hd1 hf1;go_wp2_with fail
 refine(Fa D.ai lv av wv rb N 128 129 #[] #[] (fun _=>16) (fun _=>true) _ HD1.o hok1 (enters_of Tryz.func128 (by kernel_rfl) rfl) (enters_of Tryz.func129 (by kernel_rfl) rfl) (fun z W _ _=>PQ z W) (fun _=>Nat.le_refl _) (fun i W _=>PR i W)).mono ?_;rintro e w2 ⟨rfl,⟨dK,hr2⟩,hf2⟩;have HR2:Hid (Ref w2 rb N D.ai.synced dK (.slice none 0 0) (.slice none 0 0)):=by
  refine hr2.same (fun z hz=>?_) (fun z j hz hj=>rfl) rfl (fun z hz=>?_) ⟨rfl,rfl⟩ rfl
  ·show D.ai.cnt z=(if z<8 then min (D.ai.sure z+16) (D.ai.cnt z) else _)
   rw[if_pos hz];have:=hok1.cnt z hz;omega
  show (if z<8 then D.ai.cnt z else _)=(if z<8 then min (D.ai.sure z+16) (D.ai.cnt z) else _)
  rw[if_pos hz,if_pos hz];have:=hok1.cnt z hz;omega
 clear hr2;go_wp2_with fail
 go_ret;exact⟨rfl,⟨dK,HR2.o⟩,Qv.o.trans' hf2⟩
def qb (nk:Nat)(ks:Nat→Int)(z:Nat):Nat:=(min (max (fZ nk ks z) 0) 16).toNat
theorem XQ (nk:Nat)(ks:Nat→Int)(z:Nat):qb nk ks z≤16:=by unfold qb;omega
theorem Uu (b B nk z:Nat)(v:Value)(ks:Nat→Int)(w:World)(hB:w.cell? ⟨B,0,none⟩=some v)(hs:Sl w b v nk (fun j=>.int .i64 (ks j)))(hz:z<8) :
  Calls Tryz.prog 78 #[.int .i64 z,.pointer (some ⟨B,0,none⟩)] w fun e w'=>e=.returned (.int .i64 (qb nk ks z:Int))∧w'=w:=by
 obtain⟨a,c,rfl,hs⟩:=hs;by_cases h:z<nk
 ·obtain⟨k,o,rfl,_,hc⟩:=hs (by omega);have c1:=hc z h;have h2:¬(nk:Int)≤z:=by omega
  have h2':(z:Int)<nk:=by omega
  have hkp:(qb nk ks z:Int)=min (max (ks z) 0) 16:=by unfold qb fZ;rw[if_pos h];omega
  have HKP:=hid hkp;clear hc hs hkp;by_cases h0:ks z<0
  ·go_enter Tryz.func78,Tryz.ntmps78
   go_wp2_with fail
   go_ret;exact⟨by rw[HKP.o,show min (max (ks z) 0) 16=0 by omega];rfl,rfl⟩
  by_cases h16:16<ks z
  ·go_enter Tryz.func78,Tryz.ntmps78
   go_wp2_with fail
   go_ret;exact⟨by rw[HKP.o,show min (max (ks z) 0) 16=16 by omega];rfl,rfl⟩
  go_enter Tryz.func78,Tryz.ntmps78
  go_wp2_with fail
  go_ret;exact⟨by rw[HKP.o,show min (max (ks z) 0) 16=ks z by omega];rfl,rfl⟩
 have h2:(nk:Int)≤z:=by omega
 have hkp:qb nk ks z=0:=by unfold qb fZ;rw[if_neg h];rfl
 rw[hkp];clear hs hkp;go_enter Tryz.func78,Tryz.ntmps78
 go_wp2_with fail
 go_ret;exact⟨rfl,rfl⟩
theorem Uv (b B n i:Nat)(v:Value)(sl:Nat→Bool)(w:World)(hB:w.cell? ⟨B,0,none⟩=some v)(hs:Sl w b v n (fun j=>.bool (sl j))) :
  Calls Tryz.prog 79 #[.int .i64 i,.pointer (some ⟨B,0,none⟩)] w fun e w'=>e=.returned (.bool (jf n sl i))∧w'=w:=by
 obtain⟨a,c,rfl,hs⟩:=hs;unfold jf;by_cases h:i<n
 ·obtain⟨k,o,rfl,_,hc⟩:=hs (by omega);have c1:=hc i h;have h2:(i:Int)<n:=by omega
  rw[decide_eq_true h,Bool.true_and];clear hc hs;go_enter Tryz.func79,Tryz.ntmps79
  go_wp2_with fail
  go_ret;exact⟨rfl,rfl⟩
 have h2:¬(i:Int)<n:=by omega
 rw[decide_eq_false h,Bool.false_and];clear hs;go_enter Tryz.func79,Tryz.ntmps79
 go_wp2_with fail
 go_ret;exact⟨rfl,rfl⟩
theorem JY (D:Dv)(lv:Nat→Value)(av wv:Value)(rb N nk ns:Nat)(kv sv:Value)(ks:Nat→Int)(sl:Nat→Bool)(w:World)(hd:Ref w rb N D lv av wv)(hok:D.ok)(hk:Sl w rb kv nk (fun j=>.int .i64 (ks j)))(hs:Sl w rb sv ns (fun j=>.bool (sl j))) :
  Calls Tryz.prog 20 #[.pointer (some ⟨rb,0,none⟩),kv,sv] w fun e w'=>e=.returned (.tuple #[])∧(∃dK,Ref w' rb N (D.bZ nk ks ns sl) dK (.slice none 0 0) (.slice none 0 0))∧Fr rb none w w':=by
 obtain⟨a1,c1,rfl,hk1⟩:=hk;obtain⟨a2,c2,rfl,hs1⟩:=hs;have HKS:Hid (Sl w rb (.slice a1 nk c1) nk (fun j=>.int .i64 (ks j))):=⟨a1,c1,rfl,hk1⟩
 have kQ:Hid (Sl w rb (.slice a2 ns c2) ns (fun j=>.bool (sl j))):=⟨a2,c2,rfl,hs1⟩
 have HD:=hid hd;have cO:=hid hok;have b4r:rb<w.heap.size:=hd.aQ.lt (by omega);clear hd hk1 hs1 hok;go_enter Tryz.func20,Tryz.ntmps20
 go_wp2_with fail
 have hS0:=((Since.refl w).alloc (.cells #[.slice a1 nk c1] 61)).alloc (.cells #[.slice a2 ns c2] 62);have b1:((w.alloc (.cells #[.slice a1 nk c1] 61)).alloc (.cells #[.slice a2 ns c2] 62)).cell? ⟨w.heap.size,0,none⟩=some (.slice a1 nk c1):=by
  rw[World.cell?_alloc_lt _ _ ⟨w.heap.size,0,none⟩ (by simp)];simp
 have b2:((w.alloc (.cells #[.slice a1 nk c1] 61)).alloc (.cells #[.slice a2 ns c2] 62)).cell? ⟨w.heap.size+1,0,none⟩=some (.slice a2 ns c2):=by
  rw[World.cell?_alloc_at _ _ _ _ (by simp)];rfl
 generalize (w.alloc (.cells #[.slice a1 nk c1] 61)).alloc (.cells #[.slice a2 ns c2] 62)=w0 at *;have HB1:=hid b1;have HB2:=hid b2;have qI:=hid hS0;clear b1 b2 hS0;refine(Fa D lv av wv rb N 78 79 #[.pointer (some ⟨w.heap.size,0,none⟩)] #[.pointer (some ⟨w.heap.size+1,0,none⟩)] (qb nk ks) (jf ns sl) _ (HD.o.since qI.o) cO.o (enters_of Tryz.func78 (by kernel_rfl) rfl) (enters_of Tryz.func79 (by kernel_rfl) rfl)
  (fun z W hz hf=>Uu rb w.heap.size nk z _ ks W ((hf.cell (p:=⟨w.heap.size,0,none⟩) (World.block_lt_of_cell? w0 _ HB1.o) (by show w.heap.size≠rb;omega) (by simp)).trans HB1.o) ((HKS.o.fr (Fr.ag qI.o)).fr hf) hz) (XQ nk ks)
  (fun i W hf=>Uv rb (w.heap.size+1) ns i _ sl W ((hf.cell (p:=⟨w.heap.size+1,0,none⟩) (World.block_lt_of_cell? w0 _ HB2.o) (by show w.heap.size+1≠rb;omega) (by simp)).trans HB2.o) ((kQ.o.fr (Fr.ag qI.o)).fr hf))).mono ?_
 rintro e w2 ⟨rfl,⟨dK,hr2⟩,hf2⟩;have k1:=hr2.aQ.cell 20 (by omega);have l1:=hr2.aQ.frozen 20 (by omega);have HR3:Hid (Ref (w2.setCell ⟨rb,20,none⟩ (.int .i64 (-1))) rb N (D.bZ nk ks ns sl) dK (.slice none 0 0) (.slice none 0 0)):=by
  have h3:Ref (w2.setCell ⟨rb,20,none⟩ (.int .i64 (-1))) rb N (((((D.dA (qb nk ks) 8).fM 0 (D.aL 0 (jf ns sl))).fM 1 (D.aL 1 (jf ns sl))).none).nL (-1)) dK (.slice none 0 0) (.slice none 0 0):=
   hr2.cells (Fr.setCell _ _ _ _ _) ((hr2.aQ.set 20 (by omega) _).congr (fun j hj=>nu ((((D.dA (qb nk ks) 8).fM 0 (D.aL 0 (jf ns sl))).fM 1 (D.aL 1 (jf ns sl))).none) (((((D.dA (qb nk ks) 8).fM 0 (D.aL 0 (jf ns sl))).fM 1 (D.aL 1 (jf ns sl))).none).nL (-1)) _ _ _ rfl rfl j hj)) (fun _ _=>rfl) (fun _ _ _ _=>rfl) rfl
  have hcut:∀z,z<8→dQ (D.cnt z) (D.sure z) (fZ nk ks z)=min (D.sure z+qb nk ks z) (D.cnt z):=fun z hz=>by
   have h1:=cO.o.cnt z hz;have h2:=cO.o.sure z hz;unfold dQ qb;omega
  refine h3.same (fun z hz=>?_) (fun z j hz hj=>?_) rfl (fun z hz=>?_) ⟨rfl,rfl⟩ rfl
  ·show (if z<8 then dQ (D.cnt z) (D.sure z) (fZ nk ks z) else _)=(if z<8 then min (D.sure z+qb nk ks z) (D.cnt z) else _)
   rw[if_pos hz,if_pos hz,hcut z hz]
  ·have hj':j<(if z<8 then min (D.sure z+qb nk ks z) (D.cnt z) else D.cnt z):=hj;rw[if_pos hz,←hcut z hz] at hj'
   funext i
   show (if z<8∧dQ (D.cnt z) (D.sure z) (fZ nk ks z)≤j then 0 else D.blk z j i)=D.blk z j i
   rw[if_neg (by omega)]
  show (if z<8 then dQ (D.cnt z) (D.sure z) (fZ nk ks z) else _)=(if z<8 then min (D.sure z+qb nk ks z) (D.cnt z) else _)
  rw[if_pos hz,if_pos hz,hcut z hz]
 have lh:Hid (Fr rb none w2 (w2.setCell ⟨rb,20,none⟩ (.int .i64 (-1)))):=Fr.setCell _ _ _ _ _;clear hr2;go_wp2_with fail
 go_end0
 exact⟨rfl,⟨dK,HR3.o⟩,((Fr.ag qI.o).trans' hf2).trans' lh.o⟩
end
section
open Go.RowKit
end
section
open Go.RowKit
end
section
open Go.RowKit
theorem Fe (b n:Nat)(v1 v2:Value)(l1 l2:Nat→ByteArray)(w:World)(h1:Sl w b v1 n (fun j=>.string (l1 j)))(h2:Sl w b v2 n (fun j=>.string (l2 j)))(he:∀j,j<n→l1 j=l2 j)(hn:n≤1000) :
  Calls Tryz.prog 23 #[v1,v2] w fun e w'=>e=.returned (.bool true)∧∃m,w'=w.drewN m:=by
 obtain⟨a1,c1,rfl,hs1⟩:=h1;obtain⟨a2,c2,rfl,hs2⟩:=h2;have cK:=hid hs1;have HS2:=hid hs2;have HE:=hid he;clear hs1 hs2 he;go_enter Tryz.func23,Tryz.ntmps23
 go_wp2_with fail
 go_loopw [5] (fun i wr=>∃k:Nat,k≤n∧i=.int .i64 k∧∃m,wr=w.drewN m) (fun i _=>n-(intOf i).toNat)
 case atStart=>exact⟨0,by omega,rfl,0,rfl⟩
 obtain⟨k,hk,rfl,mm,hmm⟩:=hrel;have hS:Since w wr:=by rw[hmm];exact(Since.refl w).drewN mm
 have HMM:=hid hmm;clear hmm;by_cases hlt:k<n
 ·have hlt2:(k:Int)<n:=by omega
  obtain⟨TT,VI,rfl,_,hc1⟩:=cK.o (by omega);obtain⟨kb2,ko2,rfl,_,hc2⟩:=HS2.o (by omega);have q1:wr.cell? ⟨TT,VI+k,none⟩=some (.string (l1 k)):=(hS.cell (p:=⟨TT,VI+k,none⟩) (World.block_lt_of_cell? w _ (hc1 k hlt))).trans (hc1 k hlt);have q2:wr.cell? ⟨kb2,ko2+k,none⟩=some (.string (l2 k)):=(hS.cell (p:=⟨kb2,ko2+k,none⟩) (World.block_lt_of_cell? w _ (hc2 k hlt))).trans (hc2 k hlt);rw[←HE.o k hlt] at q2;clear hc1 hc2 hS;go_wp2_with fail
  go_quiet (fail)
  go_wp2_with fail
  go_roundw
  case rel=>exact⟨k+1,by omega,by go_num,_,by rw[HMM.o,World.drewN_drewN]⟩
  case measure=>simp[intOf];omega
 have hke:k=n:=by omega
 subst hke;clear hS;go_wp2_with fail
 go_ret;exact⟨rfl,mm,HMM.o⟩
theorem PV (b n:Nat)(v1 v2:Value)(l1 l2:Nat→ByteArray)(w:World)(h1:Sl w b v1 n (fun j=>.string (l1 j)))(h2:Sl w b v2 n (fun j=>.string (l2 j)))(he:∀j,j<n→l1 j=l2 j)(hn:n≤1000) :
  Calls Tryz.prog 23 #[v1,v2] w fun e w'=>e=.returned (.bool true)∧Since w w':=by
 refine(Fe b n v1 v2 l1 l2 w h1 h2 he hn).mono ?_;rintro e w' ⟨rfl,m,rfl⟩;exact⟨rfl,(Since.refl w).drewN m⟩
end
end Go.Proofs.YtlgbfkcpdelcbaaGreatDoor
