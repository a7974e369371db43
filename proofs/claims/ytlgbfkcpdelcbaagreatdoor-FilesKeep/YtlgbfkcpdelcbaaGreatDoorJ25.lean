import Derived.Deep.AppendLies
import Derived.Test.YtlgbfkcpdelcbaaGreatDoorJ24
set_option linter.unusedSimpArgs false
set_option linter.unusedVariables false
set_option maxHeartbeats 8000000
set_option maxRecDepth 100000
namespace Go.Proofs.YtlgbfkcpdelcbaaGreatDoor
section
namespace Sp
open Go.RowKit
open Tw (Tb ae aY aU dP fJ bJ gX jc)
theorem xC:(Tryz.prog.info? 3).map (fun i=>(i.zero,i.size,i.bytes))=some (some (.int .i64 0),1,8):=by kernel_rfl
theorem info_parts {P:Program}{t:TypeId}{z:Value}{s y:Nat}(h:(P.info? t).map (fun i=>(i.zero,i.size,i.bytes))=some (some z,s,y)):∃i,P.info? t=some i∧i.zero=some z∧i.size=s∧i.bytes=y:=by
 cases hi:P.info? t with
 | none=>rw[hi] at h;cases h
 | some i=>rw[hi] at h;simp at h;exact⟨i,rfl,h.1,h.2.1,h.2.2⟩
theorem aP {w w':World}{base e size n:Nat}{v:Value}{xs:List Value}(h:w.ownsRow base e size v n xs)(hs:Since w w'):w'.ownsRow base e size v n xs:=by
 refine⟨h.1,?_⟩;rcases h.2 with hn | ⟨k,cap,cur,hv,hbk,hk,rest⟩
 ·exact .inl hn
 exact .inr ⟨k,cap,cur,hv,hbk,by rw[hs.block k (Array.getElem?_eq_some_iff.1 hk).1];exact hk,rest⟩
def lies (T:Tb)(z:Int)(i:Nat):Bool:=decide (¬T.tag i=⟨#[]⟩)&&decide (T.az i=z)
def eX (T:Tb)(z:Int)(k:Nat):List Nat:=(List.range k).filter (lies T z)
def vals (l:List Nat):List Value:=l.map fun (i:Nat)=>Value.int .i64 (i:Int)
theorem IX {T:Tb}{z:Int}{k:Nat}(h:lies T z k=true):eX T z (k+1)=eX T z k++[k]:=by
 unfold eX;rw[List.range_succ,List.filter_append,show [k].filter (lies T z)=[k] from List.filter_eq_self.2 (fun a ha=>by rw[List.mem_singleton.1 ha];exact h)]
theorem rR {T:Tb}{z:Int}{k:Nat}(h:lies T z k=false):eX T z (k+1)=eX T z k:=by
 unfold eX;rw[List.range_succ,List.filter_append];simp[h]
theorem mV (T:Tb)(z:Int)(k:Nat):(eX T z k).length≤k:=by
 have:=List.length_filter_le (lies T z) (List.range k);rw[List.length_range] at this;exact this
theorem MF (T:Tb)(z:Int)(w:World):Calls Tryz.prog 69 #[aY T,.int .i64 z] w fun e w'=>∃x,e=.returned x∧w'.ownsRow w.heap.size 3 1 x (eX T z 24).length (vals (eX T z 24))∧Since w w':=by
 have hC:=dP T w;have hR:=fJ hC;unfold aY;generalize (ak 73 (ae T)).toArray=cs0 at *;have HS:Hid (Since w (w.alloc (.cells cs0 72))):=(Since.refl w).alloc _;clear hC;have hL:(ak 72 (aU T)).length=72:=ax _ _;have NL:Hid (∀(k:Nat) (hk:k<24) (w:World),(Instr.index 70 (.agg (ak 72 (aU T)).toArray) (.int .i64 (k:Int))).run Tryz.prog w=.ok (.agg #[.int .i64 (T.az k),.int .i64 (T.off k),.string (T.tag k)]) w):=fun k hk w=>gX T k hk w
 generalize hcs:ak 72 (aU T)=cs at *;clear hcs;obtain⟨i0,hi,hz0,hz1,hz2⟩:=info_parts xC;have HI:=hid (an hi (an hz0 (an hz1 hz2)));clear hi hz0 hz1 hz2;go_enter Tryz.func69,Tryz.ntmps69
 go_wp2_with (refine wpList_load_mid (by rfl) 70 _ (by rfl) w.heap.size 1 (by rfl) _ _ hR Tryz.underlying70 (by rfl) (by rw[hL];kernel_rfl) ?_)
 clear hR hL;generalize w.alloc (.cells cs0 72)=w0 at *;go_loopw [10,5,6,7] (fun i x _ _ wr=>∃k:Nat,k≤24∧i=.int .i64 k∧wr.ownsRow w.heap.size 3 1 x (eX T z k).length (vals (eX T z k))∧Since w wr) (fun i _ _ _ _=>24-(intOf i).toNat)
 case atStart=>exact⟨0,by omega,rfl,World.ownsRow_nil _ _ _ _,HS.o⟩
 obtain⟨k,hk,rfl,hx,hs⟩:=hrel;have HX:=hid hx;have ed:=hid hs;clear hx hs;by_cases hlt:k<24
 ·have hlt2:(k:Int)<24:=by omega
  have hix:=NL.o k hlt;by_cases te:T.tag k=⟨#[]⟩
  ·have hl:lies T z k=false:=by unfold lies;rw[decide_eq_false (fun h=>h te)];rfl
   have HO:Hid ((wr.alloc (.cells #[.int .i64 (T.az k),.int .i64 (T.off k),.string ⟨#[]⟩] 69)).ownsRow w.heap.size 3 1 u5 (eX T z (k+1)).length (vals (eX T z (k+1)))):=by
    show World.ownsRow _ _ _ _ _ _ _
    rw[rR hl];exact World.ownsRow.alloc HX.o _
   rw[te] at hix;clear te hl;generalize T.az k=zz at *;generalize T.off k=oo at *;go_wp2_with fail
   go_roundw
   case rel=>exact⟨k+1,by omega,by go_num,HO.o,ed.o.alloc _⟩
   case measure=>simp[intOf];omega
  have ht1:¬(T.tag k).toList=[]:=by
   rw[ByteArray.toList_eq];exact fun e=>te (ByteArray.ext (Array.toList_inj.1 e))
  have ht2:(T.tag k).toList.isEmpty=false:=by
   cases hq:(T.tag k).toList with
   | nil=>exact absurd hq ht1
   | cons _ _=>rfl
  by_cases hz:T.az k=z
  ·have hl:lies T z k=true:=by unfold lies;rw[decide_eq_true te,decide_eq_true hz];rfl
   have HE:=hid (IX hl);have hle:=mV T z k;rw[hz] at hix;clear te hl hz;generalize T.off k=oo at *;generalize T.tag k=t at *;go_wp2_with (at_builtin;refine wpList_append_own _ (by rfl) _ _ _ (by rfl) w.heap.size 3 i0 _ 1 8 Tryz.underlying61 HI.o.1 HI.o.2.1 HI.o.2.2.1 HI.o.2.2.2 (by rfl) (by decide) _ (eX T z k).length (vals (eX T z k)) (by rfl) (World.ownsRow.alloc (World.ownsRow.alloc HX.o _) _) ⟨wr.heap.size+1,0,none⟩ 1 1 [.int .i64 (k:Int)] (by rfl) (by rfl) (World.news_of_block (by have:=heap_alloc_new (wr.alloc (.cells #[.int .i64 z,.int .i64 oo,.string t] 69)) (.cells #[.int .i64 (k:Int)] 3);rw[World.size_alloc] at this;exact this)) (by simp[Value.oneCell']) (by unfold maxLen;omega) (by omega) (by have:=ed.o.size;simp;omega) ?_;intro x' w3 hown1 hgrow _)
   have pK:Hid (w3.ownsRow w.heap.size 3 1 x' (eX T z (k+1)).length (vals (eX T z (k+1)))):=by
    show World.ownsRow _ _ _ _ _ _ _
    rw[HE.o,List.length_append,show vals (eX T z k++[k])=vals (eX T z k)++[.int .i64 (k:Int)] from by simp[vals]];exact hown1
   have rq:Hid (Since w w3):=Below.grown (Since.alloc (Since.alloc ed.o _) _) hgrow (by have:=ed.o.size;simp;omega) (fun j hj=>(HX.o.lt j hj).1);clear hown1 hgrow;go_roundw
   case rel=>exact⟨k+1,by omega,by go_num,pK.o,rq.o⟩
   case measure=>simp[intOf];omega
  have hl:lies T z k=false:=by unfold lies;rw[decide_eq_false hz,Bool.and_false]
  have HO:Hid ((wr.alloc (.cells #[.int .i64 (T.az k),.int .i64 (T.off k),.string (T.tag k)] 69)).ownsRow w.heap.size 3 1 u5 (eX T z (k+1)).length (vals (eX T z (k+1)))):=by
   show World.ownsRow _ _ _ _ _ _ _
   rw[rR hl];exact World.ownsRow.alloc HX.o _
  clear te hl;generalize T.az k=zz at *;generalize T.off k=oo at *;generalize T.tag k=t at *;go_wp2_with fail
  go_roundw
  case rel=>exact⟨k+1,by omega,by go_num,HO.o,ed.o.alloc _⟩
  case measure=>simp[intOf];omega
 have hke:k=24:=by omega
 subst hke;go_wp2_with fail
 go_ret;exact⟨_,rfl,HX.o,ed.o⟩
theorem xx {w:World}{b e s n:Nat}{v:Value}{x:List Value}(h:w.ownsRow b e s v n x):∃a c,v=.slice a n c∧n≤c:=by
 rcases h.2 with⟨rfl,h0⟩ | ⟨g,c,u,rfl,_,_,h1,_⟩
 ·exact⟨_,_,by rw[h0],by omega⟩
 exact⟨_,_,rfl,h1⟩
theorem uJ {w:World}{base base' e size n:Nat}{v:Value}{xs:List Value}(h:w.ownsRow base e size v n xs)(hb:base'≤base):w.ownsRow base' e size v n xs:=by
 refine⟨h.1,?_⟩;rcases h.2 with hn | ⟨k,cap,cur,hv,hbk,rest⟩
 ·exact .inl hn
 exact .inr ⟨k,cap,cur,hv,by omega,rest⟩
def rT (T:Tb)(k:Nat):List Value:=(List.range k).map fun (z:Nat)=>Value.int .i64 ((eX T (z:Int) 24).length:Int)
theorem IY (T:Tb)(k:Nat):rT T (k+1)=rT T k++[.int .i64 ((eX T (k:Int) 24).length:Int)]:=by
 unfold rT;rw[List.range_succ,List.map_append]
 rfl
theorem OE (T:Tb)(w:World):Calls Tryz.prog 68 #[aY T] w fun e w'=>∃x,e=.returned x∧w'.ownsRow w.heap.size 3 1 x 8 (rT T 8)∧Since w w':=by
 have HC:=hid (dP T w);have HS:Hid (Since w (w.alloc (.cells (ak 73 (ae T)).toArray 72))):=(Since.refl w).alloc _;have DY:Hid (∀(z:Int) (w:World),Calls Tryz.prog 69 #[.agg (ak 73 (ae T)).toArray,.int .i64 z] w fun e w'=>∃x,e=.returned x∧w'.ownsRow w.heap.size 3 1 x (eX T z 24).length (vals (eX T z 24))∧Since w w'):=fun z w=>MF T z w
 have HRA:Hid (∀W,Since (w.alloc (.cells (ak 73 (ae T)).toArray 72)) W→W.rangeAt w.heap.size 0 (ak 73 (ae T))):=fun W hs=>bJ (HC.o.since hs)
 unfold aY;have hL:=jc T;generalize ak 73 (ae T)=cs0 at *;obtain⟨i0,hi,hz0,hz1,hz2⟩:=info_parts xC;have HI:=hid (an hi (an hz0 (an hz1 hz2)));clear hi hz0 hz1 hz2;go_enter Tryz.func68,Tryz.ntmps68
 go_wp2_with fail
 generalize w.alloc (.cells cs0.toArray 72)=w0 at *;go_loopw [5,3,4] (fun i x _ wr=>∃k:Nat,k≤8∧i=.int .i64 k∧wr.ownsRow w0.heap.size 3 1 x k (rT T k)∧Since w0 wr) (fun i _ _ _=>8-(intOf i).toNat)
 case atStart=>exact⟨0,by omega,rfl,World.ownsRow_nil _ _ _ _,Since.refl _⟩
 obtain⟨k,hk,rfl,hx,hs⟩:=hrel;have HX:=hid hx;have ed:=hid hs;clear hx hs;by_cases hlt:k<8
 ·have hlt2:(k:Int)<8:=by omega
  have hR:=HRA.o wr ed.o;have hle:=mV T (k:Int) 24;go_wp2_with (refine wpList_load_mid (by rfl) 72 _ (by rfl) w.heap.size 0 (by rfl) _ _ hR Tryz.underlying72 (by rfl) (by rw[hL];kernel_rfl) ?_)
  refine(DY.o (k:Int) _).mono ?_;rintro e w1 ⟨x1,rfl,ho1,h1⟩;obtain⟨a1,c1,rfl,_⟩:=xx ho1;have rU:Hid (w1.ownsRow w0.heap.size 3 1 u3 k (rT T k)):=aP HX.o h1;have cK:=hid (ed.o.trans h1);clear ho1 h1 hR;generalize hn:(eX T (k:Int) 24).length=nn at *;have HN:=hid hn;clear hn;go_wp2_with (at_builtin;refine wpList_append_own _ (by rfl) _ _ _ (by rfl) w0.heap.size 3 i0 _ 1 8 Tryz.underlying61 HI.o.1 HI.o.2.1 HI.o.2.2.1 HI.o.2.2.2 (by rfl) (by decide) _ k (rT T k) (by rfl) (World.ownsRow.alloc rU.o _) ⟨w1.heap.size,0,none⟩ 1 1 [.int .i64 (nn:Int)] (by rfl) (by rfl) (World.news_of_block (heap_alloc_new w1 _)) (by simp[Value.oneCell']) (by unfold maxLen;omega) (by omega) (by have:=cK.o.size;simp;omega) ?_;intro x' w3 hown1 hgrow _)
  have pK:Hid (w3.ownsRow w0.heap.size 3 1 x' (k+1) (rT T (k+1))):=by
   show World.ownsRow _ _ _ _ _ _ _
   rw[IY,HN.o];exact hown1
  have rq:Hid (Since w0 w3):=Below.grown (Since.alloc cK.o _) hgrow (by have:=cK.o.size;simp;omega) (fun j hj=>(rU.o.lt j hj).1);clear hown1 hgrow;go_roundw
  case rel=>exact⟨k+1,by omega,by go_num,pK.o,rq.o⟩
  case measure=>simp[intOf];omega
 have hke:k=8:=by omega
 subst hke;go_wp2_with fail
 go_ret;exact⟨_,rfl,uJ HX.o HS.o.size,HS.o.trans ed.o⟩
end Sp
end
section
namespace Sp
open Go.RowKit
open Tw (Tb ae aY aU dP fJ bJ gX jc)
theorem DZ (x o z:Int)(t:ByteArray)(w:World):Calls Tryz.prog 199 #[.agg #[.int .i64 x,.int .i64 o,.string t],.int .i64 z] w fun e w'=>e=.returned (.bool (decide (¬t=⟨#[]⟩)&&decide (x=z)))∧Since w w':=by
 by_cases te:t=⟨#[]⟩
 ·subst te;rw[show (decide (¬(⟨#[]⟩:ByteArray)=⟨#[]⟩)&&decide (x=z))=false by simp];go_enter Tryz.func199,Tryz.ntmps199
  go_wp2_with fail
  go_ret;exact⟨rfl,(Since.refl w).alloc _⟩
 have ht1:¬t.toList=[]:=by
  rw[ByteArray.toList_eq];exact fun e=>te (ByteArray.ext (Array.toList_inj.1 e))
 have ht2:t.toList.isEmpty=false:=by
  cases hq:t.toList with
  | nil=>exact absurd hq ht1
  | cons _ _=>rfl
 by_cases hz:x=z
 ·rw[decide_eq_true te,decide_eq_true hz];subst hz;clear te;go_enter Tryz.func199,Tryz.ntmps199
  go_wp2_with fail
  go_ret;exact⟨rfl,(Since.refl w).alloc _⟩
 rw[decide_eq_true te,decide_eq_false hz];have hz2:Hid ((x==z)=false):=by show (x==z)=false;simp[hz]
 clear te;go_enter Tryz.func199,Tryz.ntmps199
 go_wp2_with fail
 go_ret;refine⟨?_,(Since.refl w).alloc _⟩;show Ending.returned (.bool (x==z))=_
 rw[hz2.out]
 rfl
theorem three {T:Tb}{w:World}{b:Nat}(h:aA w b 73 (ae T))(k:Nat)(hk:k<24):w.cell? ⟨b,1+k*3,none⟩=some (.int .i64 (T.az k))∧w.cell? ⟨b,1+k*3+1,none⟩=some (.int .i64 (T.off k))∧w.cell? ⟨b,1+k*3+2,none⟩=some (.string (T.tag k)):=by
 have q0:=h.cell (1+k*3+0) (by omega);have q1:=h.cell (1+k*3+1) (by omega);have q2:=h.cell (1+k*3+2) (by omega);rw[Tw.lC T k 0 (by omega),show Tw.eY T k 0=.int .i64 (T.az k) from rfl] at q0;rw[Tw.lC T k 1 (by omega),show Tw.eY T k 1=.int .i64 (T.off k) from rfl] at q1;rw[Tw.lC T k 2 (by omega),show Tw.eY T k 2=.string (T.tag k) from rfl] at q2;exact⟨q0,q1,q2⟩
theorem fu (T:Tb)(z:Int)(w:World):Calls Tryz.prog 137 #[aY T,.int .i64 z] w fun e w'=>∃x,e=.returned x∧w'.ownsRow w.heap.size 3 1 x (eX T z 24).length (vals (eX T z 24))∧Since w w':=by
 have HC:=hid (dP T w);have HS:Hid (Since w (w.alloc (.cells (ak 73 (ae T)).toArray 72))):=(Since.refl w).alloc _;have IZ:Hid ((w.alloc (.cells (ak 73 (ae T)).toArray 72)).heap.size=w.heap.size+1):=World.size_alloc _ _;unfold aY;generalize (ak 73 (ae T)).toArray=cs at *;obtain⟨i0,hi,hz0,hz1,hz2⟩:=info_parts xC;have HI:=hid (an hi (an hz0 (an hz1 hz2)));clear hi hz0 hz1 hz2;go_enter Tryz.func137,Tryz.ntmps137
 go_wp2_with fail
 generalize w.alloc (.cells cs 72)=w0 at *;go_loopw [7,5,6] (fun i x _ wr=>∃k:Nat,k≤24∧i=.int .i64 k∧wr.ownsRow w0.heap.size 3 1 x (eX T z k).length (vals (eX T z k))∧Since w0 wr) (fun i _ _ _=>24-(intOf i).toNat)
 case atStart=>exact⟨0,by omega,rfl,World.ownsRow_nil _ _ _ _,Since.refl _⟩
 obtain⟨k,hk,rfl,hx,hs⟩:=hrel;have HX:=hid hx;have ed:=hid hs;clear hx hs;by_cases hlt:k<24
 ·have hlt2:(k:Int)<24:=by omega
  obtain⟨q0,q1,q2⟩:=three (HC.o.since ed.o) k hlt;go_wp2_with fail
  clear q0 q1 q2;refine(DZ _ _ _ _ _).mono ?_;rintro e w1 ⟨rfl,h1⟩;have rU:Hid (w1.ownsRow w0.heap.size 3 1 u5 (eX T z k).length (vals (eX T z k))):=aP HX.o h1;have cK:=hid (ed.o.trans h1);clear h1;by_cases hl:lies T z k=true
  ·rw[show (decide (¬T.tag k=⟨#[]⟩)&&decide (T.az k=z))=true from hl];have HE:=hid (IX hl);have hle:=mV T z k;clear hl;go_wp2_with (at_builtin;refine wpList_append_own _ (by rfl) _ _ _ (by rfl) w0.heap.size 3 i0 _ 1 8 Tryz.underlying61 HI.o.1 HI.o.2.1 HI.o.2.2.1 HI.o.2.2.2 (by rfl) (by decide) _ (eX T z k).length (vals (eX T z k)) (by rfl) (World.ownsRow.alloc rU.o _) ⟨w1.heap.size,0,none⟩ 1 1 [.int .i64 (k:Int)] (by rfl) (by rfl) (World.news_of_block (heap_alloc_new w1 _)) (by simp[Value.oneCell']) (by unfold maxLen;omega) (by omega) (by have:=cK.o.size;simp;omega) ?_;intro x' w3 hown1 hgrow _)
   have pK:Hid (w3.ownsRow w0.heap.size 3 1 x' (eX T z (k+1)).length (vals (eX T z (k+1)))):=by
    show World.ownsRow _ _ _ _ _ _ _
    rw[HE.o,List.length_append,show vals (eX T z k++[k])=vals (eX T z k)++[.int .i64 (k:Int)] from by simp[vals]];exact hown1
   have rq:Hid (Since w0 w3):=Below.grown (Since.alloc cK.o _) hgrow (by have:=cK.o.size;simp;omega) (fun j hj=>(rU.o.lt j hj).1);clear hown1 hgrow;go_roundw
   case rel=>exact⟨k+1,by omega,by go_num,pK.o,rq.o⟩
   case measure=>simp[intOf];omega
  have hl2:lies T z k=false:=by cases h:lies T z k with | true=>exact absurd h hl | false=>rfl
  rw[show (decide (¬T.tag k=⟨#[]⟩)&&decide (T.az k=z))=false from hl2];have HO:Hid (w1.ownsRow w0.heap.size 3 1 u5 (eX T z (k+1)).length (vals (eX T z (k+1)))):=by
   show World.ownsRow _ _ _ _ _ _ _
   rw[rR hl2];exact rU.o
  clear hl hl2;go_wp2_with fail
  go_roundw
  case rel=>exact⟨k+1,by omega,by go_num,HO.o,cK.o⟩
  case measure=>simp[intOf];omega
 have hke:k=24:=by omega
 subst hke;go_wp2_with fail
 go_ret;exact⟨_,rfl,uJ HX.o HS.o.size,HS.o.trans ed.o⟩
end Sp
end
section
namespace Sp
open Go.RowKit
open Tw (Tb ae aY aU dP fJ bJ gX jc)
theorem pM (w:World):(Instr.makeSlice 61 (.int .i64 8) (.int .i64 8)).run Tryz.prog w=.ok (.slice (some ⟨w.heap.size,0,none⟩) 8 8) (w.alloc (.cells (madeCells #[Value.int .i64 0] 8) 3)):=by
 obtain⟨i,hi,hz,hs,hb⟩:=info_parts xC;have h:=run_makeSlice (P:=Tryz.prog) w 61 3 i _ Tryz.underlying61 hi hz .i64 .i64 8 8 (by omega) (by omega) (by rw[hs];omega) (by rw[hb];omega) (by omega);rw[hs,Nat.mul_one] at h
 simpa [Value.cells] using h
theorem Ea (n j:Nat)(hj:j<n):(madeCells #[Value.int .i64 0] n)[j]?=some (.int .i64 0):=by
 unfold madeCells;simp[hj,Nat.mod_one]
def cnt (T:Tb)(k j:Nat):Value:=.int .i64 ((eX T (j:Int) k).length:Int)
theorem tZ {T:Tb}{k:Nat}(h:∀j:Nat,j<8→lies T (j:Int) k=false)(j:Nat)(hj:j<8):cnt T k j=cnt T (k+1) j:=by
 unfold cnt;rw[rR (h j hj)]
theorem WO {T:Tb}{k z:Nat}(ht:¬T.tag k=⟨#[]⟩)(hz:T.az k=z)(j:Nat):aJ (cnt T k) z (.int .i64 (((eX T (z:Int) k).length:Int)+1)) j=cnt T (k+1) j:=by
 unfold aJ;by_cases e:j=z
 ·subst e;rw[if_pos rfl];unfold cnt;rw[IX (by unfold lies;rw[decide_eq_true ht,decide_eq_true hz];rfl),List.length_append];simp
 rw[if_neg e];unfold cnt;rw[rR (by unfold lies;rw[decide_eq_false (p:=T.az k=(j:Int)) (by omega),Bool.and_false])]
theorem Sn (T:Tb)(w:World):Calls Tryz.prog 136 #[aY T] w fun e w'=>∃x,e=.returned x∧(∃b,x=.slice (some ⟨b,0,none⟩) 8 8∧aA w' b 8 (cnt T 24))∧Since w w':=by
 have HC:=hid (dP T w);have HS:Hid (Since w (w.alloc (.cells (ak 73 (ae T)).toArray 72))):=(Since.refl w).alloc _;have hsz:(w.alloc (.cells (ak 73 (ae T)).toArray 72)).heap.size=w.heap.size+1:=World.size_alloc _ _;unfold aY;generalize (ak 73 (ae T)).toArray=cs at *;have hmk:=pM (w.alloc (.cells cs 72));have HD:Hid (aA ((w.alloc (.cells cs 72)).alloc (.cells (madeCells #[Value.int .i64 0] 8) 3)) (w.heap.size+1) 8 (cnt T 0)):=by
  refine aA.new _ _ _ _ _ (fun j hj=>?_) _ hsz.symm;rw[show cnt T 0 j=.int .i64 0 from rfl];exact Ea 8 j hj
 have nO:Hid (aA ((w.alloc (.cells cs 72)).alloc (.cells (madeCells #[Value.int .i64 0] 8) 3)) w.heap.size 73 (ae T)):=HC.o.since ((Since.refl _).alloc _);have HS2:Hid (Since w ((w.alloc (.cells cs 72)).alloc (.cells (madeCells #[Value.int .i64 0] 8) 3))):=HS.o.alloc _;rw[hsz] at hmk;clear hsz HC HS;go_enter Tryz.func136,Tryz.ntmps136
 go_wp2_with fail
 clear hmk;generalize (w.alloc (.cells cs 72)).alloc (.cells (madeCells #[Value.int .i64 0] 8) 3)=w0 at *;go_loopw [7,4,5] (fun i _ _ wr=>∃k:Nat,k≤24∧i=.int .i64 k∧aA wr (w.heap.size+1) 8 (cnt T k)∧aA wr w.heap.size 73 (ae T)∧Since w wr) (fun i _ _ _=>24-(intOf i).toNat)
 case atStart=>exact⟨0,by omega,rfl,HD.o,nO.o,HS2.o⟩
 clear HD nO HS2;obtain⟨k,hk,rfl,hd,hc,hs⟩:=hrel;have HD:=hid hd;have HC:=hid hc;have ed:=hid hs;clear hd hc hs;by_cases hlt:k<24
 ·have hlt2:(k:Int)<24:=by omega
  obtain⟨q0,q1,q2⟩:=three HC.o k hlt;by_cases hneg:0≤T.az k
  ·by_cases h8:T.az k<8
   ·obtain⟨z,hz⟩:∃z:Nat,T.az k=z:=⟨(T.az k).toNat,by omega⟩
    have Ro:(z:Int)<8:=by omega
    have HZ:=hid hz;rw[hz] at q0;clear hz h8 hneg;go_wp2_with fail
    refine(DZ _ _ _ _ _).mono ?_;rintro e w1 ⟨rfl,h1⟩;have HD1:=hid (HD.o.since h1);have jS:=hid (HC.o.since h1);have cK:=hid (ed.o.trans h1);clear h1 q0 q1 q2;by_cases te:T.tag k=⟨#[]⟩
    ·rw[show (decide (¬T.tag k=⟨#[]⟩)&&decide ((z:Int)=z))=false by simp[te]];have HD2:Hid (aA w1 (w.heap.size+1) 8 (cnt T (k+1))):=HD1.o.congr (tZ (fun j _=>by unfold lies;rw[decide_eq_false (fun h=>h te)];rfl));clear te;go_wp2_with fail
     go_roundw
     case rel=>exact⟨k+1,by omega,by go_num,HD2.o,jS.o,cK.o⟩
     case measure=>simp[intOf];omega
    rw[show (decide (¬T.tag k=⟨#[]⟩)&&decide ((z:Int)=z))=true by simp[te]];have q3:w1.cell? ⟨w.heap.size+1,z,none⟩=some (.int .i64 ((eX T (z:Int) k).length:Int)):=HD1.o.cell z (by omega);have q4:=HD1.o.frozen z (by omega);have hle:=mV T (z:Int) k;have HW:Hid (aA (w1.setCell ⟨w.heap.size+1,z,none⟩ (.int .i64 (((eX T (z:Int) k).length:Int)+1))) (w.heap.size+1) 8 (cnt T (k+1))∧aA (w1.setCell ⟨w.heap.size+1,z,none⟩ (.int .i64 (((eX T (z:Int) k).length:Int)+1))) w.heap.size 73 (ae T)∧Since w (w1.setCell ⟨w.heap.size+1,z,none⟩ (.int .i64 (((eX T (z:Int) k).length:Int)+1)))):=
     ⟨(HD1.o.set z (by omega) _).congr (fun j hj=>WO te HZ.o j),jS.o.other (by show w.heap.size+1≠w.heap.size;omega) _,cK.o.setCell (by show w.heap.size≤w.heap.size+1;omega) _⟩
    clear te;generalize (eX T (z:Int) k).length=nn at *;go_wp2_with fail
    go_roundw
    case rel=>exact⟨k+1,by omega,by go_num,HW.o.1,HW.o.2.1,HW.o.2.2⟩
    case measure=>simp[intOf];omega
   have HD2:Hid (aA wr (w.heap.size+1) 8 (cnt T (k+1))):=HD.o.congr (tZ (fun j hj=>by unfold lies;rw[decide_eq_false (p:=T.az k=(j:Int)) (by omega),Bool.and_false]));have h8d:decide (T.az k<8)=false:=by simp;omega
   go_wp2_with fail
   go_roundw
   case rel=>exact⟨k+1,by omega,by go_num,HD2.o,HC.o,ed.o⟩
   case measure=>simp[intOf];omega
  have HD2:Hid (aA wr (w.heap.size+1) 8 (cnt T (k+1))):=HD.o.congr (tZ (fun j hj=>by unfold lies;rw[decide_eq_false (p:=T.az k=(j:Int)) (by omega),Bool.and_false]));go_wp2_with fail
  go_roundw
  case rel=>exact⟨k+1,by omega,by go_num,HD2.o,HC.o,ed.o⟩
  case measure=>simp[intOf];omega
 have hke:k=24:=by omega
 subst hke;go_wp2_with fail
 go_ret;exact⟨_,rfl,⟨_,rfl,HD.o⟩,ed.o⟩
end Sp
end
end Go.Proofs.YtlgbfkcpdelcbaaGreatDoor
