import Derived.Deep.AppendLies
import Derived.Test.YtmhcfaaggkidjaaGreatDoorJ18
set_option linter.unusedSimpArgs false
set_option linter.unusedVariables false
section
namespace Go.Proofs.YtmhcfaaggkidjaaGreatDoor
set_option maxRecDepth 100000
namespace Sp
open Go.RowKit
open Tw (Tb af bE bO fK jg dD kN pW)
theorem Dz:(Tryz.prog.info? 3).map (fun i=>(i.zero,i.size,i.bytes))=some (some (.int .i64 0),1,8):=by kernel_rfl
theorem info_parts {P:Program} {t:TypeId} {z:Value} {s y:Nat} (h:(P.info? t).map (fun i=>(i.zero,i.size,i.bytes))=some (some z,s,y)):∃i,P.info? t=some i∧i.zero=some z∧i.size=s∧i.bytes=y:=by
 cases hi:P.info? t with
 | none=>rw[hi] at h;cases h
 | some i=>rw[hi] at h;simp at h;exact⟨i,rfl,h.1,h.2.1,h.2.2⟩
theorem iN {w w':World} {base e size n:Nat} {v:Value} {xs:List Value} (h:w.ownsRow base e size v n xs) (hs:Since w w'):w'.ownsRow base e size v n xs:=by
 refine⟨h.1,?_⟩;rcases h.2 with hn | ⟨k,cap,cur,hv,hbk,hk,rest⟩
 ·exact .inl hn
 exact .inr ⟨k,cap,cur,hv,hbk,by rw[hs.block k (Array.getElem?_eq_some_iff.1 hk).1];exact hk,rest⟩
def lies (T:Tb) (z:Int) (i:Nat):Bool:=decide (¬T.tag i=⟨#[]⟩)&&decide (T.aB i=z)
def bM (T:Tb) (z:Int) (k:Nat):List Nat:=(List.range k).filter (lies T z)
def vals (l:List Nat):List Value:=l.map fun (i:Nat)=>Value.int .i64 (i:Int)
theorem OM {T:Tb} {z:Int} {k:Nat} (h:lies T z k=true):bM T z (k+1)=bM T z k++[k]:=by
 unfold bM;rw[List.range_succ,List.filter_append,show [k].filter (lies T z)=[k] from List.filter_eq_self.2 (fun a ha=>by rw[List.mem_singleton.1 ha];exact h)]
theorem Bq {T:Tb} {z:Int} {k:Nat} (h:lies T z k=false):bM T z (k+1)=bM T z k:=by
 unfold bM;rw[List.range_succ,List.filter_append];simp[h]
theorem lN (T:Tb) (z:Int) (k:Nat):(bM T z k).length≤k:=by
 have:=List.length_filter_le (lies T z) (List.range k);rw[List.length_range] at this;exact this
theorem DD {w:World} {base base' e size n:Nat} {v:Value} {xs:List Value} (h:w.ownsRow base e size v n xs) (hb:base'≤base):w.ownsRow base' e size v n xs:=by
 refine⟨h.1,?_⟩;rcases h.2 with hn | ⟨k,cap,cur,hv,hbk,rest⟩
 ·exact .inl hn
 exact .inr ⟨k,cap,cur,hv,by omega,rest⟩
end Sp
end Go.Proofs.YtmhcfaaggkidjaaGreatDoor
end
section
namespace Go.Proofs.YtmhcfaaggkidjaaGreatDoor
set_option maxRecDepth 100000
namespace Sp
open Go.RowKit
open Tw (Tb af bE bO fK jg dD kN pW)
theorem DF (x o z:Int) (t:ByteArray) (w:World):Calls Tryz.prog 257 #[.agg #[.int .i64 x,.int .i64 o,.string t],.int .i64 z] w fun e w'=>e=.returned (.bool (decide (¬t=⟨#[]⟩)&&decide (x=z)))∧Since w w':=by
 by_cases te:t=⟨#[]⟩
 ·subst te;rw[show (decide (¬(⟨#[]⟩:ByteArray)=⟨#[]⟩)&&decide (x=z))=false by simp];go_enter Tryz.func257,Tryz.ntmps257
  go_wp2_with fail
  go_ret;exact⟨rfl,(Since.refl w).alloc _⟩
 have ht1:¬t.toList=[]:=by
  rw[ByteArray.toList_eq];exact fun e=>te (ByteArray.ext (Array.toList_inj.1 e))
 have ht2:t.toList.isEmpty=false:=by
  cases hq:t.toList with
  | nil=>exact absurd hq ht1
  | cons _ _=>rfl
 by_cases hz:x=z
 ·rw[decide_eq_true te,decide_eq_true hz];subst hz;clear te;go_enter Tryz.func257,Tryz.ntmps257
  go_wp2_with fail
  go_ret;exact⟨rfl,(Since.refl w).alloc _⟩
 rw[decide_eq_true te,decide_eq_false hz];have hz2:Hid ((x==z)=false):=by show (x==z)=false;simp[hz]
 clear te;go_enter Tryz.func257,Tryz.ntmps257
 go_wp2_with fail
 go_ret;refine⟨?_,(Since.refl w).alloc _⟩;show Ending.returned (.bool (x==z))=_
 rw[hz2.out]
 rfl
theorem three {T:Tb} {w:World} {b:Nat} (h:ak w b 73 (af T)) (k:Nat) (hk:k<24):w.cell? ⟨b,1+k*3,none⟩=some (.int .i64 (T.aB k))∧w.cell? ⟨b,1+k*3+1,none⟩=some (.int .i64 (T.off k))∧w.cell? ⟨b,1+k*3+2,none⟩=some (.string (T.tag k)):=by
 have q0:=h.cell (1+k*3+0) (by omega);have q1:=h.cell (1+k*3+1) (by omega);have q2:=h.cell (1+k*3+2) (by omega);rw[Tw.kJ T k 0 (by omega),show Tw.gy T k 0=.int .i64 (T.aB k) from rfl] at q0;rw[Tw.kJ T k 1 (by omega),show Tw.gy T k 1=.int .i64 (T.off k) from rfl] at q1;rw[Tw.kJ T k 2 (by omega),show Tw.gy T k 2=.string (T.tag k) from rfl] at q2;exact⟨q0,q1,q2⟩
set_option maxHeartbeats 4000000 in
theorem Xq (T:Tb) (z:Int) (w:World):Calls Tryz.prog 207 #[bE T,.int .i64 z] w fun e w'=>∃x,e=.returned x∧w'.ownsRow w.heap.size 3 1 x (bM T z 24).length (vals (bM T z 24))∧Since w w':=by
 have HC:Hid (ak (w.alloc (.cells (aa 73 (af T)).toArray 163)) w.heap.size 73 (af T)):=fK T w;have HS:Hid (Since w (w.alloc (.cells (aa 73 (af T)).toArray 163))):=(Since.refl w).alloc _;have Sw:Hid ((w.alloc (.cells (aa 73 (af T)).toArray 163)).heap.size=w.heap.size+1):=World.size_alloc _ _;unfold bE;generalize (aa 73 (af T)).toArray=cs at *;obtain⟨i0,hi,hz0,hz1,hz2⟩:=info_parts Dz;have HI:Hid (Tryz.prog.info? 3=some i0∧i0.zero=some (.int .i64 0)∧i0.size=1∧i0.bytes=8):=⟨hi,hz0,hz1,hz2⟩
 clear hi hz0 hz1 hz2;go_enter Tryz.func207,Tryz.ntmps207
 go_wp2_with fail
 generalize w.alloc (.cells cs 163)=w0 at *;go_loopw [7,5,6] (fun i x _ wr=>∃k:Nat,k≤24∧i=.int .i64 k∧wr.ownsRow w0.heap.size 3 1 x (bM T z k).length (vals (bM T z k))∧Since w0 wr) (fun i _ _ _=>24-(intOf i).toNat)
 case atStart=>exact⟨0,by omega,rfl,World.ownsRow_nil _ _ _ _,Since.refl _⟩
 obtain⟨k,hk,rfl,hx,hs⟩:=hrel;have HX:Hid (wr.ownsRow w0.heap.size 3 1 u5 (bM T z k).length (vals (bM T z k))):=hx;have jV:Hid (Since w0 wr):=hs;clear hx hs;by_cases hlt:k<24
 ·have hlt2:(k:Int)<24:=by omega
  obtain⟨q0,q1,q2⟩:=three (HC.out.since jV.out) k hlt;go_wp2_with fail
  clear q0 q1 q2;refine(DF _ _ _ _ _).mono ?_;rintro e w1 ⟨rfl,h1⟩;have yZ:Hid (w1.ownsRow w0.heap.size 3 1 u5 (bM T z k).length (vals (bM T z k))):=iN HX.out h1;have bY:Hid (Since w0 w1):=jV.out.trans h1;clear h1;by_cases hl:lies T z k=true
  ·rw[show (decide (¬T.tag k=⟨#[]⟩)&&decide (T.aB k=z))=true from hl];have HE:Hid (bM T z (k+1)=bM T z k++[k]):=OM hl;have hle:=lN T z k;clear hl;go_wp2_with (at_builtin;refine wpList_append_own _ (by rfl) _ _ _ (by rfl) w0.heap.size 3 i0 _ 1 8 Tryz.underlying90 HI.out.1 HI.out.2.1 HI.out.2.2.1 HI.out.2.2.2 (by rfl) (by decide) _ (bM T z k).length (vals (bM T z k)) (by rfl) (World.ownsRow.alloc yZ.out _) ⟨w1.heap.size,0,none⟩ 1 1 [.int .i64 (k:Int)] (by rfl) (by rfl) (World.news_of_block (heap_alloc_new w1 _)) (by simp[Value.oneCell']) (by unfold maxLen;omega) (by omega) (by have:=bY.out.size;simp;omega) ?_;intro x' w3 hown1 hgrow _)
   have Jz:Hid (w3.ownsRow w0.heap.size 3 1 x' (bM T z (k+1)).length (vals (bM T z (k+1)))):=by
    show World.ownsRow _ _ _ _ _ _ _
    rw[HE.out,List.length_append,show vals (bM T z k++[k])=vals (bM T z k)++[.int .i64 (k:Int)] from by simp[vals]];exact hown1
   have Fx:Hid (Since w0 w3):=Below.grown (Since.alloc bY.out _) hgrow (by have:=bY.out.size;simp;omega) (fun j hj=>(yZ.out.lt j hj).1);clear hown1 hgrow;go_roundw
   case rel=>exact⟨k+1,by omega,by go_num,Jz.out,Fx.out⟩
   case measure=>simp[intOf];omega
  have hl2:lies T z k=false:=by cases h:lies T z k with | true=>exact absurd h hl | false=>rfl
  rw[show (decide (¬T.tag k=⟨#[]⟩)&&decide (T.aB k=z))=false from hl2];have HO:Hid (w1.ownsRow w0.heap.size 3 1 u5 (bM T z (k+1)).length (vals (bM T z (k+1)))):=by
   show World.ownsRow _ _ _ _ _ _ _
   rw[Bq hl2];exact yZ.out
  clear hl hl2;go_wp2_with fail
  go_roundw
  case rel=>exact⟨k+1,by omega,by go_num,HO.out,bY.out⟩
  case measure=>simp[intOf];omega
 have hke:k=24:=by omega
 subst hke;go_wp2_with fail
 go_ret;exact⟨_,rfl,DD HX.out HS.out.size,HS.out.trans jV.out⟩
end Sp
end Go.Proofs.YtmhcfaaggkidjaaGreatDoor
end
section
namespace Go.Proofs.YtmhcfaaggkidjaaGreatDoor
set_option maxRecDepth 100000
namespace Sp
open Go.RowKit
open Tw (Tb af bE bO fK jg dD kN pW)
theorem ou (w:World):(Instr.makeSlice 90 (.int .i64 8) (.int .i64 8)).run Tryz.prog w=.ok (.slice (some ⟨w.heap.size,0,none⟩) 8 8) (w.alloc (.cells (madeCells #[Value.int .i64 0] 8) 3)):=by
 obtain⟨i,hi,hz,hs,hb⟩:=info_parts Dz;have h:=run_makeSlice (P:=Tryz.prog) w 90 3 i _ Tryz.underlying90 hi hz .i64 .i64 8 8 (by omega) (by omega) (by rw[hs];omega) (by rw[hb];omega) (by omega);rw[hs,Nat.mul_one] at h
 simpa [Value.cells] using h
theorem DI (n j:Nat) (hj:j<n):(madeCells #[Value.int .i64 0] n)[j]?=some (.int .i64 0):=by
 unfold madeCells;simp[hj,Nat.mod_one]
def cnt (T:Tb) (k j:Nat):Value:=.int .i64 ((bM T (j:Int) k).length:Int)
theorem tH {T:Tb} {k:Nat} (h:∀j:Nat,j<8→lies T (j:Int) k=false) (j:Nat) (hj:j<8):cnt T k j=cnt T (k+1) j:=by
 unfold cnt;rw[Bq (h j hj)]
theorem TG {T:Tb} {k z:Nat} (ht:¬T.tag k=⟨#[]⟩) (hz:T.aB k=z) (j:Nat):aZ (cnt T k) z (.int .i64 (((bM T (z:Int) k).length:Int)+1)) j=cnt T (k+1) j:=by
 unfold aZ;by_cases e:j=z
 ·subst e;rw[if_pos rfl];unfold cnt;rw[OM (by unfold lies;rw[decide_eq_true ht,decide_eq_true hz];rfl),List.length_append];simp
 rw[if_neg e];unfold cnt;rw[Bq (by unfold lies;rw[decide_eq_false (p:=T.aB k=(j:Int)) (by omega),Bool.and_false])]
set_option maxHeartbeats 4000000 in
theorem OO (T:Tb) (w:World):Calls Tryz.prog 206 #[bE T] w fun e w'=>∃x,e=.returned x∧(∃b,x=.slice (some ⟨b,0,none⟩) 8 8∧ak w' b 8 (cnt T 24))∧Since w w':=by
 have HC:Hid (ak (w.alloc (.cells (aa 73 (af T)).toArray 163)) w.heap.size 73 (af T)):=fK T w;have HS:Hid (Since w (w.alloc (.cells (aa 73 (af T)).toArray 163))):=(Since.refl w).alloc _;have hsz:(w.alloc (.cells (aa 73 (af T)).toArray 163)).heap.size=w.heap.size+1:=World.size_alloc _ _;unfold bE;generalize (aa 73 (af T)).toArray=cs at *;have hmk:=ou (w.alloc (.cells cs 163));have HD:Hid (ak ((w.alloc (.cells cs 163)).alloc (.cells (madeCells #[Value.int .i64 0] 8) 3)) (w.heap.size+1) 8 (cnt T 0)):=by
  refine ak.new _ _ _ _ _ (fun j hj=>?_) _ hsz.symm;rw[show cnt T 0 j=.int .i64 0 from rfl];exact DI 8 j hj
 have yP:Hid (ak ((w.alloc (.cells cs 163)).alloc (.cells (madeCells #[Value.int .i64 0] 8) 3)) w.heap.size 73 (af T)):=HC.out.since ((Since.refl _).alloc _);have HS2:Hid (Since w ((w.alloc (.cells cs 163)).alloc (.cells (madeCells #[Value.int .i64 0] 8) 3))):=HS.out.alloc _;rw[hsz] at hmk;clear hsz HC HS;go_enter Tryz.func206,Tryz.ntmps206
 go_wp2_with fail
 clear hmk;generalize (w.alloc (.cells cs 163)).alloc (.cells (madeCells #[Value.int .i64 0] 8) 3)=w0 at *;go_loopw [7,4,5] (fun i _ _ wr=>∃k:Nat,k≤24∧i=.int .i64 k∧ak wr (w.heap.size+1) 8 (cnt T k)∧ak wr w.heap.size 73 (af T)∧Since w wr) (fun i _ _ _=>24-(intOf i).toNat)
 case atStart=>exact⟨0,by omega,rfl,HD.out,yP.out,HS2.out⟩
 clear HD yP HS2;obtain⟨k,hk,rfl,hd,hc,hs⟩:=hrel;have HD:Hid (ak wr (w.heap.size+1) 8 (cnt T k)):=hd;have HC:Hid (ak wr w.heap.size 73 (af T)):=hc;have jV:Hid (Since w wr):=hs;clear hd hc hs;by_cases hlt:k<24
 ·have hlt2:(k:Int)<24:=by omega
  obtain⟨q0,q1,q2⟩:=three HC.out k hlt;by_cases hneg:0≤T.aB k
  ·by_cases h8:T.aB k<8
   ·obtain⟨z,hz⟩:∃z:Nat,T.aB k=z:=⟨(T.aB k).toNat,by omega⟩
    have wJ:(z:Int)<8:=by omega
    have HZ:Hid (T.aB k=z):=hz;rw[hz] at q0;clear hz h8 hneg;go_wp2_with fail
    refine(DF _ _ _ _ _).mono ?_;rintro e w1 ⟨rfl,h1⟩;have HD1:Hid (ak w1 (w.heap.size+1) 8 (cnt T k)):=HD.out.since h1;have qU:Hid (ak w1 w.heap.size 73 (af T)):=HC.out.since h1;have bY:Hid (Since w w1):=jV.out.trans h1;clear h1 q0 q1 q2;by_cases te:T.tag k=⟨#[]⟩
    ·rw[show (decide (¬T.tag k=⟨#[]⟩)&&decide ((z:Int)=z))=false by simp[te]];have HD2:Hid (ak w1 (w.heap.size+1) 8 (cnt T (k+1))):=HD1.out.congr (tH (fun j _=>by unfold lies;rw[decide_eq_false (fun h=>h te)];rfl));clear te;go_wp2_with fail
     go_roundw
     case rel=>exact⟨k+1,by omega,by go_num,HD2.out,qU.out,bY.out⟩
     case measure=>simp[intOf];omega
    rw[show (decide (¬T.tag k=⟨#[]⟩)&&decide ((z:Int)=z))=true by simp[te]];have q3:w1.cell? ⟨w.heap.size+1,z,none⟩=some (.int .i64 ((bM T (z:Int) k).length:Int)):=HD1.out.cell z (by omega);have q4:=HD1.out.frozen z (by omega);have hle:=lN T (z:Int) k;have HW:Hid (ak (w1.setCell ⟨w.heap.size+1,z,none⟩ (.int .i64 (((bM T (z:Int) k).length:Int)+1))) (w.heap.size+1) 8 (cnt T (k+1))∧ak (w1.setCell ⟨w.heap.size+1,z,none⟩ (.int .i64 (((bM T (z:Int) k).length:Int)+1))) w.heap.size 73 (af T)∧Since w (w1.setCell ⟨w.heap.size+1,z,none⟩ (.int .i64 (((bM T (z:Int) k).length:Int)+1)))):=
     ⟨(HD1.out.set z (by omega) _).congr (fun j hj=>TG te HZ.out j),qU.out.other (by show w.heap.size+1≠w.heap.size;omega) _,bY.out.setCell (by show w.heap.size≤w.heap.size+1;omega) _⟩
    clear te;generalize (bM T (z:Int) k).length=nn at *;go_wp2_with fail
    go_roundw
    case rel=>exact⟨k+1,by omega,by go_num,HW.out.1,HW.out.2.1,HW.out.2.2⟩
    case measure=>simp[intOf];omega
   have HD2:Hid (ak wr (w.heap.size+1) 8 (cnt T (k+1))):=HD.out.congr (tH (fun j hj=>by unfold lies;rw[decide_eq_false (p:=T.aB k=(j:Int)) (by omega),Bool.and_false]));have h8d:decide (T.aB k<8)=false:=by simp;omega
   go_wp2_with fail
   go_roundw
   case rel=>exact⟨k+1,by omega,by go_num,HD2.out,HC.out,jV.out⟩
   case measure=>simp[intOf];omega
  have HD2:Hid (ak wr (w.heap.size+1) 8 (cnt T (k+1))):=HD.out.congr (tH (fun j hj=>by unfold lies;rw[decide_eq_false (p:=T.aB k=(j:Int)) (by omega),Bool.and_false]));go_wp2_with fail
  go_roundw
  case rel=>exact⟨k+1,by omega,by go_num,HD2.out,HC.out,jV.out⟩
  case measure=>simp[intOf];omega
 have hke:k=24:=by omega
 subst hke;go_wp2_with fail
 go_ret;exact⟨_,rfl,⟨_,rfl,HD.out⟩,jV.out⟩
end Sp
end Go.Proofs.YtmhcfaaggkidjaaGreatDoor
end
