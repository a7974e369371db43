import Derived.Test.YtlgbfkcpdelcbaaGreatDoorJ29
import Derived.Test.YtlgbfkcpdelcbaaGreatDoorJ34
set_option linter.unusedSimpArgs false
set_option linter.unusedVariables false
set_option maxHeartbeats 8000000
set_option maxRecDepth 100000
namespace Go.Proofs.YtlgbfkcpdelcbaaGreatDoor
section
namespace Fl
open Go.RowKit
open En (Fi fA Ints dF Row)
theorem aV (fb vb:Nat)(w:World)(h:w.cell? ⟨fb,0,none⟩=some (.pointer (some ⟨vb,0,none⟩))):Calls Tryz.prog 42 #[.pointer (some ⟨fb,0,none⟩)] w fun e w'=>e=.returned (.pointer (some ⟨fb,0,none⟩))∧w'=w:=by
 go_enter Tryz.func42,Tryz.ntmps42
 go_wp2_with fail
 go_ret;exact⟨rfl,rfl⟩
theorem ni (s:ByteArray)(w:World):Calls Tryz.prog 59 #[.string s] w fun e w'=>e=.returned (.func (.func 117) #[] #[.pointer (some ⟨w.heap.size,0,none⟩)])∧w'=w.alloc (.cells #[.string s] 9):=by
 go_enter Tryz.func59,Tryz.ntmps59
 go_wp2_with fail
 go_ret;exact⟨rfl,rfl⟩
theorem uV (f:Fi)(a:Option Addr)(n c:Nat)(s:ByteArray)(b:Nat)(w:World)(h:w.cell? ⟨b,0,none⟩=some (.string s)):Calls Tryz.prog 117 #[dF f (.slice a n c),.pointer (some ⟨b,0,none⟩)] w fun e w'=>e=.returned (.bool (decide (f.nm=s)))∧Since w w':=by
 unfold dF;have hS:=(Since.refl w).alloc (.cells #[.string f.nm,.int .i64 f.sz,.slice a n c] 129);have h2:=(hS.cell (p:=⟨b,0,none⟩) (World.block_lt_of_cell? w _ h)).trans h;have HS:=hid hS;clear hS;by_cases e:f.nm=s
 ·have hd:decide (f.nm=s)=true:=decide_eq_true e;rw[hd];subst e;go_enter Tryz.func117,Tryz.ntmps117
  go_wp2_with fail
  go_ret;exact⟨rfl,HS.o⟩
 have hd:decide (f.nm=s)=false:=decide_eq_false e;have hne:=Sl.fD e;rw[hd];clear e hd;go_enter Tryz.func117,Tryz.ntmps117
 go_wp2_with fail
 go_ret;exact⟨rfl,HS.o⟩
theorem oN:∀args w,(callFunc 117 args).run Tryz.prog w=.ok (.enter 117 args) w:=enters_of Tryz.func117 (by kernel_rfl) rfl
theorem vW (l:List Fi)(v:Value)(s:ByteArray)(b:Nat)(w:World)(hl:fA w v l)(hb:w.cell? ⟨b,0,none⟩=some (.string s))(hn:l.length≤1000) :
  Calls Tryz.prog 83 #[v,.func (.func 117) #[] #[.pointer (some ⟨b,0,none⟩)]] w fun e w'=>(∃i:Int,e=.returned (.int .i64 i)∧((∃k:Nat,i=k∧k<l.length∧(∃f,l[k]?=some f∧f.nm=s)∧∀j f,j<k→l[j]?=some f→¬f.nm=s)∨(i=-1∧∀f ∈ l,¬f.nm=s)))∧Since w w':=by
 obtain⟨a,c,rfl,hc⟩:∃a c,v=.slice a l.length c∧l.length≤c:=by
  obtain⟨a,c,h1,h2,_⟩:=hl;exact⟨a,c,h1,h2⟩
 have HL:=hid hl;have HB:=hid hb;have heg:=oN;clear hl hb;go_enter Tryz.func83,Tryz.ntmps83
 go_wp2_with fail
 go_loopw [8,5] (fun i _ wr=>∃k:Nat,k≤l.length∧i=.int .i64 k∧Since w wr∧∀j f,j<k→l[j]?=some f→¬f.nm=s) (fun i _ _=>l.length-(intOf i).toNat)
 case atStart=>exact⟨0,by omega,rfl,Since.refl _,fun j f hj=>by omega⟩
 obtain⟨k,hk,rfl,hs,hno⟩:=hrel;have HS:=hid hs;have YX:=hid hno;clear hs hno;by_cases hlt:k<l.length
 ·have hlt2:(k:Int)<l.length:=by omega
  have hE:Hid (l[k]?=some l[k]):=List.getElem?_eq_getElem hlt;generalize l[k]=f at *;obtain⟨k1,o1,u1,rfl,hi1,hl1,p0,p1,p2⟩:=(HL.o.since HS.o).at_ hE.out;obtain⟨a1,b1,rfl,_,_⟩:=hi1;have hcl:=uV f a1 f.cs.length b1 s b wr ((HS.o.cell (p:=⟨b,0,none⟩) (World.block_lt_of_cell? w _ HB.o)).trans HB.o);have TF:=hid hcl;clear hcl;go_wp2_with fail
  refine TF.o.mono ?_;rintro e w1 ⟨rfl,h1⟩;have cK:=hid (HS.o.trans h1);clear h1 p0 p1 p2;by_cases e:f.nm=s
  ·have hd:decide (f.nm=s)=true:=decide_eq_true e;have HEE:=hid e;rw[hd];clear e hd;go_wp2_with fail
   go_ret;exact⟨⟨_,rfl,Or.inl ⟨k,rfl,hlt,⟨f,hE.out,HEE.o⟩,YX.o⟩⟩,cK.o⟩
  have hd:decide (f.nm=s)=false:=decide_eq_false e;have HEE:=hid e;rw[hd];clear e hd;go_wp2_with fail
  go_roundw
  case rel=>
   refine⟨k+1,by omega,by go_num,cK.o,fun j g hj hg=>?_⟩;by_cases ej:j=k
   ·subst ej;have h1:=hE.out;rw[hg] at h1;injection h1 with h1
    rw[h1];exact HEE.o
   exact YX.o j g (by omega) hg
  case measure=>simp[intOf];omega
 have hke:k=l.length:=by omega
 subst hke;go_wp2_with fail
 go_ret;refine⟨⟨_,rfl,Or.inr ⟨rfl,fun f hf=>?_⟩⟩,HS.o⟩;obtain⟨j,hj,rfl⟩:=List.getElem_of_mem hf;exact YX.o j _ hj (List.getElem?_eq_getElem hj)
theorem Xy (l:List Fi)(v:Value)(s:ByteArray)(b:Nat)(w:World)(hl:fA w v l)(hb:w.cell? ⟨b,0,none⟩=some (.string s))(hn:l.length≤1000) :
  Calls Tryz.prog 58 #[v,.func (.func 117) #[] #[.pointer (some ⟨b,0,none⟩)]] w fun e w'=>((e=.returned (.bool true)∧∃f ∈ l,f.nm=s)∨(e=.returned (.bool false)∧∀f ∈ l,¬f.nm=s))∧Since w w':=by
 have hi:=vW l v s b w hl hb hn;obtain⟨a,c,rfl,_⟩:∃a c,v=.slice a l.length c∧l.length≤c:=by
  obtain⟨a,c,h1,h2,_⟩:=hl;exact⟨a,c,h1,h2⟩
 clear hl hb;go_enter Tryz.func58,Tryz.ntmps58
 go_wp2_with fail
 refine hi.mono ?_;rintro e w1 ⟨⟨i,rfl,hi⟩,h1⟩;rcases hi with⟨k,rfl,hk,⟨f,hf,hfs⟩,_⟩ | ⟨rfl,hno⟩
 ·have HH:Hid (∃f ∈ l,f.nm=s):=⟨f,List.mem_of_getElem? hf,hfs⟩
  clear hf hfs;have hd:decide ((0:Int)≤(k:Int))=true:=decide_eq_true (by omega);go_wp2_with fail
  go_ret;first
  | exact⟨Or.inl ⟨rfl,HH.o⟩,h1⟩
  | exact⟨Or.inl ⟨by simp,HH.o⟩,h1⟩
 have HH:=hid hno;clear hno;go_wp2_with fail
 go_ret;first
 | exact⟨Or.inr ⟨rfl,HH.o⟩,h1⟩
 | exact⟨Or.inr ⟨by simp,HH.o⟩,h1⟩
end Fl
end
section
namespace Fl
open Go.RowKit
open En (Fi fA Ints dF Row bW bP)
open Vl (Vs dL dB VP Base)
section
variable {w0 w w':World} {vb db cb fb:Nat} {kb kt:ByteArray} {S S':Vs} {v:Value}
def eQ (X:Nat→ByteArray)(cs:List Int):List UInt8:=(cs.map (fun c=>(X c.toNat).data.toList)).flatten
theorem AJ (X:Nat→ByteArray)(cs:List Int)(k:Nat)(c:Int)(h:cs[k]?=some c):eQ X (cs.take (k+1))=eQ X (cs.take k)++(X c.toNat).data.toList:=by
 unfold eQ;rw[List.take_add_one,h];simp
theorem oO (X:Nat→ByteArray)(hx:∀i,(X i).size≤80):∀cs:List Int,(eQ X cs).length≤80*cs.length
 | []=>by simp[eQ]
 | c::r=>by
  have ih:=oO X hx r;have h1:(eQ X (c::r)).length=(X c.toNat).data.toList.length+(eQ X r).length:=by simp[eQ]
  have h2:=hx c.toNat;have h3:(X c.toNat).data.toList.length=(X c.toNat).size:=by rw[Array.length_toList];rfl
  rw[h1,h3,List.length_cons];omega
theorem yA (h:dL w0 w vb db cb kb kt S v)(hx:∀i,(S.X i).size≤80)(cs:List Int)(cv:Value)(hc:Ints w cv cs)(hr:∀c ∈ cs,0≤c∧c<24)(hn:cs.length≤1000) :
  Calls Tryz.prog 38 #[.pointer (some ⟨vb,0,none⟩),cv] w fun e w'=>e=.returned (.tuple #[.string ⟨(eQ S.X cs).toArray⟩,.nilIface])∧Since w w':=by
 have HC:=hid hc;obtain⟨ca,cc,rfl,hcap,_⟩:=hc;have HV:=hid h;have HX:=hid hx;have HR:=hid hr;clear h hx hr;go_enter Tryz.func38,Tryz.ntmps38
 go_upto_region 2 with fail
 have hb0:Lib.IsBuilderF 161 5 w.heap.size w.heap.size [] (w.alloc (.cells #[.pointer none,.slice none 0 0] 161)):=Lib.IsBuilderF.of (Lib.fresh_isBuilder 161 5 w);have HB0:=hid hb0;have HS2:Hid (Since w (w.alloc (.cells #[.pointer none,.slice none 0 0] 161))):=(Since.refl _).alloc _;clear hb0;generalize w.alloc (.cells #[.pointer none,.slice none 0 0] 161)=w2 at *;go_wp2_with fail
 go_loopw [13,8] (fun i _ wr=>∃k:Nat,k≤cs.length∧i=.int .i64 k∧Lib.IsBuilderF 161 5 w.heap.size w.heap.size (Lib.byteCells (eQ S.X (cs.take k))) wr∧Since w wr) (fun i _ _=>cs.length-(intOf i).toNat)
 case atStart=>exact⟨0,by omega,rfl,by simpa [eQ,Lib.byteCells] using HB0.o,HS2.o⟩
 obtain⟨k,hk,rfl,hbk,hs⟩:=hrel;have VB:=hid hbk;have ed:=hid hs;clear hbk hs;by_cases hlt:k<cs.length
 ·have hlt2:(k:Int)<cs.length:=by omega
  have hE:Hid (cs[k]?=some cs[k]):=List.getElem?_eq_getElem hlt;have hrk:=HR.o cs[k] (List.getElem_mem hlt);have EA:=hid (AJ S.X cs k cs[k] hE.out);generalize cs[k]=c at *;obtain⟨TT,VI,rfl,hk1,hcell⟩:∃k o,ca=some ⟨k,o,none⟩∧k<w.heap.size∧∀j x,cs[j]?=some x→w.cell? ⟨k,o+j,none⟩=some (.int .i64 x):=by
   obtain⟨a',c',he,_,hh⟩:=HC.o;injection he with e1 _ _
   subst e1;exact hh (by omega)
  have q0:=(ed.o.cell (p:=⟨TT,VI+k,none⟩) hk1).trans (hcell k c hE.out);have hrd:S.read c=(S.X c.toNat,0):=by unfold Vl.Vs.read;rw[if_neg (by omega)]
  have hvr:=Vl.OQ c (HV.o.go ed.o);rw[hrd] at hvr;have HVR:Hid (Calls Tryz.prog 95 #[.pointer (some ⟨vb,0,none⟩),.int .i64 c] wr fun e w'=>e=.returned (.tuple #[.string (S.X c.toNat),.nilIface])∧w'=wr):=hvr;have TB:Hid ((Lib.byteCells (eQ S.X (cs.take k))).length+(S.X c.toNat).size≤140737488355328):=by
   show _≤_
   rw[Lib.byteCells_length];have h1:=oO S.X HX.o (cs.take k);have h2:=HX.o c.toNat;have h3:(cs.take k).length≤1000:=by simp;omega
   omega
  clear hcell hvr hrd hrk hk1;generalize S.X c.toNat=x at *;go_wp2_with fail
  refine HVR.o.mono ?_;rintro e w3 ⟨rfl,rfl⟩;clear q0;go_wp2_with fail
  refine(bP w.heap.size w.heap.size _ x _ VB.o TB.o ed.o.size).mono ?_;rintro e w4 ⟨rfl,h4,b4,_⟩;have fO:=hid (Below.trans ed.o b4);have Dk:Hid (Lib.IsBuilderF 161 5 w.heap.size w.heap.size (Lib.byteCells (eQ S.X (cs.take (k+1)))) w4):=by
   refine Or.inr ?_;rw[Lib.strCells_eq] at h4;rw[EA.o]
   simpa [Lib.byteCells] using h4
  clear h4 b4;go_wp2_with fail
  go_roundw
  case rel=>exact⟨k+1,by omega,by go_num,Dk.o,fO.o⟩
  case measure=>simp[intOf];omega
 have hke:k=cs.length:=by omega
 subst hke;rw[List.take_length] at VB;go_wp2_with fail
 refine(Tryz.Builder_String_any_k w.heap.size w.heap.size _ _ VB.o ed.o.size).mono ?_;rintro e w3 ⟨rfl,_,b3,_⟩;have dZ:=hid (Below.trans ed.o b3);clear b3;go_wp2_with fail
 go_ret2;exact⟨rfl,dZ.o⟩
def iO (kb kt:ByteArray):List Int→ByteArray→Vs→Int × Vs
 | [],_,S=>(0,S)
 | c::r,t,S=>if (S.write kb kt c (t.extract 0 (min t.size 80))).1≠0 then S.write kb kt c (t.extract 0 (min t.size 80)) else iO kb kt r (t.extract (min t.size 80) t.size) (S.write kb kt c (t.extract 0 (min t.size 80))).2
theorem AL {n:Int}(h:n≠0):ev n=.iface 32 (.int .i64 n):=by unfold ev;rw[if_neg h]
theorem vX:ev 0=.nilIface:=rfl
theorem yB (B:Base w0 kb kt)(n:Int)(ho:S.ok n)(hn:n+1000<900000000)(h:dL w0 w vb db cb kb kt S v)(hf:w.cell? ⟨fb,0,none⟩=some (.pointer (some ⟨vb,0,none⟩)))(Be:¬VP vb db cb v fb)(cs:List Int)(cv:Value)(hc:Ints w cv cs)(hcb:∀k o m c,cv=.slice (some ⟨k,o,none⟩) m c→¬VP vb db cb v k)(hl:cs.length≤1000)(t:ByteArray) :
  Calls Tryz.prog 47 #[.pointer (some ⟨fb,0,none⟩),cv,.string t] w fun e w'=>e=.returned (ev (iO kb kt cs t S).1)∧dB w0 w w' vb db cb kb kt (iO kb kt cs t S).2 v∧(iO kb kt cs t S).2.ok (n+cs.length):=by
 have HC:=hid hc;have Pk:=hid hcb;obtain⟨ca,cc,rfl,hcap,_⟩:=hc;have HV:=hid h;have HB:=hid B;have HO:=hid (an ho hn);have jE:Hid (w.cell? ⟨fb,0,none⟩=some (.pointer (some ⟨vb,0,none⟩))∧¬VP vb db cb v fb∧fb<w.heap.size):=⟨hf,Be,World.block_lt_of_cell? w _ hf⟩
 clear h hf Be hcb B ho hn;go_enter Tryz.func47,Tryz.ntmps47
 go_wp2_with fail
 go_loopw [13,2] (fun i x wr=>∃(j:Nat) (S1:Vs) (v1:Value) (t1:ByteArray),j≤cs.length∧i=.int .i64 j∧x=.string t1∧dL w0 wr vb db cb kb kt S1 v1∧(∀w' S',dB w0 wr w' vb db cb kb kt S' v1→dB w0 w w' vb db cb kb kt S' v)∧(∀b,b<w.heap.size→¬VP vb db cb v b→(∀o,wr.cell? ⟨b,o,none⟩=w.cell? ⟨b,o,none⟩)∧¬VP vb db cb v1 b)∧w.heap.size≤wr.heap.size∧S1.ok (n+j)∧iO kb kt cs t S=iO kb kt (cs.drop j) t1 S1) (fun i _ _=>cs.length-(intOf i).toNat)
 case atStart=>exact⟨0,S,v,t,by omega,rfl,rfl,HV.o,fun _ _ h=>h,fun b _ hb=>⟨fun _=>rfl,hb⟩,Nat.le_refl _,by simpa using HO.o.1,by rw[List.drop_zero]⟩
 obtain⟨j,S1,v1,t1,hj,rfl,rfl,hv,hto,hfr,hsz,hok,heq⟩:=hrel;have HR:=hid (an hv (an hto (an hfr (an hsz (an hok heq)))));have p0:wr.cell? ⟨fb,0,none⟩=some (.pointer (some ⟨vb,0,none⟩)):=((hfr fb jE.o.2.2 jE.o.2.1).1 0).trans jE.o.1;clear hv hto hfr hsz hok heq;by_cases hlt:j<cs.length
 ·have hlt2:(j:Int)<cs.length:=by omega
  have hE:Hid (cs[j]?=some cs[j]):=List.getElem?_eq_getElem hlt;have HDR:=hid (List.drop_eq_getElem_cons hlt);generalize cs[j]=c at *;obtain⟨TT,VI,rfl,hk1,hcell⟩:∃k o,ca=some ⟨k,o,none⟩∧k<w.heap.size∧∀j x,cs[j]?=some x→w.cell? ⟨k,o+j,none⟩=some (.int .i64 x):=by
   obtain⟨a',c',he,_,hh⟩:=HC.o;injection he with e1 _ _
   subst e1;exact hh (by omega)
  have hnk:¬VP vb db cb v TT:=Pk.o TT VI _ _ rfl;have q0:=((HR.o.2.2.1 TT hk1 hnk).1 (VI+j)).trans (hcell j c hE.out);have YU:=hid (an hk1 hnk);have kQ:Hid (∀W:World,Since wr W→W.cell? ⟨fb,0,none⟩=some (.pointer (some ⟨vb,0,none⟩))):=fun W hW=>(hW.cell (p:=⟨fb,0,none⟩) (World.block_lt_of_cell? _ _ p0)).trans p0
  have HW:Hid (∀W:World,Since wr W→Calls Tryz.prog 105 #[.pointer (some ⟨vb,0,none⟩),.int .i64 c,.string (t1.extract 0 (min t1.size 80))] W fun e w'=>e=.returned (ev (S1.write kb kt c (t1.extract 0 (min t1.size 80))).1)∧dB w0 wr w' vb db cb kb kt (S1.write kb kt c (t1.extract 0 (min t1.size 80))).2 v1∧w'.cell? ⟨fb,0,none⟩=some (.pointer (some ⟨vb,0,none⟩))):=fun W hW=>by
   obtain⟨hv,hto,hfr,hsz,hok,heq⟩:=HR.o;refine(Vl.OX HB.o (n+j) hok (by have:=HO.o.2;omega) c _ (hv.go hW)).mono ?_;rintro e w' ⟨rfl,hv'⟩;have h1:=dB.pre hW hv';obtain⟨_,_,_,hc1,_,_⟩:=h1.YR (hfr fb jE.o.2.2 jE.o.2.1).2 (Nat.lt_of_lt_of_le jE.o.2.2 hsz);exact⟨rfl,h1,(hc1 0).trans p0⟩
  clear hcell hk1 hnk;have HMX:Hid (iO kb kt (c::cs.drop (j+1)) t1 S1=if (S1.write kb kt c (t1.extract 0 (min t1.size 80))).1≠0 then S1.write kb kt c (t1.extract 0 (min t1.size 80)) else iO kb kt (cs.drop (j+1)) (t1.extract (min t1.size 80) t1.size) (S1.write kb kt c (t1.extract 0 (min t1.size 80))).2):=rfl;have TU:Hid ((S1.write kb kt c (t1.extract 0 (min t1.size 80))).2.ok (n+j+1)):=HR.o.2.2.2.2.1.write kb kt c _;have hmn:min (t1.size:Int) 80=((min t1.size 80:Nat):Int):=by omega
  have hm1:(((min t1.size 80:Nat)):Int)≤t1.size:=by omega
  have hm2:min t1.size 80≤t1.size:=by omega
  go_wp2_with fail
  (try rw[hmn])
  clear hmn;generalize min t1.size 80=m at *;generalize hWR:S1.write kb kt c (t1.extract 0 m)=WR at *;clear hWR;go_region_held3 (fun W=>W.cell? ⟨fb,0,none⟩=some (.pointer (some ⟨vb,0,none⟩))) (first | exact kQ.o _ (Since.refl _) | exact kQ.o _ (Since.refl _).drew | exact HR2.o.2) (first
   | (go_simp;go_at_call 105;refine(HW.o _ (Since.refl wr).drew).mono ?_;rintro e w2 ⟨rfl,hv2,hq2⟩;have HR2:Hid (dB w0 wr w2 vb db cb kb kt WR.2 v1∧w2.cell? ⟨fb,0,none⟩=some (.pointer (some ⟨vb,0,none⟩))):=⟨hv2,hq2⟩;clear hv2 hq2;dsimp only))
  clear p0 q0;by_cases hr:WR.1=0
  ·have HRR:=hid hr;rw[hr,vX];clear hr;go_wp2_with fail
   go_roundw
   case rel=>
    obtain⟨hv,hto,hfr,hsz,hok,heq⟩:=HR.o;obtain⟨v2,h2,f2,n2⟩:=HR2.o.1;refine⟨j+1,WR.2,v2,t1.extract m t1.size,by omega,by go_num,rfl,h2,fun w' S' hx=>hto w' S' ?_,fun b hb hnb=>?_,Nat.le_trans hsz f2.size,TU.o.le (by omega),?_⟩
    ·obtain⟨v3,h3,f3,n3⟩:=hx;exact⟨v3,h3,f2.trans' f3 (Vl.VP.nx n2),n2.trans n3 f2.size⟩
    ·obtain⟨g1,g2⟩:=hfr b hb hnb;refine⟨fun o=>(f2.cell (p:=⟨b,o,none⟩) (Nat.lt_of_lt_of_le hb hsz) g2).trans (g1 o),fun q=>?_⟩;rcases Vl.VP.nx n2 b q with q | q
     ·exact g2 q
     omega
    rw[heq,HDR.o,HMX.o,if_neg (by rw[HRR.o];decide)]
   case measure=>simp[intOf];omega
  have HRR:=hid hr;rw[AL hr];clear hr;go_wp2_with fail
  go_ret;obtain⟨hv,hto,hfr,hsz,hok,heq⟩:=HR.o;rw[heq,HDR.o,HMX.o,if_pos HRR.o,AL HRR.o];exact⟨rfl,hto _ _ HR2.o.1,TU.o.le (by omega)⟩
 have JB:j=cs.length:=by omega
 subst JB;go_wp2_with fail
 go_ret;obtain⟨hv,hto,hfr,hsz,hok,heq⟩:=HR.o;rw[List.drop_length] at heq;rw[heq];exact⟨rfl,hto _ _ hv.self,hok⟩
end
end Fl
end
section
namespace Fl
open Go.RowKit
open En (Fi fA Ints dF Row)
theorem a4J (w:World):(Instr.makeSlice 61 (.int .i64 3) (.int .i64 3)).run Tryz.prog w=.ok (.slice (some ⟨w.heap.size,0,none⟩) 3 3) (w.alloc (.cells #[.int .i64 0,.int .i64 0,.int .i64 0] 3)):=by
 obtain⟨i,hi,hz,hs,hb⟩:=info_parts En.info3';have h:=run_makeSlice (P:=Tryz.prog) w 61 3 i _ Tryz.underlying61 hi hz .i64 .i64 3 3 (by omega) (by omega) (by rw[hs];omega) (by rw[hb];omega) (by omega);rw[hs,Nat.mul_one] at h;have e:madeCells (Value.int .i64 0).cells (Int.toNat 3)=#[.int .i64 0,.int .i64 0,.int .i64 0]:=by kernel_rfl
 rw[e] at h;exact h
theorem qp (w:World):Calls Tryz.prog 39 #[] w fun e w'=>e=.returned (.slice (some ⟨w.heap.size,0,none⟩) 3 3)∧w'.ownsRow w.heap.size 3 1 (.slice (some ⟨w.heap.size,0,none⟩) 3 3) 3 [.int .i64 0,.int .i64 1,.int .i64 2]∧Since w w':=by
 have hm:=a4J w;go_enter Tryz.func39,Tryz.ntmps39
 go_wp2_with fail
 refine wp_loop_rounds 4 ?_;iterate 4 (rw[rounds_succ];go_wp2_with fail)
 go_ret;refine⟨rfl,⟨by simp,.inr ⟨w.heap.size,3,#[.int .i64 0,.int .i64 1,.int .i64 2],rfl,Nat.le_refl _,?_,Nat.le_refl _,by unfold maxLen;omega,rfl,rfl⟩⟩,?_⟩
 ·first | exact heap_alloc_new w _ | simp
 first | exact(Since.refl w).alloc _ | exact((((Since.refl w).alloc _).setCell (Nat.le_refl _) _).setCell (Nat.le_refl _) _).setCell (Nat.le_refl _) _
theorem jo (s:ByteArray)(w:World):Calls Tryz.prog 170 #[.string s] w fun e w'=>e=.returned (.bool false)∧w'=w:=by
 go_enter Tryz.func170,Tryz.ntmps170
 go_wp2_with fail
 go_ret;exact⟨by simp,rfl⟩
theorem yC:∀args w,(callFunc 107 args).run Tryz.prog w=.ok (.enter 107 args) w:=enters_of Tryz.func107 (by kernel_rfl) rfl
end Fl
end
end Go.Proofs.YtlgbfkcpdelcbaaGreatDoor
