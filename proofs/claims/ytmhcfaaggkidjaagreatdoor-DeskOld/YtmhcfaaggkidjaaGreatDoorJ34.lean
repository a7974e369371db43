import Derived.Test.YtmhcfaaggkidjaaGreatDoorJ29
import Derived.Test.YtmhcfaaggkidjaaGreatDoorJ33
set_option linter.unusedSimpArgs false
set_option linter.unusedVariables false
section
namespace Go.Proofs.YtmhcfaaggkidjaaGreatDoor
set_option maxRecDepth 100000
namespace Fl
open Go.RowKit
open En (Fi iX Ints fZ Row)
theorem aO (fb vb:Nat) (w:World) (h:w.cell? ⟨fb,0,none⟩=some (.pointer (some ⟨vb,0,none⟩))):Calls Tryz.prog 66 #[.pointer (some ⟨fb,0,none⟩)] w fun e w'=>e=.returned (.pointer (some ⟨fb,0,none⟩))∧w'=w:=by
 go_enter Tryz.func66,Tryz.ntmps66
 go_wp2_with fail
 go_ret;exact⟨rfl,rfl⟩
theorem lW (s:ByteArray) (w:World):Calls Tryz.prog 79 #[.string s] w fun e w'=>e=.returned (.func (.func 137) #[] #[.pointer (some ⟨w.heap.size,0,none⟩)])∧w'=w.alloc (.cells #[.string s] 9):=by
 go_enter Tryz.func79,Tryz.ntmps79
 go_wp2_with fail
 go_ret;exact⟨rfl,rfl⟩
theorem uP (f:Fi) (a:Option Addr) (n c:Nat) (s:ByteArray) (b:Nat) (w:World) (h:w.cell? ⟨b,0,none⟩=some (.string s)):Calls Tryz.prog 137 #[fZ f (.slice a n c),.pointer (some ⟨b,0,none⟩)] w fun e w'=>e=.returned (.bool (decide (f.nm=s)))∧Since w w':=by
 unfold fZ;have hS:=(Since.refl w).alloc (.cells #[.string f.nm,.int .i64 f.sz,.slice a n c] 122);have h2:=(hS.cell (p:=⟨b,0,none⟩) (World.block_lt_of_cell? w _ h)).trans h;have HS:Hid (Since w (w.alloc (.cells #[.string f.nm,.int .i64 f.sz,.slice a n c] 122))):=hS;clear hS;by_cases e:f.nm=s
 ·have hd:decide (f.nm=s)=true:=decide_eq_true e;rw[hd];subst e;go_enter Tryz.func137,Tryz.ntmps137
  go_wp2_with fail
  go_ret;exact⟨rfl,HS.out⟩
 have hd:decide (f.nm=s)=false:=decide_eq_false e;have hne:=Sl.iP e;rw[hd];clear e hd;go_enter Tryz.func137,Tryz.ntmps137
 go_wp2_with fail
 go_ret;exact⟨rfl,HS.out⟩
theorem nM:∀args w,(callFunc 137 args).run Tryz.prog w=.ok (.enter 137 args) w:=enters_of Tryz.func137 (by kernel_rfl) rfl
set_option maxHeartbeats 2000000 in
theorem vR (l:List Fi) (v:Value) (s:ByteArray) (b:Nat) (w:World) (hl:iX w v l) (hb:w.cell? ⟨b,0,none⟩=some (.string s)) (hn:l.length≤1000) :
  Calls Tryz.prog 85 #[v,.func (.func 137) #[] #[.pointer (some ⟨b,0,none⟩)]] w fun e w'=>(∃i:Int,e=.returned (.int .i64 i)∧((∃k:Nat,i=k∧k<l.length∧(∃f,l[k]?=some f∧f.nm=s)∧∀j f,j<k→l[j]?=some f→¬f.nm=s)∨(i=-1∧∀f ∈ l,¬f.nm=s)))∧Since w w':=by
 obtain⟨a,c,rfl,hc⟩:∃a c,v=.slice a l.length c∧l.length≤c:=by
  obtain⟨a,c,h1,h2,_⟩:=hl;exact⟨a,c,h1,h2⟩
 have HL:Hid (iX w (.slice a l.length c) l):=hl;have HB:Hid (w.cell? ⟨b,0,none⟩=some (.string s)):=hb;have Zo:=nM;clear hl hb;go_enter Tryz.func85,Tryz.ntmps85
 go_wp2_with fail
 go_loopw [8,5] (fun i _ wr=>∃k:Nat,k≤l.length∧i=.int .i64 k∧Since w wr∧∀j f,j<k→l[j]?=some f→¬f.nm=s) (fun i _ _=>l.length-(intOf i).toNat)
 case atStart=>exact⟨0,by omega,rfl,Since.refl _,fun j f hj=>by omega⟩
 obtain⟨k,hk,rfl,hs,hno⟩:=hrel;have HS:Hid (Since w wr):=hs;have HNO:Hid (∀j f,j<k→l[j]?=some f→¬f.nm=s):=hno;clear hs hno;by_cases hlt:k<l.length
 ·have hlt2:(k:Int)<l.length:=by omega
  have hE:Hid (l[k]?=some l[k]):=List.getElem?_eq_getElem hlt;generalize l[k]=f at *;obtain⟨k1,o1,u1,rfl,hi1,hl1,p0,p1,p2⟩:=(HL.out.since HS.out).at_ hE.out;obtain⟨a1,b1,rfl,_,_⟩:=hi1;have hcl:=uP f a1 f.cs.length b1 s b wr ((HS.out.cell (p:=⟨b,0,none⟩) (World.block_lt_of_cell? w _ HB.out)).trans HB.out);have Ug:Hid (Calls Tryz.prog 137 #[fZ f (.slice a1 f.cs.length b1),.pointer (some ⟨b,0,none⟩)] wr fun e w'=>e=.returned (.bool (decide (f.nm=s)))∧Since wr w'):=hcl;clear hcl;go_wp2_with fail
  refine Ug.out.mono ?_;rintro e w1 ⟨rfl,h1⟩;have bY:Hid (Since w w1):=HS.out.trans h1;clear h1 p0 p1 p2;by_cases e:f.nm=s
  ·have hd:decide (f.nm=s)=true:=decide_eq_true e;have XQ:Hid (f.nm=s):=e;rw[hd];clear e hd;go_wp2_with fail
   go_ret;exact⟨⟨_,rfl,Or.inl ⟨k,rfl,hlt,⟨f,hE.out,XQ.out⟩,HNO.out⟩⟩,bY.out⟩
  have hd:decide (f.nm=s)=false:=decide_eq_false e;have XQ:Hid (¬f.nm=s):=e;rw[hd];clear e hd;go_wp2_with fail
  go_roundw
  case rel=>
   refine⟨k+1,by omega,by go_num,bY.out,fun j g hj hg=>?_⟩;by_cases ej:j=k
   ·subst ej;have h1:=hE.out;rw[hg] at h1;injection h1 with h1
    rw[h1];exact XQ.out
   exact HNO.out j g (by omega) hg
  case measure=>simp[intOf];omega
 have hke:k=l.length:=by omega
 subst hke;go_wp2_with fail
 go_ret;refine⟨⟨_,rfl,Or.inr ⟨rfl,fun f hf=>?_⟩⟩,HS.out⟩;obtain⟨j,hj,rfl⟩:=List.getElem_of_mem hf;exact HNO.out j _ hj (List.getElem?_eq_getElem hj)
theorem Ui (l:List Fi) (v:Value) (s:ByteArray) (b:Nat) (w:World) (hl:iX w v l) (hb:w.cell? ⟨b,0,none⟩=some (.string s)) (hn:l.length≤1000) :
  Calls Tryz.prog 78 #[v,.func (.func 137) #[] #[.pointer (some ⟨b,0,none⟩)]] w fun e w'=>((e=.returned (.bool true)∧∃f ∈ l,f.nm=s)∨(e=.returned (.bool false)∧∀f ∈ l,¬f.nm=s))∧Since w w':=by
 have hi:=vR l v s b w hl hb hn;obtain⟨a,c,rfl,_⟩:∃a c,v=.slice a l.length c∧l.length≤c:=by
  obtain⟨a,c,h1,h2,_⟩:=hl;exact⟨a,c,h1,h2⟩
 clear hl hb;go_enter Tryz.func78,Tryz.ntmps78
 go_wp2_with fail
 refine hi.mono ?_;rintro e w1 ⟨⟨i,rfl,hi⟩,h1⟩;rcases hi with⟨k,rfl,hk,⟨f,hf,hfs⟩,_⟩ | ⟨rfl,hno⟩
 ·have HH:Hid (∃f ∈ l,f.nm=s):=⟨f,List.mem_of_getElem? hf,hfs⟩
  clear hf hfs;have hd:decide ((0:Int)≤(k:Int))=true:=decide_eq_true (by omega);go_wp2_with fail
  go_ret;first
  | exact⟨Or.inl ⟨rfl,HH.out⟩,h1⟩
  | exact⟨Or.inl ⟨by simp,HH.out⟩,h1⟩
 have HH:Hid (∀f ∈ l,¬f.nm=s):=hno;clear hno;go_wp2_with fail
 go_ret;first
 | exact⟨Or.inr ⟨rfl,HH.out⟩,h1⟩
 | exact⟨Or.inr ⟨by simp,HH.out⟩,h1⟩
end Fl
end Go.Proofs.YtmhcfaaggkidjaaGreatDoor
end
section
namespace Go.Proofs.YtmhcfaaggkidjaaGreatDoor
set_option maxRecDepth 100000
namespace Fl
open Go.RowKit
open En (Fi iX Ints fZ Row bD bq)
open Vl (Vs bg bF VP Base)
section
variable {w0 w w':World} {vb db cb fb:Nat} {kb kt:ByteArray} {S S':Vs} {v:Value}
def bf (X:Nat→ByteArray) (cs:List Int):List UInt8:=(cs.map (fun c=>(X c.toNat).data.toList)).flatten
theorem LU (X:Nat→ByteArray) (cs:List Int) (k:Nat) (c:Int) (h:cs[k]?=some c):bf X (cs.take (k+1))=bf X (cs.take k)++(X c.toNat).data.toList:=by
 unfold bf;rw[List.take_add_one,h];simp
theorem rX (X:Nat→ByteArray) (hx:∀i,(X i).size≤80):∀cs:List Int,(bf X cs).length≤80*cs.length
 | []=>by simp[bf]
 | c::r=>by
  have ih:=rX X hx r;have h1:(bf X (c::r)).length=(X c.toNat).data.toList.length+(bf X r).length:=by simp[bf]
  have h2:=hx c.toNat;have h3:(X c.toNat).data.toList.length=(X c.toNat).size:=by rw[Array.length_toList];rfl
  rw[h1,h3,List.length_cons];omega
set_option maxHeartbeats 4000000 in
theorem xS (h:bg w0 w vb db cb kb kt S v) (hx:∀i,(S.X i).size≤80) (cs:List Int) (cv:Value) (hc:Ints w cv cs) (hr:∀c ∈ cs,0≤c∧c<24) (hn:cs.length≤1000) :
  Calls Tryz.prog 63 #[.pointer (some ⟨vb,0,none⟩),cv] w fun e w'=>e=.returned (.tuple #[.string ⟨(bf S.X cs).toArray⟩,.nilIface])∧Since w w':=by
 have HC:Hid (Ints w cv cs):=hc;obtain⟨ca,cc,rfl,hcap,_⟩:=hc;have HV:Hid (bg w0 w vb db cb kb kt S v):=h;have HX:Hid (∀i,(S.X i).size≤80):=hx;have HR:Hid (∀c ∈ cs,0≤c∧c<24):=hr;clear h hx hr;go_enter Tryz.func63,Tryz.ntmps63
 go_upto_region 2 with fail
 have hb0:Lib.IsBuilderF 40 5 w.heap.size w.heap.size [] (w.alloc (.cells #[.pointer none,.slice none 0 0] 40)):=Lib.IsBuilderF.of (Lib.fresh_isBuilder 40 5 w);have HB0:Hid (Lib.IsBuilderF 40 5 w.heap.size w.heap.size [] (w.alloc (.cells #[.pointer none,.slice none 0 0] 40))):=hb0;have HS2:Hid (Since w (w.alloc (.cells #[.pointer none,.slice none 0 0] 40))):=(Since.refl _).alloc _;clear hb0;generalize w.alloc (.cells #[.pointer none,.slice none 0 0] 40)=w2 at *;go_wp2_with fail
 go_loopw [13,8] (fun i _ wr=>∃k:Nat,k≤cs.length∧i=.int .i64 k∧Lib.IsBuilderF 40 5 w.heap.size w.heap.size (Lib.byteCells (bf S.X (cs.take k))) wr∧Since w wr) (fun i _ _=>cs.length-(intOf i).toNat)
 case atStart=>exact⟨0,by omega,rfl,by simpa [bf,Lib.byteCells] using HB0.out,HS2.out⟩
 obtain⟨k,hk,rfl,hbk,hs⟩:=hrel;have Sq:Hid (Lib.IsBuilderF 40 5 w.heap.size w.heap.size (Lib.byteCells (bf S.X (cs.take k))) wr):=hbk;have jV:Hid (Since w wr):=hs;clear hbk hs;by_cases hlt:k<cs.length
 ·have hlt2:(k:Int)<cs.length:=by omega
  have hE:Hid (cs[k]?=some cs[k]):=List.getElem?_eq_getElem hlt;have hrk:=HR.out cs[k] (List.getElem_mem hlt);have Za:Hid (bf S.X (cs.take (k+1))=bf S.X (cs.take k)++(S.X (cs[k]).toNat).data.toList):=LU S.X cs k cs[k] hE.out;generalize cs[k]=c at *;obtain⟨XR,ko1,rfl,hk1,hcell⟩:∃k o,ca=some ⟨k,o,none⟩∧k<w.heap.size∧∀j x,cs[j]?=some x→w.cell? ⟨k,o+j,none⟩=some (.int .i64 x):=by
   obtain⟨a',c',he,_,hh⟩:=HC.out;injection he with e1 _ _
   subst e1;exact hh (by omega)
  have q0:=(jV.out.cell (p:=⟨XR,ko1+k,none⟩) hk1).trans (hcell k c hE.out);have hrd:S.read c=(S.X c.toNat,0):=by unfold Vl.Vs.read;rw[if_neg (by omega)]
  have XT:=Vl.Lf c (HV.out.go jV.out);rw[hrd] at XT;have HVR:Hid (Calls Tryz.prog 116 #[.pointer (some ⟨vb,0,none⟩),.int .i64 c] wr fun e w'=>e=.returned (.tuple #[.string (S.X c.toNat),.nilIface])∧w'=wr):=XT;have XM:Hid ((Lib.byteCells (bf S.X (cs.take k))).length+(S.X c.toNat).size≤140737488355328):=by
   show _≤_
   rw[Lib.byteCells_length];have h1:=rX S.X HX.out (cs.take k);have h2:=HX.out c.toNat;have h3:(cs.take k).length≤1000:=by simp;omega
   omega
  clear hcell XT hrd hrk hk1;generalize S.X c.toNat=x at *;go_wp2_with fail
  refine HVR.out.mono ?_;rintro e w3 ⟨rfl,rfl⟩;clear q0;go_wp2_with fail
  refine(bq w.heap.size w.heap.size _ x _ Sq.out XM.out jV.out.size).mono ?_;rintro e w4 ⟨rfl,h4,b4,_⟩;have iY:Hid (Since w w4):=Below.trans jV.out b4;have Ny:Hid (Lib.IsBuilderF 40 5 w.heap.size w.heap.size (Lib.byteCells (bf S.X (cs.take (k+1)))) w4):=by
   refine Or.inr ?_;rw[Lib.strCells_eq] at h4;rw[Za.out]
   simpa [Lib.byteCells] using h4
  clear h4 b4;go_wp2_with fail
  go_roundw
  case rel=>exact⟨k+1,by omega,by go_num,Ny.out,iY.out⟩
  case measure=>simp[intOf];omega
 have hke:k=cs.length:=by omega
 subst hke;rw[List.take_length] at Sq;go_wp2_with fail
 refine(Tryz.Builder_String_any_k w.heap.size w.heap.size _ _ Sq.out jV.out.size).mono ?_;rintro e w3 ⟨rfl,_,b3,_⟩;have iw:Hid (Since w w3):=Below.trans jV.out b3;clear b3;go_wp2_with fail
 go_ret2;exact⟨rfl,iw.out⟩
def eZ (kb kt:ByteArray):List Int→ByteArray→Vs→Int × Vs
 | [],_,S=>(0,S)
 | c::r,t,S=>if (S.write kb kt c (t.extract 0 (min t.size 80))).1≠0 then S.write kb kt c (t.extract 0 (min t.size 80)) else eZ kb kt r (t.extract (min t.size 80) t.size) (S.write kb kt c (t.extract 0 (min t.size 80))).2
theorem Af {n:Int} (h:n≠0):ev n=.iface 32 (.int .i64 n):=by unfold ev;rw[if_neg h]
theorem BN:ev 0=.nilIface:=rfl
set_option maxHeartbeats 8000000 in
theorem xU (B:Base w0 kb kt) (n:Int) (ho:S.ok n) (hn:n+1000<900000000) (h:bg w0 w vb db cb kb kt S v) (hf:w.cell? ⟨fb,0,none⟩=some (.pointer (some ⟨vb,0,none⟩))) (Sj:¬VP vb db cb v fb) (cs:List Int) (cv:Value) (hc:Ints w cv cs) (hcb:∀k o m c,cv=.slice (some ⟨k,o,none⟩) m c→¬VP vb db cb v k) (hl:cs.length≤1000) (t:ByteArray) :
  Calls Tryz.prog 70 #[.pointer (some ⟨fb,0,none⟩),cv,.string t] w fun e w'=>e=.returned (ev (eZ kb kt cs t S).1)∧bF w0 w w' vb db cb kb kt (eZ kb kt cs t S).2 v∧(eZ kb kt cs t S).2.ok (n+cs.length):=by
 have HC:Hid (Ints w cv cs):=hc;have SA:Hid (∀k o m c,cv=.slice (some ⟨k,o,none⟩) m c→¬VP vb db cb v k):=hcb;obtain⟨ca,cc,rfl,hcap,_⟩:=hc;have HV:Hid (bg w0 w vb db cb kb kt S v):=h;have HB:Hid (Base w0 kb kt):=B;have HO:Hid (S.ok n∧n+1000<900000000):=⟨ho,hn⟩
 have Wx:Hid (w.cell? ⟨fb,0,none⟩=some (.pointer (some ⟨vb,0,none⟩))∧¬VP vb db cb v fb∧fb<w.heap.size):=⟨hf,Sj,World.block_lt_of_cell? w _ hf⟩
 clear h hf Sj hcb B ho hn;go_enter Tryz.func70,Tryz.ntmps70
 go_wp2_with fail
 go_loopw [13,2] (fun i x wr=>∃(j:Nat) (S1:Vs) (v1:Value) (t1:ByteArray),j≤cs.length∧i=.int .i64 j∧x=.string t1∧bg w0 wr vb db cb kb kt S1 v1∧(∀w' S',bF w0 wr w' vb db cb kb kt S' v1→bF w0 w w' vb db cb kb kt S' v)∧(∀b,b<w.heap.size→¬VP vb db cb v b→(∀o,wr.cell? ⟨b,o,none⟩=w.cell? ⟨b,o,none⟩)∧¬VP vb db cb v1 b)∧w.heap.size≤wr.heap.size∧S1.ok (n+j)∧eZ kb kt cs t S=eZ kb kt (cs.drop j) t1 S1) (fun i _ _=>cs.length-(intOf i).toNat)
 case atStart=>exact⟨0,S,v,t,by omega,rfl,rfl,HV.out,fun _ _ h=>h,fun b _ hb=>⟨fun _=>rfl,hb⟩,Nat.le_refl _,by simpa using HO.out.1,by rw[List.drop_zero]⟩
 obtain⟨j,S1,v1,t1,hj,rfl,rfl,hv,hto,hfr,hsz,hok,heq⟩:=hrel;have HR:Hid (bg w0 wr vb db cb kb kt S1 v1∧(∀w' S',bF w0 wr w' vb db cb kb kt S' v1→bF w0 w w' vb db cb kb kt S' v)∧(∀b,b<w.heap.size→¬VP vb db cb v b→(∀o,wr.cell? ⟨b,o,none⟩=w.cell? ⟨b,o,none⟩)∧¬VP vb db cb v1 b)∧w.heap.size≤wr.heap.size∧S1.ok (n+j)∧eZ kb kt cs t S=eZ kb kt (cs.drop j) t1 S1):=⟨hv,hto,hfr,hsz,hok,heq⟩
 have p0:wr.cell? ⟨fb,0,none⟩=some (.pointer (some ⟨vb,0,none⟩)):=((hfr fb Wx.out.2.2 Wx.out.2.1).1 0).trans Wx.out.1;clear hv hto hfr hsz hok heq;by_cases hlt:j<cs.length
 ·have hlt2:(j:Int)<cs.length:=by omega
  have hE:Hid (cs[j]?=some cs[j]):=List.getElem?_eq_getElem hlt;have HDR:Hid (cs.drop j=cs[j]::cs.drop (j+1)):=List.drop_eq_getElem_cons hlt;generalize cs[j]=c at *;obtain⟨XR,ko1,rfl,hk1,hcell⟩:∃k o,ca=some ⟨k,o,none⟩∧k<w.heap.size∧∀j x,cs[j]?=some x→w.cell? ⟨k,o+j,none⟩=some (.int .i64 x):=by
   obtain⟨a',c',he,_,hh⟩:=HC.out;injection he with e1 _ _
   subst e1;exact hh (by omega)
  have hnk:¬VP vb db cb v XR:=SA.out XR ko1 _ _ rfl;have q0:=((HR.out.2.2.1 XR hk1 hnk).1 (ko1+j)).trans (hcell j c hE.out);have HKB:Hid (XR<w.heap.size∧¬VP vb db cb v XR):=⟨hk1,hnk⟩
  have LD:Hid (∀W:World,Since wr W→W.cell? ⟨fb,0,none⟩=some (.pointer (some ⟨vb,0,none⟩))):=fun W hW=>(hW.cell (p:=⟨fb,0,none⟩) (World.block_lt_of_cell? _ _ p0)).trans p0
  have HW:Hid (∀W:World,Since wr W→Calls Tryz.prog 123 #[.pointer (some ⟨vb,0,none⟩),.int .i64 c,.string (t1.extract 0 (min t1.size 80))] W fun e w'=>e=.returned (ev (S1.write kb kt c (t1.extract 0 (min t1.size 80))).1)∧bF w0 wr w' vb db cb kb kt (S1.write kb kt c (t1.extract 0 (min t1.size 80))).2 v1∧w'.cell? ⟨fb,0,none⟩=some (.pointer (some ⟨vb,0,none⟩))):=fun W hW=>by
   obtain⟨hv,hto,hfr,hsz,hok,heq⟩:=HR.out;refine(Vl.Ll HB.out (n+j) hok (by have:=HO.out.2;omega) c _ (hv.go hW)).mono ?_;rintro e w' ⟨rfl,hv'⟩;have h1:=bF.pre hW hv';obtain⟨_,_,_,hc1,_,_⟩:=h1.Wq (hfr fb Wx.out.2.2 Wx.out.2.1).2 (Nat.lt_of_lt_of_le Wx.out.2.2 hsz);exact⟨rfl,h1,(hc1 0).trans p0⟩
  clear hcell hk1 hnk;have SE:Hid (eZ kb kt (c::cs.drop (j+1)) t1 S1=if (S1.write kb kt c (t1.extract 0 (min t1.size 80))).1≠0 then S1.write kb kt c (t1.extract 0 (min t1.size 80)) else eZ kb kt (cs.drop (j+1)) (t1.extract (min t1.size 80) t1.size) (S1.write kb kt c (t1.extract 0 (min t1.size 80))).2):=rfl;have a0m:Hid ((S1.write kb kt c (t1.extract 0 (min t1.size 80))).2.ok (n+j+1)):=HR.out.2.2.2.2.1.write kb kt c _;have hmn:min (t1.size:Int) 80=((min t1.size 80:Nat):Int):=by omega
  have hm1:(((min t1.size 80:Nat)):Int)≤t1.size:=by omega
  have hm2:min t1.size 80≤t1.size:=by omega
  go_wp2_with fail
  (try rw[hmn])
  clear hmn;generalize min t1.size 80=m at *;generalize hWR:S1.write kb kt c (t1.extract 0 m)=WR at *;clear hWR;go_region_held3 (fun W=>W.cell? ⟨fb,0,none⟩=some (.pointer (some ⟨vb,0,none⟩))) (first | exact LD.out _ (Since.refl _) | exact LD.out _ (Since.refl _).drew | exact HR2.out.2) (first
   | (go_simp;go_at_call 123;refine(HW.out _ (Since.refl wr).drew).mono ?_;rintro e w2 ⟨rfl,hv2,hq2⟩;have HR2:Hid (bF w0 wr w2 vb db cb kb kt WR.2 v1∧w2.cell? ⟨fb,0,none⟩=some (.pointer (some ⟨vb,0,none⟩))):=⟨hv2,hq2⟩;clear hv2 hq2;dsimp only))
  clear p0 q0;by_cases hr:WR.1=0
  ·have HRR:Hid (WR.1=0):=hr;rw[hr,BN];clear hr;go_wp2_with fail
   go_roundw
   case rel=>
    obtain⟨hv,hto,hfr,hsz,hok,heq⟩:=HR.out;obtain⟨v2,h2,f2,n2⟩:=HR2.out.1;refine⟨j+1,WR.2,v2,t1.extract m t1.size,by omega,by go_num,rfl,h2,fun w' S' hx=>hto w' S' ?_,fun b hb hnb=>?_,Nat.le_trans hsz f2.size,a0m.out.le (by omega),?_⟩
    ·obtain⟨v3,h3,f3,n3⟩:=hx;exact⟨v3,h3,f2.trans' f3 (Vl.VP.nx n2),n2.trans n3 f2.size⟩
    ·obtain⟨g1,g2⟩:=hfr b hb hnb;refine⟨fun o=>(f2.cell (p:=⟨b,o,none⟩) (Nat.lt_of_lt_of_le hb hsz) g2).trans (g1 o),fun q=>?_⟩;rcases Vl.VP.nx n2 b q with q | q
     ·exact g2 q
     omega
    rw[heq,HDR.out,SE.out,if_neg (by rw[HRR.out];decide)]
   case measure=>simp[intOf];omega
  have HRR:Hid (¬WR.1=0):=hr;rw[Af hr];clear hr;go_wp2_with fail
  go_ret;obtain⟨hv,hto,hfr,hsz,hok,heq⟩:=HR.out;rw[heq,HDR.out,SE.out,if_pos HRR.out,Af HRR.out];exact⟨rfl,hto _ _ HR2.out.1,a0m.out.le (by omega)⟩
 have Wv:j=cs.length:=by omega
 subst Wv;go_wp2_with fail
 go_ret;obtain⟨hv,hto,hfr,hsz,hok,heq⟩:=HR.out;rw[List.drop_length] at heq;rw[heq];exact⟨rfl,hto _ _ hv.self,hok⟩
end
end Fl
end Go.Proofs.YtmhcfaaggkidjaaGreatDoor
end
section
namespace Go.Proofs.YtmhcfaaggkidjaaGreatDoor
set_option maxRecDepth 100000
namespace Fl
open Go.RowKit
open En (Fi iX Ints fZ Row)
theorem a0n (w:World):(Instr.makeSlice 90 (.int .i64 3) (.int .i64 3)).run Tryz.prog w=.ok (.slice (some ⟨w.heap.size,0,none⟩) 3 3) (w.alloc (.cells #[.int .i64 0,.int .i64 0,.int .i64 0] 3)):=by
 obtain⟨i,hi,hz,hs,hb⟩:=info_parts En.info3';have h:=run_makeSlice (P:=Tryz.prog) w 90 3 i _ Tryz.underlying90 hi hz .i64 .i64 3 3 (by omega) (by omega) (by rw[hs];omega) (by rw[hb];omega) (by omega);rw[hs,Nat.mul_one] at h;have e:madeCells (Value.int .i64 0).cells (Int.toNat 3)=#[.int .i64 0,.int .i64 0,.int .i64 0]:=by kernel_rfl
 rw[e] at h;exact h
set_option maxHeartbeats 2000000 in
theorem pF (w:World):Calls Tryz.prog 64 #[] w fun e w'=>e=.returned (.slice (some ⟨w.heap.size,0,none⟩) 3 3)∧w'.ownsRow w.heap.size 3 1 (.slice (some ⟨w.heap.size,0,none⟩) 3 3) 3 [.int .i64 0,.int .i64 1,.int .i64 2]∧Since w w':=by
 have hm:=a0n w;go_enter Tryz.func64,Tryz.ntmps64
 go_wp2_with fail
 refine wp_loop_rounds 4 ?_;iterate 4 (rw[rounds_succ];go_wp2_with fail)
 go_ret;refine⟨rfl,⟨by simp,.inr ⟨w.heap.size,3,#[.int .i64 0,.int .i64 1,.int .i64 2],rfl,Nat.le_refl _,?_,Nat.le_refl _,by unfold maxLen;omega,rfl,rfl⟩⟩,?_⟩
 ·first | exact heap_alloc_new w _ | simp
 first | exact(Since.refl w).alloc _ | exact((((Since.refl w).alloc _).setCell (Nat.le_refl _) _).setCell (Nat.le_refl _) _).setCell (Nat.le_refl _) _
theorem iG (s:ByteArray) (w:World):Calls Tryz.prog 182 #[.string s] w fun e w'=>e=.returned (.bool false)∧w'=w:=by
 go_enter Tryz.func182,Tryz.ntmps182
 go_wp2_with fail
 go_ret;exact⟨by simp,rfl⟩
theorem xV:∀args w,(callFunc 125 args).run Tryz.prog w=.ok (.enter 125 args) w:=enters_of Tryz.func125 (by kernel_rfl) rfl
end Fl
end Go.Proofs.YtmhcfaaggkidjaaGreatDoor
end
