import Derived.Test.YtlgbfkcpdelcbaaGreatDoorJ37
import Derived.Test.YtlgbfkcpdelcbaaGreatDoorJ45
set_option linter.unusedSimpArgs false
set_option linter.unusedVariables false
set_option maxHeartbeats 8000000
set_option maxRecDepth 100000
namespace Go.Proofs.YtlgbfkcpdelcbaaGreatDoor
section
namespace Fl
open Go.RowKit Go.Sort Go.Shelf
open En (Fi fA Ints dF Row)
open Vl
def RP (rf rv rd rc:Nat)(k:Nat):Prop:=k=rf∨k=rv∨k=rd∨k=rc
structure iW (w0 w:World)(N rf rv Rb rd rc:Nat)(s:ByteArray)(S:Vs)(lv:Value)(d:List Fv)(l:List Fi):Prop where
 dO:bg w0 w N rv Rb rd rc s S
 c0:w.cell? ⟨rf,0,none⟩=some (.pointer (some ⟨rv,0,none⟩))
 c1:w.cell? ⟨rf,1,none⟩=some lv
 fz:w.frozen? ⟨rf,1,none⟩=false
 lo:w0.heap.size≤rf
 Kk:rf≠rv∧rf≠rd∧rf≠rc∧rf≠Rb
 ty:Ty w rf 54
 sr:Sr w lv d
 blk:∀k o n c,lv=.slice (some ⟨k,o,none⟩) n c→k<w.heap.size∧¬RP rf rv rd rc k
 each:Each (RP rf rv rd rc) w d l
section
variable {q:Bool} {w0 w w':World} {N rf rv Rb rd rc:Nat} {s:ByteArray} {S S':Vs} {lv:Value} {d d0:List Fv} {l l0:List Fi}
theorem Kl {P:Nat→Prop}(hs:Sr w lv d)(hb:∀k o n c,lv=.slice (some ⟨k,o,none⟩) n c→k<w.heap.size)(he:Each P w d l):fA w lv l:=by
 rcases hs with⟨rfl,c,rfl⟩ | ⟨k,o,c,rfl,hc,hcell⟩
 ·have:l=[]:=List.length_eq_zero_iff.1 he.len;subst this;exact⟨none,c,rfl,Nat.zero_le _,fun h=>by simp at h⟩
 refine⟨some ⟨k,o,none⟩,c,by rw[he.len],by rw[he.len];exact hc,fun _=>⟨k,o,rfl,hb k o _ _ rfl,fun j f hj=>?_⟩⟩;have hjl:j<d.length:=by rw[←he.len];exact(List.getElem?_eq_some_iff.1 hj).1
 obtain⟨h1,h2,h3,h4⟩:=he.each j f d[j] hj (List.getElem?_eq_getElem hjl);obtain⟨e0,e1,e2⟩:=iw d j d[j] (List.getElem?_eq_getElem hjl);refine⟨_,h3,?_,?_,?_⟩
 ·rw[hcell _ _ e0,h1]
 ·rw[Nat.add_assoc,hcell _ _ e1,h2]
 rw[Nat.add_assoc,hcell _ _ e2]
theorem iW.AB (h:iW w0 w N rf rv Rb rd rc s S lv d l):fA w lv l:=Kl h.sr (fun k o n c e=>(h.blk k o n c e).1) h.each
theorem iW.to (h:iW w0 w N rf rv Rb rd rc s S lv d l)(hv:bg w0 w' N rv Rb rd rc s S')(hf:RF true N rv rd rc w w'):iW w0 w' N rf rv Rb rd rc s S' lv d l:=by
 have hfl:rf<w.heap.size:=World.block_lt_of_cell? w _ h.c0;have hF:Vl.Fs (fun k=>k=rv∨k=rd∨k=rc) w w':=⟨hf.os,hf.tape,hf.output,hf.size,fun k hk hn=>hf.block k hk (fun e=>hn (.inl e)) (fun e=>hn (.inr (.inl e))) (fun e=>hn (.inr (.inr e))) (.inl rfl)⟩
 have hnf:¬(rf=rv∨rf=rd∨rf=rc):=fun e=>by
  rcases e with e | e | e
  ·exact h.Kk.1 e
  ·exact h.Kk.2.1 e
  exact h.Kk.2.2.1 e
 refine⟨hv,(hF.cell hfl hnf).trans h.c0,(hF.cell hfl hnf).trans h.c1,(hF.frozen hfl hnf).trans h.fz,h.lo,h.Kk,h.ty.blk (hF.block rf hfl hnf),h.sr.fs hF (fun k o n c e=>⟨(h.blk k o n c e).1,fun hp=>(h.blk k o n c e).2 (.inr hp)⟩),fun k o n c e=>⟨Nat.lt_of_lt_of_le (h.blk k o n c e).1 hf.size,(h.blk k o n c e).2⟩,⟨h.each.len,fun j f x hj hx=>?_⟩⟩;obtain⟨h1,h2,h3,h4⟩:=h.each.each j f x hj hx;exact⟨h1,h2,iV h3 hF (fun k o e=>⟨(h4 k o e).1,fun hp=>(h4 k o e).2 (.inr hp)⟩),fun k o e=>⟨Nat.lt_of_lt_of_le (h4 k o e).1 hf.size,(h4 k o e).2⟩⟩
theorem iW.since (h:iW w0 w N rf rv Rb rd rc s S lv d l)(hs:Since w w'):iW w0 w' N rf rv Rb rd rc s S lv d l:=h.to (h.dO.go hs) (RF.ag hs)
theorem iW.store {dK:Value}{d':List Fv}{l':List Fi}(h:iW w0 w N rf rv Rb rd rc s S lv d l)(kK:Sr w dK d')(hb:∀k o n c,dK=.slice (some ⟨k,o,none⟩) n c→k<w.heap.size∧¬RP rf rv rd rc k)(he:Each (RP rf rv rd rc) w d' l') :
  iW w0 (w.setCell ⟨rf,1,none⟩ dK) N rf rv Rb rd rc s S dK d' l'∧Vl.Fs (fun k=>k=rf) w (w.setCell ⟨rf,1,none⟩ dK):=by
 obtain⟨zv,av,wv,hr⟩:=h.dO.sV;have hne:=h.dO.ne;obtain⟨n1,n2,n3,n4⟩:=h.Kk;have hfl:rf<w.heap.size:=World.block_lt_of_cell? w _ h.c0;have hf:Fr rf none w (w.setCell ⟨rf,1,none⟩ dK):=Fr.setCell rf none 1 w _;have hF:Vl.Fs (fun k=>k=rf) w (w.setCell ⟨rf,1,none⟩ dK):=⟨rfl,rfl,rfl,by simp,fun k _ hk=>heap_setCell_other w ⟨rf,1,none⟩ k _ (fun e=>hk e)⟩
 have hb2:∀k,(∃z,z<8∧(zv z).ownBlock=some k)∨av.ownBlock=some k∨wv.ownBlock=some k→k≠rf:=by
  rintro k (⟨z,hz,e⟩ | e | e) rfl
  ·exact absurd (h.ty.one (Ty.own (hr.row z hz) e)) (by decide)
  ·exact absurd (h.ty.one (Ty.own hr.at_ e)) (by decide)
  exact absurd (h.ty.one (Ty.own hr.what e)) (by decide)
 have e1:=hF.block rv h.dO.ty.lt (fun e=>n1 e.symm);have e2:=hF.block rc (h.dO.iN.lt (by omega)) (fun e=>n3 e.symm);have e3:=hF.block Rb (nK h.dO.hh.1 (by omega)) (fun e=>n4 e.symm);have hv:bg w0 (w.setCell ⟨rf,1,none⟩ dK) N rv Rb rd rc s S:=⟨eU h.dO.aQ e1,⟨zv,av,wv,Ref.fr' hr hf (fun e=>n2 e.symm) hb2⟩,eU h.dO.iN e2,⟨jN h.dO.hh.1 e3,jN h.dO.hh.2 e3⟩,h.dO.ty.blk e1,h.dO.ne,
  Below.trans (show Below w0.heap.size w0 w from h.dO.since) ⟨hF.os,hF.tape,hF.output,hF.size,fun k hk=>hF.block k (Nat.lt_of_lt_of_le hk h.dO.since.size) (by have:=h.lo;omega)⟩,h.dO.lo⟩
 exact⟨⟨hv,(World.cell?_setCell_other _ _ _ _ (by simp)).trans h.c0,World.cell?_setCell_same _ _ _ h.c1,by rw[World.frozen?_setCell];exact h.fz,h.lo,h.Kk,h.ty.setCell _ _,kK.fs hF (fun k o n c e=>⟨(hb k o n c e).1,fun e'=>(hb k o n c e).2 (.inl e')⟩),
  fun k o n c e=>⟨by simpa using (hb k o n c e).1,(hb k o n c e).2⟩,he.fs (bH hF (fun k e=>.inl e)) (fun _ _ h=>h)⟩,hF⟩
theorem Km (h:iW w0 w N rf rv Rb rd rc s S lv d l)(Cw:l.length≤1000) :
  Calls Tryz.prog 25 #[.pointer (some ⟨rf,0,none⟩)] w fun e w'=>∃x,e=.returned x∧w'.ownsRow w.heap.size 9 1 x l.length (Cc l)∧Since w w':=by
 obtain⟨i0,hi,hz0,hz1,hz2⟩:=info_parts' zS;have HI:=hid (an hi (an hz0 (an hz1 hz2)));clear hi hz0 hz1 hz2;have p1:=h.c1;have HL:=hid h.AB;obtain⟨la,lc,rfl,_⟩:=h.AB;clear h;go_enter Tryz.func25,Tryz.ntmps25
 go_wp2_with fail
 clear p1;go_loopw [11,3,5] (fun i x _ wr=>∃k:Nat,k≤l.length∧i=.int .i64 k∧wr.ownsRow w.heap.size 9 1 x k (Cc (l.take k))∧Since w wr) (fun i _ _ _=>l.length-(intOf i).toNat)
 case atStart=>exact⟨0,by omega,rfl,World.ownsRow_nil _ _ _ _,Since.refl _⟩
 obtain⟨k,hk,rfl,hx,hS⟩:=hrel;have HX:=hid hx;have HS:=hid hS;clear hx hS;by_cases hlt:k<l.length
 ·have hlt2:(k:Int)<l.length:=by omega
  have hE:Hid (l[k]?=some l[k]):=List.getElem?_eq_getElem hlt;have EA:Hid (Cc (l.take (k+1))=Cc (l.take k)++[.string (l[k]).nm]):=ET l k _ hE.out;generalize l[k]=f at *;obtain⟨k1,o1,u1,rfl,hi1,hl1,q0,q1,q2⟩:=(HL.o.since HS.o).at_ hE.out;obtain⟨a1,b1,rfl,_,_⟩:=hi1;go_upto_region 5 with fail
  clear q0 q1 q2;generalize hw2:wr.alloc (.cells #[.string f.nm,.int .i64 f.sz,.slice a1 f.cs.length b1] 129)=w2;have p0:w2.cell? ⟨wr.heap.size,0,none⟩=some (.string f.nm):=by rw[←hw2];simp
  have HS2:Hid (Since wr w2):=by rw[←hw2];exact(Since.refl _).alloc _
  have IZ:=hid (Nat.le_trans HS.o.size HS2.o.size);clear hw2;go_wp2_with (at_builtin;refine wpList_append_own _ (by rfl) _ _ _ (by rfl) w.heap.size 9 i0 _ 1 16 Tryz.underlying65 HI.o.1 HI.o.2.1 HI.o.2.2.1 HI.o.2.2.2 (by rfl) (by decide) _ k (Cc (l.take k)) (by rfl) (World.ownsRow.alloc (En.bf HX.o HS2.o) _) ⟨w2.heap.size,0,none⟩ 1 1 [.string f.nm] (by rfl) (by rfl) (World.news_of_block (heap_alloc_new w2 _)) (by simp[Value.oneCell']) (by unfold maxLen;omega) (by omega) (by have:=IZ.o;simp;omega) ?_;intro x' w3 hown1 hgrow _)
  have pK:=hid hown1;have rq:Hid (Since w w3):=Below.grown (Since.alloc (HS.o.trans HS2.o) _) hgrow (by have:=IZ.o;simp;omega) (fun j hj=>(HX.o.lt j hj).1);clear hown1 hgrow;go_wp2_with fail
  go_roundw
  case rel=>exact⟨k+1,by omega,by go_num,by rw[EA.o];exact pK.o,rq.o⟩
  case measure=>simp[intOf];omega
 have hke:k=l.length:=by omega
 subst hke;go_wp2_with fail
 go_ret;exact⟨_,rfl,by have:=HX.o;rw[List.take_length] at this;exact this,HS.o⟩
end
end Fl
end
section
namespace Fl
open Go.RowKit Go.Sort Go.Shelf
open En (Fi fA Ints dF Row)
open Vl
def UG:Option (List UInt8)→Value
 | none=>.tuple #[.string ⟨#[]⟩,.int .i64 7]
 | some t=>.tuple #[.string ⟨t.toArray⟩,.int .i64 0]
section
variable {q:Bool} {w0 w w':World} {N rf rv Rb rd rc:Nat} {s:ByteArray} {S S':Vs} {lv:Value} {d d0:List Fv} {l l0:List Fi}
theorem Qh {l:List Fi}{t:ByteArray}{k:Nat}{f:Fi}(h:l[k]?=some f):(l.drop k).find? (fun f=>decide (f.nm=t))=if f.nm=t then some f else (l.drop (k+1)).find? (fun f=>decide (f.nm=t)):=by
 obtain⟨hk,rfl⟩:=List.getElem?_eq_some_iff.1 h;rw[List.drop_eq_getElem_cons hk,List.find?_cons];by_cases e:l[k].nm=t
 ·simp[e]
 simp[e]
theorem Yb (a b:List UInt8):(⟨a.toArray⟩:ByteArray)++⟨b.toArray⟩=⟨(a++b).toArray⟩:=by
 apply ByteArray.ext
 simp[ByteArray.data_append]
theorem yO (h:iW w0 w N rf rv Rb rd rc s S lv d l)(hr:En.right l=true)(hx:∀i,(S.X i).size≤80)(t:ByteArray) :
  Calls Tryz.prog 29 #[.pointer (some ⟨rf,0,none⟩),.string t] w fun e w'=>e=.returned (UG (fG S.X l t))∧Since w w':=by
 have Cw:l.length≤8:=((aZ l).1 hr).1.len;have p1:=h.c1;have HF:=hid h;have HR:=hid (an hr Cw);have HXS:=hid hx;clear hx;obtain⟨la,lc,rfl⟩:∃a c,lv=.slice a l.length c:=by
  obtain⟨a,c,h1,_⟩:=h.AB;exact⟨a,c,h1⟩
 clear h hr;go_enter Tryz.func29,Tryz.ntmps29
 go_wp2_with fail
 clear p1;go_loopw [16] (fun i wr=>∃k:Nat,k≤l.length∧i=.int .i64 k∧Since w wr∧fG S.X l t=fG S.X (l.drop k) t) (fun i _=>l.length-(intOf i).toNat)
 case atStart=>exact⟨0,by omega,rfl,Since.refl _,by rw[List.drop_zero]⟩
 obtain⟨k,hk,rfl,hS,hT⟩:=hrel;have HS:=hid (an hS hT);clear hS hT;by_cases hlt:k<l.length
 ·have hlt2:(k:Int)<l.length:=by omega
  have hE:Hid (l[k]?=some l[k]):=List.getElem?_eq_getElem hlt;generalize l[k]=f at *;have F1:=HF.o.since HS.o.1;obtain⟨k1,o1,u1,hla,hi1,hl1,q0,q1,q2⟩:=F1.AB.at_ hE.out;subst hla;have HI1:=hid hi1;obtain⟨a1,b1,rfl,_,_⟩:=hi1;go_upto_region 4 with fail
  clear q0 q1 q2 F1;generalize hw2:wr.alloc (.cells #[.string f.nm,.int .i64 f.sz,.slice a1 f.cs.length b1] 129)=w2;have p0:w2.cell? ⟨wr.heap.size,0,none⟩=some (.string f.nm):=by rw[←hw2];simp
  have p2:w2.cell? ⟨wr.heap.size,2,none⟩=some (.slice a1 f.cs.length b1):=by rw[←hw2];simp
  have HS2:Hid (Since wr w2):=by rw[←hw2];exact(Since.refl _).alloc _
  clear hw2;by_cases hn:f.nm=t
  ·have heq:(f.nm.toList==t.toList)=true:=by rw[hn];simp
   have hfm:f ∈ l:=List.mem_of_getElem? hE.out;have Ug:Hid (fG S.X l t=some (eQ S.X f.cs)):=by
    show fG S.X l t=_
    unfold fG;rw[←hn,Nb (AR HR.o.1) hfm]
    rfl
   have DY:Hid (∀c ∈ f.cs,0≤c∧c<24):=fun c hc=>by have:=ES HR.o.1 hfm hc;omega
   have hfl:f.cs.length≤1000:=by
    have h1:=(((aZ l).1 HR.o.1).1.good f hfm).2;have h2:=En.vT ((En.jk f).1 h1).2.1;have h3:=((En.jk f).1 h1).2.2;omega
   have lh:=hid (HF.o.since (HS.o.1.trans HS2.o));have HI2:=hid (HI1.o.since HS2.o);clear hn hfm;go_wp2_with fail
   clear p0 p2 heq;obtain⟨wo,hwo⟩:∃wo,wo=wr:=⟨_,rfl⟩
   subst hwo;generalize f.cs=cs at *;go_loopw [27,8,10] (fun i x _ wq=>∃j:Nat,j≤cs.length∧i=.int .i64 j∧x=.string ⟨(eQ S.X (cs.take j)).toArray⟩∧Since w2 wq) (fun i _ _ _=>cs.length-(intOf i).toNat)
   case atStart=>exact⟨0,by omega,rfl,rfl,Since.refl _⟩
   obtain⟨j,hj,rfl,rfl,bQ⟩:=hrel;have dZ:=hid bQ;clear bQ;by_cases hjl:j<cs.length
   ·have Xt:(j:Int)<cs.length:=by omega
    have hJ:Hid (cs[j]?=some cs[j]):=List.getElem?_eq_getElem hjl;obtain⟨hc0,hc1⟩:=DY.o cs[j] (List.getElem_mem hjl);have EA:=hid (AJ S.X cs j cs[j] hJ.out);generalize cs[j]=c at *;obtain⟨m,rfl⟩:∃m:Nat,c=m:=⟨c.toNat,by omega⟩
    rw[Int.toNat_natCast] at EA;have F3:=lh.o.since dZ.o;obtain⟨k2,o2,ha1,q3⟩:=(HI2.o.since dZ.o).at' hJ.out;subst ha1;have q4:=F3.c0;have q5:=F3.dO.aQ.cell (77+m) (by omega);rw[gB _ _ _ _ _ _ _ m (by omega)] at q5;clear F3 hc0;have b4N:m<24:=by omega
    have hlim:¬9223372036854775807<(eQ S.X (cs.take j)).length+(S.X m).size:=by
     have h1:=oO S.X HXS.o (cs.take j);have h2:=HXS.o m;have h3:(cs.take j).length≤1000:=by simp;omega
     omega
    generalize S.X m=xm at *;generalize eQ S.X (cs.take j)=pre at *;have HXE:Hid ((⟨pre.toArray⟩:ByteArray)++xm=⟨(pre++xm.data.toList).toArray⟩):=by
     show (⟨pre.toArray⟩:ByteArray)++xm=_
     have:=Yb pre xm.data.toList
     simpa using this
    go_wp2_with fail
    go_roundw
    case rel=>exact⟨j+1,by omega,by go_num,by rw[EA.o,←HXE.o],dZ.o⟩
    case measure=>simp[intOf];omega
   have JB:j=cs.length:=by omega
   subst JB;rw[List.take_length];go_wp2_with fail
   go_ret2;exact⟨by rw[Ug.o];rfl,(HS.o.1.trans HS2.o).trans dZ.o⟩
  have hne:(f.nm.toList==t.toList)=false:=Sl.fD hn;have HT2:Hid (fG S.X (l.drop k) t=fG S.X (l.drop (k+1)) t):=by
   show fG S.X (l.drop k) t=_
   unfold fG;rw[Qh hE.out,if_neg hn]
  clear hn;go_wp2_with fail
  go_roundw
  case rel=>exact⟨k+1,by omega,by go_num,HS.o.1.trans HS2.o,by rw[HS.o.2,HT2.o]⟩
  case measure=>simp[intOf];omega
 have hke:k=l.length:=by omega
 subst hke;have HT2:Hid (fG S.X l t=none):=by
  show fG S.X l t=none
  rw[HS.o.2,List.drop_length]
  rfl
 go_wp2_with fail
 go_ret2;exact⟨by rw[HT2.o];rfl,HS.o.1⟩
end
end Fl
end
section
namespace Fl
open Go.RowKit Go.Sort Go.Shelf
open En (Fi fA Ints dF Row)
open Vl
theorem Qi (d:List Fv)(k:Nat)(x:Fv)(s:ByteArray)(h:d[k]?=some x):(d.take (k+1)).filter (ay s)=(d.take k).filter (ay s)++(if x.1=s then [] else [x]):=by
 rw[List.take_add_one,h,List.filter_append]
 congr 1
 by_cases e:x.1=s
 ·simp[ay,e]
 simp[ay,e]
theorem sQ (w:World)(rf:Nat)(lv:Value)(d:List Fv)(s:ByteArray)(h1:w.cell? ⟨rf,1,none⟩=some lv)(hs:Sr w lv d)(hb:∀k o n c,lv=.slice (some ⟨k,o,none⟩) n c→k<w.heap.size)(hn:d.length≤1000) :
  Calls Tryz.prog 51 #[.pointer (some ⟨rf,0,none⟩),.string s] w fun e w'=>∃v',e=.returned v'∧w'.ownsRow w.heap.size 129 3 v' (d.filter (ay s)).length (aD (d.filter (ay s)))∧Since w w':=by
 obtain⟨iF,hi,hz0,hz1,hz2⟩:=En.info_parts En.yz;have TS:=hid (an hi (an hz0 (an hz1 hz2)));clear hi hz0 hz1 hz2;obtain⟨la,lc,rfl⟩:∃a c,lv=.slice a d.length c:=by
  rcases hs with⟨rfl,c,rfl⟩ | ⟨k,o,c,rfl,_⟩
  ·exact⟨_,_,rfl⟩
  exact⟨_,_,rfl⟩
 have HAT:Hid (∀(k:Nat) (x:Fv),d[k]?=some x→∃k1 o1,la=some ⟨k1,o1,none⟩∧k1<w.heap.size∧w.cell? ⟨k1,o1+k*3,none⟩=some (.string x.1)∧w.cell? ⟨k1,o1+k*3+1,none⟩=some (.int .i64 x.2.1)∧w.cell? ⟨k1,o1+k*3+2,none⟩=some (.slice x.2.2.1 x.2.2.2.1 x.2.2.2.2)):=fun k x hx=>by
  rcases hs with⟨rfl,c,_⟩ | ⟨k1,o1,c,he,hc,hcell⟩
  ·simp at hx
  injection he with e1 _ _
  subst e1;obtain⟨e0,e1,e2⟩:=iw d k x hx;exact⟨k1,o1,rfl,hb k1 o1 _ _ rfl,hcell _ _ e0,by rw[Nat.add_assoc];exact hcell _ _ e1,by rw[Nat.add_assoc];exact hcell _ _ e2⟩
 clear hs hb;go_enter Tryz.func51,Tryz.ntmps51
 go_wp2_with fail
 clear h1;go_loopw [13,5,7] (fun i x _ wr=>∃k:Nat,k≤d.length∧i=.int .i64 k∧wr.ownsRow w.heap.size 129 3 x ((d.take k).filter (ay s)).length (aD ((d.take k).filter (ay s)))∧Since w wr) (fun i _ _ _=>d.length-(intOf i).toNat)
 case atStart=>exact⟨0,by omega,rfl,World.ownsRow_nil _ _ _ _,Since.refl _⟩
 obtain⟨k,hk,rfl,hx,hS⟩:=hrel;have HX:=hid hx;have HS:=hid hS;clear hx hS;by_cases hlt:k<d.length
 ·have hlt2:(k:Int)<d.length:=by omega
  have hE:Hid (d[k]?=some d[k]):=List.getElem?_eq_getElem hlt;have HFT:Hid ((d.take (k+1)).filter (ay s)=(d.take k).filter (ay s)++(if (d[k]).1=s then [] else [d[k]])):=Qi d k _ s hE.out;have hlen:((d.take k).filter (ay s)).length≤1000:=by
   have:=List.length_filter_le (ay s) (d.take k);simp at this;omega
  generalize (d.take k).filter (ay s)=D at *;generalize d[k]=x at *;obtain⟨k1,o1,hla,hk1,c0,c1,c2⟩:=HAT.o k x hE.out;subst hla;have q0:=(HS.o.cell (p:=⟨k1,o1+k*3,none⟩) hk1).trans c0;have q1:=(HS.o.cell (p:=⟨k1,o1+k*3+1,none⟩) hk1).trans c1;have q2:=(HS.o.cell (p:=⟨k1,o1+k*3+2,none⟩) hk1).trans c2;obtain⟨xn,xs,xa,xl,xc⟩:=x;dsimp only at *;clear c0 c1 c2;go_upto_region 5 with fail
  clear q0 q1 q2;generalize hw2:wr.alloc (.cells #[.string xn,.int .i64 xs,.slice xa xl xc] 129)=w2;have p0:w2.cell? ⟨wr.heap.size,0,none⟩=some (.string xn):=by rw[←hw2];simp
  have p1:w2.cell? ⟨wr.heap.size,1,none⟩=some (.int .i64 xs):=by rw[←hw2];simp
  have p2:w2.cell? ⟨wr.heap.size,2,none⟩=some (.slice xa xl xc):=by rw[←hw2];simp
  have HS2:Hid (Since wr w2):=by rw[←hw2];exact(Since.refl _).alloc _
  have IZ:=hid (Nat.le_trans HS.o.size HS2.o.size);clear hw2;by_cases hnm:xn=s
  ·have hne:(xn.toList==s.toList)=true:=by rw[hnm];simp
   have a0X:Hid ((d.take (k+1)).filter (ay s)=D):=by
    show (d.take (k+1)).filter (ay s)=D
    rw[HFT.o,if_pos hnm,List.append_nil]
   clear hnm;go_wp2_with fail
   go_roundw
   case rel=>exact⟨k+1,by omega,by go_num,by rw[a0X.o];exact En.bf HX.o HS2.o,HS.o.trans HS2.o⟩
   case measure=>simp[intOf];omega
  have hne:(xn.toList==s.toList)=false:=Sl.fD hnm;have a0X:Hid ((d.take (k+1)).filter (ay s)=D++[(xn,xs,xa,xl,xc)]):=by
   show (d.take (k+1)).filter (ay s)=_
   rw[HFT.o,if_neg hnm]
  clear hnm;obtain⟨va,vc,rfl⟩:∃va vc,u5=.slice va D.length vc:=by
   rcases HX.o.2 with⟨h,h0⟩ | ⟨g,cap,cur,h,_⟩
   ·exact⟨none,0,by rw[h,h0]⟩
   exact⟨_,_,h⟩
  go_wp2_with (at_builtin;refine wpList_append_own _ (by rfl) _ _ _ (by rfl) w.heap.size 129 iF _ 3 48 Tryz.underlying52 TS.o.1 TS.o.2.1 TS.o.2.2.1 TS.o.2.2.2 (by rfl) (by decide) _ D.length (aD D) (by rfl) (World.ownsRow.alloc (En.bf HX.o HS2.o) _) ⟨w2.heap.size,0,none⟩ 1 1 [.string xn,.int .i64 xs,.slice xa xl xc] (by rfl) (by rfl) (World.news_of_block (heap_alloc_new w2 _)) (by simp[Value.oneCell']) (by unfold maxLen;omega) (by omega) (by have:=IZ.o;simp;omega) ?_;intro x' w3 hown1 hgrow _)
  have pK:=hid hown1;have rq:Hid (Since w w3):=Below.grown (Since.alloc (HS.o.trans HS2.o) _) hgrow (by have:=IZ.o;simp;omega) (fun j hj=>(HX.o.lt j hj).1);clear hown1 hgrow;go_wp2_with fail
  go_roundw
  case rel=>exact⟨k+1,by omega,by go_num,by rw[a0X.o,List.length_append,jF];exact pK.o,rq.o⟩
  case measure=>simp[intOf];omega
 have hke:k=d.length:=by omega
 subst hke;go_wp2_with fail
 go_ret;exact⟨_,rfl,by have:=HX.o;rw[List.take_length] at this;exact this,HS.o⟩
end Fl
end
section
namespace Fl
open Go.RowKit Go.Sort Go.Shelf
open En (Fi fA Ints dF Row)
open Vl
section
variable {w0 w w':World} {N rf rv Rb rd rc:Nat} {s kb kt:ByteArray} {S S':Vs} {lv:Value} {d d0:List Fv} {l l0:List Fi}
theorem vw (B:ja Rb s kb kt)(n:Int)(ho:S.ok n)(hn:n+1000<900000000)(hok:S.D.ok)(h:bg w0 w N rv Rb rd rc s S)(hf:w.cell? ⟨rf,0,none⟩=some (.pointer (some ⟨rv,0,none⟩)))(hrf:¬(rf=rv∨rf=rd∨rf=rc))(cs:List Int)(cv:Value)(hc:Ints w cv cs)(hcb:∀k o m c,cv=.slice (some ⟨k,o,none⟩) m c→¬(k=rv∨k=rd∨k=rc))(hl:cs.length≤1000)(t:ByteArray) :
  Calls Tryz.prog 54 #[.pointer (some ⟨rf,0,none⟩),cv,.string t] w fun e w'=>e=.returned (.int .i64 (iO kb kt cs t S).1)∧iZ true w0 w w' N rv Rb rd rc s (iO kb kt cs t S).2∧(iO kb kt cs t S).2.ok (n+cs.length)∧(iO kb kt cs t S).2.D.ok:=by
 have HC:=hid hc;have Pk:=hid hcb;obtain⟨ca,cc,rfl,hcap,_⟩:=hc;have HV:=hid h;have HB:=hid B;have HO:=hid (an ho (an hn hok));have jE:Hid (w.cell? ⟨rf,0,none⟩=some (.pointer (some ⟨rv,0,none⟩))∧¬(rf=rv∨rf=rd∨rf=rc)∧rf<w.heap.size):=⟨hf,hrf,World.block_lt_of_cell? w _ hf⟩
 have HFC:Hid (∀(W W':World),RF true N rv rd rc W W'→∀b o,b<W.heap.size→¬(b=rv∨b=rd∨b=rc)→W'.cell? ⟨b,o,none⟩=W.cell? ⟨b,o,none⟩):=fun W W' hF b o hb hnb=>World.cell?_of_block (w:=W) (a:=⟨b,o,none⟩) (hF.block b hb (fun e=>hnb (.inl e)) (fun e=>hnb (.inr (.inl e))) (fun e=>hnb (.inr (.inr e))) (.inl rfl))
 clear h hf hrf hcb B ho hn hok;go_enter Tryz.func54,Tryz.ntmps54
 go_wp2_with fail
 go_loopw [13,2,8,9,10] (fun i x _ _ _ wr=>∃(j:Nat) (S1:Vs) (t1:ByteArray),j≤cs.length∧i=.int .i64 j∧x=.string t1∧iZ true w0 w wr N rv Rb rd rc s S1∧S1.ok (n+j)∧S1.D.ok∧iO kb kt cs t S=iO kb kt (cs.drop j) t1 S1) (fun i _ _ _ _ _=>cs.length-(intOf i).toNat)
 case atStart=>exact⟨0,S,t,by omega,rfl,rfl,HV.o.self,by simpa using HO.o.1,HO.o.2.2,by rw[List.drop_zero]⟩
 obtain⟨j,S1,t1,hj,rfl,rfl,hv,hok,yU,heq⟩:=hrel;have HR:=hid (an hv (an hok (an yU heq)));have p0:wr.cell? ⟨rf,0,none⟩=some (.pointer (some ⟨rv,0,none⟩)):=(HFC.o w wr hv.2 rf 0 jE.o.2.2 jE.o.2.1).trans jE.o.1;clear hv hok yU heq;by_cases hlt:j<cs.length
 ·have hlt2:(j:Int)<cs.length:=by omega
  have hE:Hid (cs[j]?=some cs[j]):=List.getElem?_eq_getElem hlt;have HDR:=hid (List.drop_eq_getElem_cons hlt);generalize cs[j]=c at *;obtain⟨TT,VI,rfl,hk1,hcell⟩:∃k o,ca=some ⟨k,o,none⟩∧k<w.heap.size∧∀j x,cs[j]?=some x→w.cell? ⟨k,o+j,none⟩=some (.int .i64 x):=by
   obtain⟨a',c',he,_,hh⟩:=HC.o;injection he with e1 _ _
   subst e1;exact hh (by omega)
  have q0:=(HFC.o w wr HR.o.1.2 TT (VI+j) hk1 (Pk.o TT VI _ _ rfl)).trans (hcell j c hE.out);clear hcell hk1;have kQ:Hid (∀W:World,Since wr W→W.cell? ⟨rf,0,none⟩=some (.pointer (some ⟨rv,0,none⟩))):=fun W hW=>(hW.cell (p:=⟨rf,0,none⟩) (World.block_lt_of_cell? _ _ p0)).trans p0
  have HW:Hid (∀W:World,Since wr W→Calls Tryz.prog 111 #[.pointer (some ⟨rv,0,none⟩),.int .i64 c,.string (t1.extract 0 (min t1.size 80))] W fun e w'=>e=.returned (.int .i64 (S1.write kb kt c (t1.extract 0 (min t1.size 80))).1)∧iZ true w0 wr w' N rv Rb rd rc s (S1.write kb kt c (t1.extract 0 (min t1.size 80))).2∧w'.cell? ⟨rf,0,none⟩=some (.pointer (some ⟨rv,0,none⟩))):=fun W hW=>by
   obtain⟨hv,hok,yU,heq⟩:=HR.o;refine(Kg HB.o (n+j) hok (by have:=HO.o.2.1;omega) yU c _ (hv.1.go hW)).mono ?_;rintro e w' ⟨rfl,hv'⟩;have h1:=iZ.pre hW hv';exact⟨rfl,h1,(HFC.o wr w' h1.2 rf 0 (World.block_lt_of_cell? _ _ p0) jE.o.2.1).trans p0⟩
  have HMX:Hid (iO kb kt (c::cs.drop (j+1)) t1 S1=if (S1.write kb kt c (t1.extract 0 (min t1.size 80))).1≠0 then S1.write kb kt c (t1.extract 0 (min t1.size 80)) else iO kb kt (cs.drop (j+1)) (t1.extract (min t1.size 80) t1.size) (S1.write kb kt c (t1.extract 0 (min t1.size 80))).2):=rfl;have TU:Hid ((S1.write kb kt c (t1.extract 0 (min t1.size 80))).2.ok (n+j+1)):=HR.o.2.1.write kb kt c _;have a5w:Hid ((S1.write kb kt c (t1.extract 0 (min t1.size 80))).2.D.ok):=Qc HR.o.2.2.1 HR.o.2.1 (by have:=HO.o.2.1;omega) kb kt c _;have hm1:(((min t1.size 80:Nat)):Int)≤t1.size:=by omega
  have hm2:min t1.size 80≤t1.size:=by omega
  have HM3:Hid ((80<t1.size∧min t1.size 80=80)∨(¬80<t1.size∧min t1.size 80=t1.size)):=by
   show (80<t1.size∧min t1.size 80=80)∨(¬80<t1.size∧min t1.size 80=t1.size)
   omega
  generalize min t1.size 80=m at *;generalize hWR:S1.write kb kt c (t1.extract 0 m)=WR at *;clear hWR;go_upto_if 20 with fail
  go_cut [9] (fun u wx=>u=.int .i64 m∧wr=wx)
  case first=>
   rcases HM3.o with⟨h1,h2⟩ | ⟨h1,h2⟩
   ·have h1':(80:Int)<t1.size:=by omega
    go_wp2_with fail
    go_meet
    case rel=>exact⟨by rw[h2];rfl,rfl⟩
   have h1':¬(80:Int)<t1.size:=by omega
   go_wp2_with fail
   go_meet
   case rel=>exact⟨by rw[h2],rfl⟩
  case rest=>
  obtain⟨rfl,rfl⟩:=hcut;clear HM3;go_upto_region 7 with fail
  go_region_held3 (fun W=>W.cell? ⟨rf,0,none⟩=some (.pointer (some ⟨rv,0,none⟩))) (first | exact kQ.o _ (Since.refl _) | exact kQ.o _ (Since.refl _).drew | exact HR2.o.2) (first
   | (go_simp;go_at_call 111;refine(HW.o _ (Since.refl _).drew).mono ?_;rintro e w2 ⟨rfl,hv2,hq2⟩;have HR2:Hid (iZ true w0 wr w2 N rv Rb rd rc s WR.2∧w2.cell? ⟨rf,0,none⟩=some (.pointer (some ⟨rv,0,none⟩))):=⟨hv2,hq2⟩;clear hv2 hq2;dsimp only))
  clear p0 q0;by_cases hr:WR.1=0
  ·have HRR:=hid hr;rw[hr];clear hr;go_wp2_with fail
   go_roundw
   case rel=>
    obtain⟨hv,hok,yU,heq⟩:=HR.o;exact⟨j+1,WR.2,t1.extract m t1.size,by omega,by go_num,rfl,hv.after HR2.o.1,TU.o.le (by omega),a5w.o,by rw[heq,HDR.o,HMX.o,if_neg (by rw[HRR.o];decide)]⟩
   case measure=>simp[intOf];omega
  have HRR:=hid hr;go_wp2_with fail
  go_ret;obtain⟨hv,hok,yU,heq⟩:=HR.o;rw[heq,HDR.o,HMX.o,if_pos HRR.o];exact⟨rfl,hv.after HR2.o.1,TU.o.le (by omega),a5w.o⟩
 have JB:j=cs.length:=by omega
 subst JB;go_wp2_with fail
 go_ret;obtain⟨hv,hok,yU,heq⟩:=HR.o;rw[List.drop_length] at heq;rw[heq];exact⟨rfl,hv,hok,yU⟩
end
end Fl
end
section
namespace Fl
open Go.RowKit Go.Sort Go.Shelf
open En (Fi fA Ints dF Row)
open Vl
section
variable {w0 w w':World} {N rf rv Rb rd rc:Nat} {s kb kt:ByteArray} {S S':Vs} {lv:Value} {d d0:List Fv} {l l0:List Fi}
theorem RF.fsP (h:RF true N rv rd rc w w'):Vl.Fs (RP rf rv rd rc) w w':=⟨h.os,h.tape,h.output,h.size,fun k hk hn=>h.block k hk (fun e=>hn (.inr (.inl e))) (fun e=>hn (.inr (.inr (.inl e)))) (fun e=>hn (.inr (.inr (.inr e)))) (.inl rfl)⟩
theorem Yc (W:World):Ints (W.alloc (.cells #[.int .i64 0,.int .i64 1,.int .i64 2] 3)) (.slice (some ⟨W.heap.size,0,none⟩) 3 3) [0,1,2]:=by
 refine⟨some ⟨W.heap.size,0,none⟩,3,rfl,Nat.le_refl _,fun _=>⟨W.heap.size,0,rfl,by simp,fun j x hj=>?_⟩⟩
 match j,hj with
 | 0,hj=>simp at hj;subst hj;simp
 | 1,hj=>simp at hj;subst hj;simp
 | 2,hj=>simp at hj;subst hj;simp
 | j+3,hj=>simp at hj
theorem Fu (B:ja Rb s kb kt)(LB:En.Lb w0)(n:Int)(ho:S.ok n)(hn:n+1000<900000000)(hok:S.D.ok)(h:iW w0 w N rf rv Rb rd rc s S lv d0 l0){v':Value}(kK:Sr w v' d)(hbk:∀k o n c,v'=.slice (some ⟨k,o,none⟩) n c→k<w.heap.size∧¬RP rf rv rd rc k)(he:Each (RP rf rv rd rc) w d l)(hr:En.right l=true) :
  Calls Tryz.prog 57 #[.pointer (some ⟨rf,0,none⟩),v'] w fun e w'=>e=.returned (.int .i64 (bq kb kt l S).1)∧(bq kb kt l S).2.ok (n+3)∧(bq kb kt l S).2.D.ok∧
   ((bq kb kt l S).1=0→iW w0 w' N rf rv Rb rd rc s (bq kb kt l S).2 v' d l)∧((bq kb kt l S).1≠0→iW w0 w' N rf rv Rb rd rc s (bq kb kt l S).2 lv d0 l0)∧Vl.Fs (RP rf rv rd rc) w w':=by
 have HF:=hid h;have HL:=hid (an kK (an hbk he));have HP:=hid (En.qP l v' w (Kl kK (fun k o n c e=>(hbk k o n c e).1) he) (LB.since h.dO.since) hr);obtain⟨va,vn,vc,rfl⟩:∃a n c,v'=.slice a n c:=by
  rcases kK with⟨rfl,c,rfl⟩ | ⟨k,o,c,rfl,_⟩
  ·exact⟨_,_,_,rfl⟩
  exact⟨_,_,_,rfl⟩
 have HW:Hid (∀W,Since w W→Calls Tryz.prog 54 #[.pointer (some ⟨rf,0,none⟩),.slice (some ⟨W.heap.size,0,none⟩) 3 3,.string ⟨(En.print l).toArray⟩] (W.alloc (.cells #[.int .i64 0,.int .i64 1,.int .i64 2] 3)) fun e w'=>e=.returned (.int .i64 (bq kb kt l S).1)∧iZ true w0 w w' N rv Rb rd rc s (bq kb kt l S).2∧(bq kb kt l S).2.ok (n+3)∧(bq kb kt l S).2.D.ok):=fun W hW=>by
  have F:=HF.o.since (hW.alloc (.cells #[.int .i64 0,.int .i64 1,.int .i64 2] 3));have hfl:=(World.block_lt_of_cell? w _ h.c0)
  have hv1:=h.dO.ty.lt;have hv2:rd<w.heap.size:=by
   obtain⟨zv,av,wv,hr⟩:=h.dO.sV;exact hr.aQ.lt (by omega)
  have hv3:=h.dO.iN.lt (by omega);have hsz:=hW.size;refine(vw B n ho hn hok F.dO F.c0 (fun e=>by
   rcases e with e | e | e
   ·exact h.Kk.1 e
   ·exact h.Kk.2.1 e
   ·exact h.Kk.2.2.1 e) [0,1,2] _ (Yc W) (fun k o m c e=>by
   simp only[Value.slice.injEq,Option.some.injEq,Addr.mk.injEq] at e;obtain⟨⟨rfl,_⟩,_⟩:=e;omega) (by simp) _).mono ?_
  rintro e w' ⟨rfl,h1,h2,h3⟩;exact⟨rfl,iZ.pre (hW.alloc _) h1,h2,h3⟩
 have hfit:=hr;clear h kK hbk he hr hfit ho hn hok B;generalize (⟨(En.print l).toArray⟩:ByteArray)=pt at *;generalize hDW:bq kb kt l S=DW at *;clear hDW;go_enter Tryz.func57,Tryz.ntmps57
 go_wp2_with fail
 refine HP.o.mono ?_;rintro e w1 ⟨rfl,hs1⟩;have cK:=hid hs1;clear hs1;go_wp2_with fail
 refine(HW.o w1 cK.o).mono ?_;rintro e w2 ⟨rfl,hv2,hok2,a0Y⟩;have H2:=hid (an hv2 (an hok2 a0Y));have F2:=HF.o.to hv2.1 hv2.2;have lh:=hid F2;clear hv2 hok2 a0Y;by_cases hz:DW.1=0
 ·have HZ:=hid hz;have p1:=F2.c1;have f1:=F2.fz;rw[hz];clear hz F2;go_wp2_with fail
  go_ret;obtain⟨kK,hbk,he⟩:=HL.o;have hfs:Vl.Fs (RP rf rv rd rc) w w2:=RF.fsP H2.o.1.2;obtain⟨g1,g2⟩:=lh.o.store (kK.fs hfs hbk) (fun k o n c e=>⟨Nat.lt_of_lt_of_le (hbk k o n c e).1 hfs.size,(hbk k o n c e).2⟩) (he.fs hfs (fun _ _ h=>h));refine⟨by rw[HZ.o];rfl,H2.o.2.1,H2.o.2.2,fun _=>g1,fun h=>absurd HZ.o h,hfs.trans (bH g2 (fun k e=>.inl e))⟩
 have HZ:=hid hz;clear F2;go_wp2_with fail
 go_ret;exact⟨rfl,H2.o.2.1,H2.o.2.2,fun h=>absurd h HZ.o,fun _=>lh.o,RF.fsP H2.o.1.2⟩
end
end Fl
end
section
namespace Fl
open Go.RowKit Go.Sort Go.Shelf
open En (Fi fA Ints dF Row)
open Vl
section
variable {w0 w w':World} {N rf rv Rb rd rc:Nat} {s kb kt:ByteArray} {S S':Vs} {lv:Value} {d d0:List Fv} {l l0:List Fi}
theorem iW.kept (h:iW w0 w N rf rv Rb rd rc s S lv d l)(hs:Since w w')(t:ByteArray){v':Value}(ho:w'.ownsRow w.heap.size 129 3 v' (d.filter (ay t)).length (aD (d.filter (ay t)))) :
  Sr w' v' (d.filter (ay t))∧(∀k o n c,v'=.slice (some ⟨k,o,none⟩) n c→k<w'.heap.size∧¬RP rf rv rd rc k)∧Each (RP rf rv rd rc) w' (d.filter (ay t)) (aO l t):=by
 have hfl:rf<w.heap.size:=World.block_lt_of_cell? w _ h.c0;have hv1:=h.dO.ty.lt;have hv2:rd<w.heap.size:=by
  obtain⟨zv,av,wv,hr⟩:=h.dO.sV;exact hr.aQ.lt (by omega)
 have hv3:=h.dO.iN.lt (by omega);refine⟨?_,fun k o n c e=>?_,(h.since hs).each.filter t⟩
 ·rcases ho.2 with⟨h',h0⟩ | ⟨g,cap,cur,h',hb,hg,hnc,_⟩
  ·exact .inl ⟨List.length_eq_zero_iff.1 h0,0,h'⟩
  refine .inr ⟨g,0,cap,h',hnc,fun j u hj=>?_⟩;have hjl:j<(d.filter (ay t)).length*3:=by rw[←iq];exact(List.getElem?_eq_some_iff.1 hj).1
  subst h';rw[Nat.zero_add,ho.cellAt j hjl];exact hj
 have h1:=ho.lt k (by rw[e];rfl);refine⟨h1.2,fun hp=>?_⟩;unfold RP at hp;omega
theorem UH (he:Each (RP rf rv rd rc) w d l)(t:ByteArray):(d.filter (ay t)).length=d.length↔∀f ∈ l,¬f.nm=t:=by
 rw[List.length_filter_eq_length_iff];constructor
 ·intro h f hf e;obtain⟨j,hj,hjf⟩:=List.getElem_of_mem hf;have hjd:j<d.length:=by rw[←he.len];exact hj
  have h1:=he.each j f d[j] (by rw[←hjf];exact List.getElem?_eq_getElem hj) (List.getElem?_eq_getElem hjd);have h2:=h d[j] (List.getElem_mem hjd);simp[ay] at h2;exact h2 (h1.1.symm.trans e)
 intro h x hx;obtain⟨j,hj,hjf⟩:=List.getElem_of_mem hx;have hjl:j<l.length:=by rw[he.len];exact hj
 have h1:=he.each j l[j] x (List.getElem?_eq_getElem hjl) (by rw[←hjf];exact List.getElem?_eq_getElem hj);have h2:=h l[j] (List.getElem_mem hjl);simp[ay];exact fun e=>h2 (h1.1.trans e)
theorem UI (B:ja Rb s kb kt)(LB:En.Lb w0)(n:Int)(ho:S.ok n)(hn:n+1000<900000000)(hok:S.D.ok)(h:iW w0 w N rf rv Rb rd rc s S lv d l)(hr:En.right l=true)(t:ByteArray) :
  Calls Tryz.prog 14 #[.pointer (some ⟨rf,0,none⟩),.string t] w fun e w'=>((∀f ∈ l,¬f.nm=t)∧e=.returned (.int .i64 7)∧Since w w')∨
   ((∃f ∈ l,f.nm=t)∧e=.returned (.int .i64 (bq kb kt (aO l t) S).1)∧(bq kb kt (aO l t) S).2.ok (n+3)∧(bq kb kt (aO l t) S).2.D.ok∧∃d' dK,((bq kb kt (aO l t) S).1=0→iW w0 w' N rf rv Rb rd rc s (bq kb kt (aO l t) S).2 dK d' (aO l t)∧Nl w lv d dK d')∧((bq kb kt (aO l t) S).1≠0→iW w0 w' N rf rv Rb rd rc s (bq kb kt (aO l t) S).2 lv d l)∧Vl.Fs (RP rf rv rd rc) w w'):=by
 have Cw:l.length≤8:=((aZ l).1 hr).1.len;have hdl:=h.each.len;have HF:=hid h;have p1:=h.c1;have HKL:=hid (UH h.each t);obtain⟨la,lc,rfl⟩:∃a c,lv=.slice a d.length c:=by
  rcases h.sr with⟨rfl,c,rfl⟩ | ⟨k,o,c,rfl,_⟩
  ·exact⟨_,_,rfl⟩
  exact⟨_,_,rfl⟩
 have HWO:Hid (∀W,Since w W→Calls Tryz.prog 51 #[.pointer (some ⟨rf,0,none⟩),.string t] W fun e w'=>∃a c,e=.returned (.slice a (d.filter (ay t)).length c)∧w'.ownsRow W.heap.size 129 3 (.slice a (d.filter (ay t)).length c) (d.filter (ay t)).length (aD (d.filter (ay t)))∧Since W w'):=fun W hW=>by
  have F:=h.since hW;refine(sQ W rf _ d t F.c1 F.sr (fun k o n c e=>(F.blk k o n c e).1) (by omega)).mono ?_;rintro e w' ⟨v',rfl,h1,h2⟩;obtain⟨a,c,rfl⟩:∃a c,v'=.slice a (d.filter (ay t)).length c:=by
   rcases h1.2 with⟨h',h0⟩ | ⟨g,cap,cur,h',_⟩
   ·exact⟨none,0,by rw[h',h0]⟩
   exact⟨_,_,h'⟩
  exact⟨a,c,rfl,h1,h2⟩
 have HLA:Hid (∀W,Since w W→∀v' w',W.heap.size≤w'.heap.size→Since W w'→w'.ownsRow W.heap.size 129 3 v' (d.filter (ay t)).length (aD (d.filter (ay t)))→Calls Tryz.prog 57 #[.pointer (some ⟨rf,0,none⟩),v'] w' fun e w''=>e=.returned (.int .i64 (bq kb kt (aO l t) S).1)∧(bq kb kt (aO l t) S).2.ok (n+3)∧(bq kb kt (aO l t) S).2.D.ok∧
   ((bq kb kt (aO l t) S).1=0→iW w0 w'' N rf rv Rb rd rc s (bq kb kt (aO l t) S).2 v' (d.filter (ay t)) (aO l t))∧((bq kb kt (aO l t) S).1≠0→iW w0 w'' N rf rv Rb rd rc s (bq kb kt (aO l t) S).2 (.slice la d.length lc) d l)∧Vl.Fs (RP rf rv rd rc) w' w''):=fun W hW v' w' _ hs ho'=>by
  obtain⟨g1,g2,g3⟩:=(h.since hW).kept hs t ho';exact Fu B LB n ho hn hok ((h.since hW).since hs) g1 g2 g3 (ut hr t)
 have Q1:Hid (∀W,Since w W→W.cell? ⟨rf,1,none⟩=some (.slice la d.length lc)):=fun W hs=>(hs.cell (p:=⟨rf,1,none⟩) (World.block_lt_of_cell? w _ p1)).trans p1
 clear h hr ho hn hok B p1;generalize bq kb kt (aO l t) S=DW at *;generalize (d.filter (ay t)).length=m at *;go_enter Tryz.func14,Tryz.ntmps14
 go_wp2_with fail
 go_region_held3 (fun W=>W.cell? ⟨rf,1,none⟩=some (.slice la d.length lc)) (first | exact Q1.out _ (Since.refl _) | exact Q1.out _ (Since.refl _).drew | exact Q1.out _ hs2 | exact Q1.out _ ((Since.refl _).drew.trans hs2)) (first
  | (go_simp;go_at_call 51;refine(HWO.o _ (by first | exact Since.refl _ | exact(Since.refl _).drew)).mono ?_;rintro e w2 ⟨a2,c2,rfl,_,hs2⟩;dsimp only))
 have HS2:Hid (Since w w2):=(Since.refl _).drew.trans hs2;clear hs2;by_cases hm:m=d.length
 ·have YX:=hid (HKL.o.1 hm);subst hm;go_wp2_with fail
  go_ret;exact Or.inl ⟨YX.o,rfl,HS2.o⟩
 have a8C:Hid (∃f ∈ l,f.nm=t):=by
  show ∃f ∈ l,f.nm=t
  have h1:=fun h'=>hm (HKL.o.2 h')
  simpa using h1
 have hm':¬(m:Int)=d.length:=by omega
 go_wp2_with fail
 refine(HWO.o w2 HS2.o).mono ?_;rintro e w3 ⟨a3,c3,rfl,ho3,hs3⟩;have HL3:=HLA.o w2 HS2.o _ w3 hs3.size hs3 ho3;have H3:Hid (Calls Tryz.prog 57 #[.pointer (some ⟨rf,0,none⟩),.slice a3 m c3] w3 fun e w''=>e=.returned (.int .i64 DW.1)∧DW.2.ok (n+3)∧DW.2.D.ok∧
  (DW.1=0→iW w0 w'' N rf rv Rb rd rc s DW.2 (.slice a3 m c3) (d.filter (ay t)) (aO l t))∧(DW.1≠0→iW w0 w'' N rf rv Rb rd rc s DW.2 (.slice la d.length lc) d l)∧Vl.Fs (RP rf rv rd rc) w3 w''):=HL3
 have dZ:=hid (HS2.o.trans hs3);have HNL:Hid (Nl w (.slice la d.length lc) d (.slice a3 m c3) (d.filter (ay t))):=⟨fun k o n c e=>.inl (by
  have h1:=(ho3.lt k (by rw[e];rfl)).1;have h2:=HS2.o.size;omega),fun x hx k o e=>.inr ⟨x,(List.mem_filter.1 hx).1,o,e⟩⟩
 clear HL3 ho3 hs3;go_wp2_with fail
 refine H3.o.mono ?_;rintro e w4 ⟨rfl,g1,g2,g3,g4,g5⟩;have HG:=hid (an g1 (an g2 (an g3 (an g4 g5))));clear g1 g2 g3 g4 g5;go_wp2_with fail
 go_ret;obtain⟨g1,g2,g3,g4,g5⟩:=HG.o;exact Or.inr ⟨a8C.o,rfl,g1,g2,_,_,fun h0=>⟨g3 h0,HNL.o⟩,g4,(Vl.Fs.ag dZ.o).trans g5⟩
end
end Fl
end
end Go.Proofs.YtlgbfkcpdelcbaaGreatDoor
