import Derived.Test.YtmhcfaaggkidjaaGreatDoorJ37
import Derived.Test.YtmhcfaaggkidjaaGreatDoorJ39
set_option linter.unusedSimpArgs false
set_option linter.unusedVariables false
section
namespace Go.Proofs.YtmhcfaaggkidjaaGreatDoor
set_option maxRecDepth 100000
namespace Dk
open Go.RowKit
open En (Fi)
open Vl
open Fl (Fm Fv BU Off Nl bR bT bf)
structure Im where
 nn:Nat→Nat
 l:Nat→Nat→ByteArray
 s0:ByteArray
 s1:ByteArray
def sS:Im:=⟨fun _=>0,fun _ _=>⟨#[]⟩,⟨#[]⟩,⟨#[]⟩⟩
def Mk (D:Dv):Im:=⟨D.sure,fun z j=>txt 128 (D.blk z j),txt 500 (D.slot 0),txt 500 (D.slot 1)⟩
structure uT where
 v:Sum (Vs × List Fi) (Dv × Int)
abbrev uT.op (S:Vs) (l:List Fi):uT:=⟨.inl (S,l)⟩
abbrev uT.no (D:Dv) (c:Int):uT:=⟨.inr (D,c)⟩
theorem uT.cs {motive:uT→Prop} (op:∀S l,motive (uT.op S l)) (no:∀D c,motive (uT.no D c)) (f:uT):motive f:=match f with
 | ⟨.inl (S,l)⟩=>op S l
 | ⟨.inr (D,c)⟩=>no D c
def uT.D:uT→Dv
 | ⟨.inl (S,_)⟩=>S.D
 | ⟨.inr (D,_)⟩=>D
def uT.c:uT→Int
 | ⟨.inl (S,_)⟩=>S.c
 | ⟨.inr (_,c)⟩=>c
structure Sn where
 ay:ByteArray
 im:Im
 f:uT
def dL (ay:ByteArray) (D:Dv) (c:Int) (f:uT) (r:Int):Prop:=∃r0 S,eB (bz ay) (aT ay) (fresh D c) r0 S∧
 ((r0≠0∧r=r0∧f=.no S.D S.c)∨(r0=0∧En.parse (bf S.X [0,1,2])=none∧r=15∧f=.no S.D S.c)∨(r0=0∧∃l,En.parse (bf S.X [0,1,2])=some l∧r=0∧f=.op S l))
def yt (db cb:Nat) (ay:ByteArray) (iv:Nat→Value) (s0 s1:ByteArray) (fp:Value) (j:Nat):Value:=
 if j=0 then .pointer (some ⟨db,0,none⟩) else if j=1 then .pointer (some ⟨cb,0,none⟩) else if j=2 then .string ay else if j<13 then az iv s0 s1 (j-3) else fp
def SlP (w:World) (P:Nat→Prop) (v:Value) (n:Nat) (f:Nat→Value):Prop:=
 ∃a c,v=.slice a n c∧n≤c∧(0<n→∃k o,a=some ⟨k,o,none⟩∧¬P k∧∀j,j<n→w.cell? ⟨k,o+j,none⟩=some (f j))
theorem SlP.fs {w w':World} {P P' Q:Nat→Prop} {v:Value} {n:Nat} {f:Nat→Value} (h:SlP w P v n f) (hf:Fs Q w w') (hQ:∀k,Q k→P k) (hP:∀k,k<w.heap.size→¬P k→¬P' k):SlP w' P' v n f:=by
 obtain⟨a,c,hv,hcap,h⟩:=h;refine⟨a,c,hv,hcap,fun hn=>?_⟩;obtain⟨k,o,ha,hk,hc⟩:=h hn;have hkl:k<w.heap.size:=World.block_lt_of_cell? w _ (hc 0 hn);exact⟨k,o,ha,hP k hkl hk,fun j hj=>(hf.cell (p:=⟨k,o+j,none⟩) hkl (fun e=>hk (hQ k e))).trans (hc j hj)⟩
def Ml (w:World) (P:Nat→Prop) (iv:Nat→Value) (im:Im):Prop:=∀z,z<8→SlP w P (iv z) (im.nn z) (fun j=>.string (im.l z j))
structure mf (w0 w:World) (P:Nat→Prop) (sb db cb:Nat) (ay:ByteArray) (im:Im) (fp:Value) (D:Dv) (c:Int) (v:Value):Prop where
 ty:Ty w sb 77
 s16:ay.size=16
 bL:∃iv,ak w sb 14 (yt db cb ay iv im.s0 im.s1 fp)∧Ml w (fun k=>P k∨k<w0.drawn) iv im
 dc:DC w0 w db cb D c v
 ne:sb≠db∧sb≠cb∧v.ownBlock≠some sb
 ps:P sb∧P db∧P cb∧∀k,v.ownBlock=some k→P k
 yu:∀k,P k→w0.heap.size≤k
 oU:∀k,P k→k<w.heap.size
 dn:w0.drawn≤w.heap.size
section
variable {w0 w w':World} {P Q:Nat→Prop} {sb db cb:Nat} {ay:ByteArray} {im:Im} {fp:Value} {D D':Dv} {c c':Int} {v v':Value}
theorem mf.lt (h:mf w0 w P sb db cb ay im fp D c v):sb<w.heap.size:=h.ty.lt
theorem mf.since (h:mf w0 w P sb db cb ay im fp D c v) (hs:Since w w'):mf w0 w' P sb db cb ay im fp D c v:=by
 obtain⟨iv,hc,hi⟩:=h.bL;exact⟨h.ty.since hs,h.s16,⟨iv,hc.since hs,fun z hz=>(hi z hz).fs (Fs.ah (S:=fun _=>False) hs) (fun _ e=>e.elim) (fun _ _ h=>h)⟩,h.dc.go hs,h.ne,h.ps,h.yu,fun k hk=>Nat.lt_of_lt_of_le (h.oU k hk) hs.size,Nat.le_trans h.dn hs.size⟩
theorem mf.to (h:mf w0 w P sb db cb ay im fp D c v) (hf:Fs Q w w') (hQ:∀k,Q k→P k∧k≠sb) (Fz:DC w0 w' db cb D' c' v') (hv:∀k,v'.ownBlock=some k→(P k∧k≠sb)∨w.heap.size≤k) {R:Nat→Prop} (hR:∀k,R k→w.heap.size≤k∧k<w'.heap.size) :
  mf w0 w' (fun k=>P k∨v'.ownBlock=some k∨R k) sb db cb ay im fp D' c' v':=by
 obtain⟨iv,hc,hi⟩:=h.bL;have hsb:=h.lt;refine⟨h.ty.blk (hf.block sb hsb (fun e=>(hQ sb e).2 rfl)),h.s16,⟨iv,iT hc hf (fun e=>(hQ sb e).2 rfl),fun z hz=>(hi z hz).fs hf (fun k hk=>.inl (hQ k hk).1) (fun k hk hn e=>?_)⟩,Fz,⟨h.ne.1,h.ne.2.1,fun e=>?_⟩,⟨.inl h.ps.1,.inl h.ps.2.1,.inl h.ps.2.2.1,fun k hk=>.inr (.inl hk)⟩,fun k hk=>?_,fun k hk=>?_,Nat.le_trans h.dn hf.size⟩
 ·rcases e with(e | e | e) | e
  ·exact hn (.inl e)
  ·rcases hv k e with h1 | h1
   ·exact hn (.inl h1.1)
   omega
  ·have:=(hR k e).1;omega
  exact hn (.inr e)
 ·rcases hv sb e with h1 | h1
  ·exact h1.2 rfl
  omega
 ·rcases hk with e | e | e
  ·exact h.yu k e
  ·exact Fz.lo.2.2 k e
  exact Nat.le_trans h.dc.since.size (hR k e).1
 rcases hk with e | e | e
 ·exact Nat.lt_of_lt_of_le (h.oU k e) hf.size
 ·exact Fz.dev.glt k e
 exact(hR k e).2
end
def BV (w0 w:World) (P:Nat→Prop) (sb db cb:Nat) (ay:ByteArray) (fp v:Value) (n:Int):uT→Prop
 | ⟨.inl (S,l)⟩=>∃fb vb lv d,fp=.pointer (some ⟨fb,0,none⟩)∧Fm w0 w fb vb db cb (bz ay) (aT ay) S v lv d l∧Off (fun k=>k=sb) lv d∧En.right l=true∧S.ok n∧(P fb∧fb≠sb)∧(P vb∧vb≠sb)
 | ⟨.inr (D,c)⟩=>fp=.pointer none∧D.ws.length≤1∧0≤c∧c≤n
def eu (w0 w:World) (P:Nat→Prop) (sb:Nat) (Z:Sn) (n:Int):Prop:=∃db cb fp v,mf w0 w P sb db cb Z.ay Z.im fp Z.f.D Z.f.c v∧BV w0 w P sb db cb Z.ay fp v n Z.f
def aG (w0 w w':World) (P:Nat→Prop) (sb:Nat) (Z:Sn) (n:Int):Prop:=∃P',eu w0 w' P' sb Z n∧Fs P w w'∧∀k,k<w.heap.size→¬P k→¬P' k
section
variable {w0 w w' w'':World} {P:Nat→Prop} {sb:Nat} {Z Z':Sn} {n m:Int}
theorem BV.le {db cb:Nat} {ay:ByteArray} {fp v:Value} {f:uT} (h:BV w0 w P sb db cb ay fp v n f) (hm:n≤m):BV w0 w P sb db cb ay fp v m f:=by
 cases f using uT.cs with
 | op S l=>
  obtain⟨fb,vb,lv,d,h1,h2,h3,h4,h5,h6⟩:=h;exact⟨fb,vb,lv,d,h1,h2,h3,h4,h5.le hm,h6⟩
 | no D c=>
  obtain⟨h1,h2,h3,h4⟩:=h;exact⟨h1,h2,h3,Int.le_trans h4 hm⟩
theorem eu.le (h:eu w0 w P sb Z n) (hm:n≤m):eu w0 w P sb Z m:=by
 obtain⟨db,cb,fp,v,h1,h2⟩:=h;exact⟨db,cb,fp,v,h1,h2.le hm⟩
theorem eu.go (h:eu w0 w P sb Z n) (hs:Since w w'):eu w0 w' P sb Z n:=by
 obtain⟨db,cb,fp,v,h1,h2⟩:=h;refine⟨db,cb,fp,v,h1.since hs,?_⟩;cases hf:Z.f using uT.cs with
 | op S l=>
  rw[hf] at h2;obtain⟨fb,vb,lv,d,h1,h2,h3⟩:=h2;exact⟨fb,vb,lv,d,h1,h2.since hs,h3⟩
 | no D c=>rw[hf] at h2;exact h2
theorem eu.stay (h:eu w0 w P sb Z n) (hs:Since w w'):aG w0 w w' P sb Z n:=⟨P,h.go hs,Fs.ah hs,fun _ _ h=>h⟩
theorem aG.le (h:aG w0 w w' P sb Z n) (hm:n≤m):aG w0 w w' P sb Z m:=by
 obtain⟨P',h1,h2⟩:=h;exact⟨P',h1.le hm,h2⟩
theorem aG.go (h:aG w0 w w' P sb Z n) (hs:Since w' w''):aG w0 w w'' P sb Z n:=by
 obtain⟨P',h1,h2,h3⟩:=h;exact⟨P',h1.go hs,h2.trans (Fs.ah hs),h3⟩
theorem aG.after (hs:Since w w') (h:aG w0 w' w'' P sb Z n):aG w0 w w'' P sb Z n:=by
 obtain⟨P',h1,h2,h3⟩:=h;exact⟨P',h1,(Fs.ah hs).trans h2,fun k hk hn=>h3 k (Nat.lt_of_lt_of_le hk hs.size) hn⟩
theorem eu.gp (h:eu w0 w P sb Z n):Since w0 w:=by
 obtain⟨db,cb,fp,v,h1,h2⟩:=h;exact h1.dc.since
theorem mf.fto {db cb fb vb:Nat} {fp v lv:Value} {d:List Fv} {S S':Vs} {l l':List Fi} {ay:ByteArray} {im:Im} (h:mf w0 w P sb db cb ay im fp S.D S.c v) (hfp:fp=.pointer (some ⟨fb,0,none⟩)) (hoff:Off (fun k=>k=sb) lv d) (Sj:P fb∧fb≠sb) (hvb:P vb∧vb≠sb)
  (ht:BU w0 w w' fb vb db cb (bz ay) (aT ay) S' v lv d l') (hr:En.right l'=true) (hok:S'.ok n):aG w0 w w' P sb ⟨ay,im,.op S' l'⟩ n:=by
 obtain⟨v',Ah,d',hF,hnl,hfs,hnx⟩:=ht;have hQ:∀k,k=fb∨VP vb db cb v k→P k∧k≠sb:=fun k hk=>by
  rcases hk with rfl | rfl | rfl | rfl | hk
  ·exact Sj
  ·exact hvb
  ·exact⟨h.ps.2.1,fun e=>h.ne.1 e.symm⟩
  ·exact⟨h.ps.2.2.1,fun e=>h.ne.2.1 e.symm⟩
  exact⟨h.ps.2.2.2 k hk,fun e=>h.ne.2.2 (e▸hk)⟩
 have hv:∀k,v'.ownBlock=some k→(P k∧k≠sb)∨w.heap.size≤k:=fun k hk=>by
  by_cases hl:k<w.heap.size
  ·by_cases hp:VP vb db cb v k
   ·exact .inl (hQ k (.inr hp))
   exact absurd (.inr (.inr (.inr hk))) (hnx k hl hp)
  exact .inr (by omega)
 refine⟨_,⟨db,cb,fp,v',h.to hfs hQ hF.rZ.dc hv (R:=fun _=>False) (fun _ e=>e.elim),fb,vb,Ah,d',hfp,hF,hoff.nl hnl (fun k hk=>⟨by rw[hk];exact h.lt,hk⟩),hr,hok,⟨.inl Sj.1,Sj.2⟩,⟨.inl hvb.1,hvb.2⟩⟩,⟨hfs.os,hfs.tape,hfs.output,hfs.size,fun k hk hn=>hfs.block k hk (fun e=>hn (hQ k e).1)⟩,fun k hk hn e=>?_⟩;rcases e with e | e | e
 ·exact hn e
 ·rcases hv k e with h1 | h1
  ·exact hn h1.1
  omega
 exact e
end
end Dk
end Go.Proofs.YtmhcfaaggkidjaaGreatDoor
end
section
namespace Go.Proofs.YtmhcfaaggkidjaaGreatDoor
set_option maxRecDepth 100000
namespace Dk
open Go.RowKit
open En (Fi)
open Vl
open Fl (Fm Fv BU Off Nl bR bT bf BR)
section
variable {w0 w w':World} {P:Nat→Prop} {sb db cb:Nat} {ay:ByteArray} {im:Im} {fp:Value} {D D':Dv} {c c':Int} {v v':Value}
theorem mf.cells (h:mf w0 w P sb db cb ay im fp D c v):w.cell? ⟨sb,0,none⟩=some (.pointer (some ⟨db,0,none⟩))∧w.cell? ⟨sb,1,none⟩=some (.pointer (some ⟨cb,0,none⟩))∧w.cell? ⟨sb,2,none⟩=some (.string ay)∧w.cell? ⟨sb,13,none⟩=some fp∧w.frozen? ⟨sb,13,none⟩=false:=by
 obtain⟨iv,hc,hi⟩:=h.bL;exact⟨hc.cell 0 (by omega),hc.cell 1 (by omega),hc.cell 2 (by omega),hc.cell 13 (by omega),hc.frozen 13 (by omega)⟩
theorem mf.put (h:mf w0 w P sb db cb ay im fp D c v) (x:Value):mf w0 (w.setCell ⟨sb,13,none⟩ x) P sb db cb ay im x D c v:=by
 obtain⟨iv,hc,hi⟩:=h.bL;have hf:Fs (fun k=>k=sb) w (w.setCell ⟨sb,13,none⟩ x):=⟨rfl,rfl,rfl,by simp[World.setCell],fun k hk hn=>Below.heap_setCell _ _ _ _ hn⟩
 have hr:Fr sb none w (w.setCell ⟨sb,13,none⟩ x):=⟨rfl,rfl,rfl,by simp[World.setCell],fun k hk h1 h2=>Below.heap_setCell _ _ _ _ h1⟩
 refine⟨h.ty.setCell _ _,h.s16,⟨iv,?_,fun z hz=>(hi z hz).fs hf (fun k hk=>.inl (by rw[hk];exact h.ps.1)) (fun _ _ h=>h)⟩,⟨xx h.dc.dev hf (fun e=>h.ne.1 e.symm) (fun k hk e=>h.ne.2.2 (e▸hk)),iT h.dc.sQ hf (fun e=>h.ne.2.1 e.symm),h.dc.ne,h.dc.own,hf.since h.dc.since (fun k hk=>by rw[hk];exact h.yu _ h.ps.1),h.dc.lo⟩,h.ne,h.ps,h.yu,fun k hk=>by rw[show (w.setCell ⟨sb,13,none⟩ x).heap.size=w.heap.size by simp[World.setCell]];exact h.oU k hk,by rw[show (w.setCell ⟨sb,13,none⟩ x).heap.size=w.heap.size by simp[World.setCell]];exact h.dn⟩;have h1:=hc.set 13 (by omega) x;refine h1.congr (fun j hj=>?_);unfold aZ yt;by_cases e:j=13
 ·subst e;rfl
 rw[if_neg e];have:j<13:=by omega
 simp only[this,if_true]
def FO (w0 w w':World) (db cb:Nat) (s:ByteArray) (D:Dv) (c:Int) (v:Value) (x:Option Addr) (y:Value):Prop:=
 ∃vb r S' v',eB (bz s) (aT s) (fresh D c) r S'∧w.heap.size≤vb∧bg w0 w' vb db cb (bz s) (aT s) S' v'∧Fs (fun k=>k=db∨k=cb∨v.ownBlock=some k) w w'∧Nx w v.ownBlock v'.ownBlock∧
  ((r≠0∧x=none∧y=ev r)∨(r=0∧En.parse (bf S'.X [0,1,2])=none∧x=none∧y=ev 15)∨
   (r=0∧∃l fb lv d,En.parse (bf S'.X [0,1,2])=some l∧x=some ⟨fb,0,none⟩∧y=ev 0∧w.heap.size≤fb∧Fm w0 w' fb vb db cb (bz s) (aT s) S' v' lv d l∧Nl w (.slice none 0 0) [] lv d))
theorem Qo (hT:Sm.jW w0) (LB:En.Lb w0) (hs:ay.size=16) (hw:D.ws.length≤1) (hc:0≤c∧c<1000000000) (h:DC w0 w db cb D c v) :
  Calls Tryz.prog 21 #[.pointer (some ⟨db,0,none⟩),.pointer (some ⟨cb,0,none⟩),.string ay] w fun e w'=>∃x y,e=.returned (.tuple #[.pointer x,y])∧FO w0 w w' db cb ay D c v x y:=by
 refine(Fl.Mi ay hs hT LB hc hw h).mono ?_;rintro e w' ⟨vb,r,S',v',h1,h2,h3,h4,h5,⟨h6,rfl⟩ | ⟨h6,h7,rfl⟩ | ⟨h6,l,fb,lv,d,h7,rfl,h8,h9,h10⟩⟩
 ·exact⟨_,_,rfl,vb,r,S',v',h1,h2,h3,h4,h5,.inl ⟨h6,rfl,rfl⟩⟩
 ·exact⟨_,_,rfl,vb,r,S',v',h1,h2,h3,h4,h5,.inr (.inl ⟨h6,h7,rfl,rfl⟩)⟩
 exact⟨_,_,rfl,vb,r,S',v',h1,h2,h3,h4,h5,.inr (.inr ⟨h6,l,fb,lv,d,h7,rfl,rfl,h8,h9,h10⟩)⟩
theorem Qp {r:Int} {S:Vs} {kb kt:ByteArray} (h:eB kb kt (fresh D c) r S) (hw:D.ws.length≤1) (hc:0≤c):S.D.ws.length≤1∧0≤S.c∧S.c≤c+1:=by
 by_cases hr:r=0
 ·have ho:=Fl.eB.ok' h hw hc hr;exact⟨ho.ws,ho.c0,ho.cn⟩
 rcases h with⟨_,h0,_⟩ | ⟨_,_,h0,_⟩ | ⟨_,_,_,h0,_⟩ | ⟨_,_,_,_,rfl⟩
 ·exact absurd h0 hr
 ·exact absurd h0 hr
 ·exact absurd h0 hr
 exact⟨hw,hc,by show c≤c+1;omega⟩
theorem FO.mG {x:Option Addr} {y:Value} (h:mf w0 w P sb db cb ay im fp D c v) (hw:D.ws.length≤1) (hc:0≤c) (hf:FO w0 w w' db cb ay D c v x y) :
  ∃f r,y=ev r∧dL ay D c f r∧aG w0 w (w'.setCell ⟨sb,13,none⟩ (.pointer x)) P sb ⟨ay,im,f⟩ (c+1):=by
 obtain⟨vb,r,S',v',hto,hvb,tY,hfs,hnx,hx⟩:=hf;obtain⟨q1,q2,q3⟩:=Qp hto hw hc;have hlt:=h.lt;have hQ:∀k,k=db∨k=cb∨v.ownBlock=some k→P k∧k≠sb:=fun k hk=>by
  rcases hk with rfl | rfl | hk
  ·exact⟨h.ps.2.1,fun e=>h.ne.1 e.symm⟩
  ·exact⟨h.ps.2.2.1,fun e=>h.ne.2.1 e.symm⟩
  exact⟨h.ps.2.2.2 k hk,fun e=>h.ne.2.2 (e▸hk)⟩
 have hv:∀k,v'.ownBlock=some k→(P k∧k≠sb)∨w.heap.size≤k:=fun k hk=>by
  rcases hnx k hk with h1 | h1
  ·exact .inl (hQ k (.inr (.inr h1)))
  exact .inr h1
 have hsz:∀W:World,∀u,(W.setCell ⟨sb,13,none⟩ u).heap.size=W.heap.size:=fun W u=>by simp[World.setCell]
 have hfr:∀{R:Nat→Prop},Fs P w (w'.setCell ⟨sb,13,none⟩ (.pointer x)):=fun {R}=>by
  refine⟨hfs.os,hfs.tape,hfs.output,by rw[hsz];exact hfs.size,fun k hk hn=>?_⟩;have hks:k≠sb:=fun e=>hn (by rw[e];exact h.ps.1)
  exact(Below.heap_setCell _ _ _ _ hks).trans (hfs.block k hk (fun e=>hn (hQ k e).1))
 have Mm:∀{R:Nat→Prop},(∀k,R k→w.heap.size≤k∧k<w'.heap.size)→∀k,k<w.heap.size→¬P k→¬(P k∨v'.ownBlock=some k∨R k):=fun hR k hk hn e=>by
  rcases e with e | e | e
  ·exact hn e
  ·rcases hv k e with h1 | h1
   ·exact hn h1.1
   omega
  have:=(hR k e).1;omega
 rcases hx with⟨h6,rfl,rfl⟩ | ⟨h6,h7,rfl,rfl⟩ | ⟨h6,l,fb,lv,d,h7,rfl,rfl,h8,h9,h10⟩
 ·exact⟨.no S'.D S'.c,r,rfl,⟨r,S',hto,.inl ⟨h6,rfl,rfl⟩⟩,_,⟨db,cb,_,v',(h.to hfs hQ tY.dc hv (R:=fun _=>False) (fun _ e=>e.elim)).put _,rfl,q1,q2,q3⟩,hfr (R:=fun _=>False),Mm (fun _ e=>e.elim)⟩
 ·exact⟨.no S'.D S'.c,15,rfl,⟨r,S',hto,.inr (.inl ⟨h6,h7,rfl,rfl⟩)⟩,_,⟨db,cb,_,v',(h.to hfs hQ tY.dc hv (R:=fun _=>False) (fun _ e=>e.elim)).put _,rfl,q1,q2,q3⟩,hfr (R:=fun _=>False),Mm (fun _ e=>e.elim)⟩
 have hR:∀k,(k=fb∨k=vb)→w.heap.size≤k∧k<w'.heap.size:=fun k hk=>by
  rcases hk with rfl | rfl
  ·exact⟨h8,World.block_lt_of_cell? w' _ h9.c0⟩
  exact⟨hvb,tY.bL.lt (by omega)⟩
 refine⟨.op S' l,0,rfl,⟨r,S',hto,.inr (.inr ⟨h6,l,h7,rfl,rfl⟩)⟩,_,⟨db,cb,_,v',(h.to hfs hQ tY.dc hv (R:=fun k=>k=fb∨k=vb) hR).put _,fb,vb,lv,d,rfl,?_,?_,((En.oG _ _).1 h7).1,Fl.eB.ok' hto hw hc h6,⟨.inr (.inr (.inl rfl)),by omega⟩,⟨.inr (.inr (.inr rfl)),by omega⟩⟩,hfr (R:=fun _=>False),Mm hR⟩
 ·have hnew:∀k o n c,lv=.slice (some ⟨k,o,none⟩) n c→k≠sb:=fun k o n c e=>by
   rcases h10.1 k o n c e with h1 | ⟨o',n',c',h1⟩
   ·omega
   cases h1
  have a0B:∀x ∈ d,∀k o,x.2.2.1=some ⟨k,o,none⟩→k≠sb:=fun x hx k o e=>by
   rcases h10.2 x hx k o e with h1 | ⟨y,hy,_⟩
   ·omega
   cases hy
  refine h9.fs (P:=fun k=>k=sb) ⟨rfl,rfl,rfl,by rw[hsz];exact Nat.le_refl _,fun k hk hn=>Below.heap_setCell _ _ _ _ hn⟩ (fun k hk=>by rw[hk];exact h.yu _ h.ps.1) (fun k hk e=>?_) (fun k o n c e=>hnew k o n c e) (fun j x hx k o e=>a0B x (List.mem_of_getElem? hx) k o e);subst e;refine⟨by omega,fun e=>?_⟩;rcases e with e | e | e | e
  ·omega
  ·exact h.ne.1 e
  ·exact h.ne.2.1 e
  rcases hv _ e with h1 | h1
  ·exact h1.2 rfl
  omega
 refine⟨fun k o n c e=>?_,fun x hx k o e=>?_⟩
 ·rcases h10.1 k o n c e with h1 | ⟨o',n',c',h1⟩
  ·intro e';omega
  cases h1
 rcases h10.2 x hx k o e with h1 | ⟨y,hy,_⟩
 ·intro e';omega
 cases hy
set_option maxHeartbeats 8000000 in
theorem qB (hT:Sm.jW w0) (LB:En.Lb w0) (h:mf w0 w P sb db cb ay im fp D c v) (hw:D.ws.length≤1) (hc:0≤c∧c<900000000) :
  Calls Tryz.prog 91 #[.pointer (some ⟨sb,0,none⟩)] w fun e w'=>∃f r,e=.returned (ev r)∧dL ay D c f r∧aG w0 w w' P sb ⟨ay,im,f⟩ (c+1):=by
 have HO:Hid (Calls Tryz.prog 21 #[.pointer (some ⟨db,0,none⟩),.pointer (some ⟨cb,0,none⟩),.string ay] w.drew fun e w'=>∃x y,e=.returned (.tuple #[.pointer x,y])∧FO w0 w.drew w' db cb ay D c v x y):=Qo hT LB h.s16 hw ⟨hc.1,by omega⟩ (h.dc.go (Since.refl w).drew);have HSD:Hid (∀w' x y,FO w0 w.drew w' db cb ay D c v x y→∃f r,y=ev r∧dL ay D c f r∧aG w0 w (w'.setCell ⟨sb,13,none⟩ (.pointer x)) P sb ⟨ay,im,f⟩ (c+1)):=fun w' x y hf=>by
  obtain⟨f,r,h1,h2,h3⟩:=FO.mG (h.since (Since.refl w).drew) hw hc.1 hf;exact⟨f,r,h1,h2,aG.after (Since.refl w).drew h3⟩
 have XO:Hid (∀w' x y,FO w0 w.drew w' db cb ay D c v x y→(w'.frozen? ⟨sb,13,none⟩=false∧w'.cell? ⟨sb,13,none⟩=some fp)∧w'.cell? ⟨sb,0,none⟩=some (.pointer (some ⟨db,0,none⟩))∧w'.cell? ⟨sb,1,none⟩=some (.pointer (some ⟨cb,0,none⟩))∧w'.cell? ⟨sb,2,none⟩=some (.string ay)):=fun w' x y hf=>by
  obtain⟨vb,r,S',v',hto,hvb,tY,hfs,hnx,hx⟩:=hf;have hn:¬(sb=db∨sb=cb∨v.ownBlock=some sb):=fun e=>by
   rcases e with e | e | e
   ·exact h.ne.1 e
   ·exact h.ne.2.1 e
   exact h.ne.2.2 e
  have hd:=(h.since (Since.refl w).drew)
  exact⟨⟨(hfs.frozen (p:=⟨sb,13,none⟩) hd.lt hn).trans hd.cells.2.2.2.2,(hfs.cell (p:=⟨sb,13,none⟩) hd.lt hn).trans hd.cells.2.2.2.1⟩,(hfs.cell (p:=⟨sb,0,none⟩) hd.lt hn).trans hd.cells.1,(hfs.cell (p:=⟨sb,1,none⟩) hd.lt hn).trans hd.cells.2.1,(hfs.cell (p:=⟨sb,2,none⟩) hd.lt hn).trans hd.cells.2.2.1⟩
 have o13:∀(W:World) (u:Value) (j:Nat),j≠13→(W.setCell ⟨sb,13,none⟩ u).cell? ⟨sb,j,none⟩=W.cell? ⟨sb,j,none⟩:=fun W u j hj=>World.cell?_setCell_other W _ _ u (by intro hc;injection hc with _ h2;omega)
 obtain⟨c0,c1,c2,c13,f13⟩:=h.cells;clear h hw hc hT LB;go_enter Tryz.func91,Tryz.ntmps91
 go_wp2_with fail
 go_region_held3 (fun W=>W.cell? ⟨sb,0,none⟩=some (.pointer (some ⟨db,0,none⟩))∧W.cell? ⟨sb,1,none⟩=some (.pointer (some ⟨cb,0,none⟩))∧W.cell? ⟨sb,2,none⟩=some (.string ay)) (first | exact⟨c0,c1,c2⟩ | exact⟨y0,y1,y2⟩ | exact⟨(o13 _ _ _ (by omega)).trans y0,(o13 _ _ _ (by omega)).trans y1,(o13 _ _ _ (by omega)).trans y2⟩) (first
  | (go_simp;go_at_call 21;refine HO.out.mono ?_;rintro e w1 ⟨x,y,rfl,hfo⟩;have H1:Hid (FO w0 w.drew w1 db cb ay D c v x y):=hfo;obtain⟨⟨y13,z13⟩,y0,y1,y2⟩:=XO.out _ _ _ hfo;clear hfo;dsimp only))
 clear y0 y1 y2 y13 z13;go_wp2_with fail
 obtain⟨f,r,rfl,h2,h3⟩:=HSD.out _ _ _ H1.out;go_ret;exact⟨f,r,rfl,h2,h3⟩
def gV (r:Int) (t:ByteArray):Ending:=if r=0 then .returned (.string t) else thrown r
theorem nS (r:Int) (W:World) (hg:Et W):Calls Tryz.prog 92 #[ev r] W fun e w'=>e=(if r=0 then .returned (.tuple #[]) else thrown r)∧Since W w':=by
 by_cases h:r=0
 ·subst h;refine(um W).mono ?_;rintro e w' ⟨rfl,rfl⟩;exact⟨rfl,Since.refl _⟩
 have e1:ev r=.iface 32 (.int .i64 r):=if_neg h;rw[e1,if_neg h];exact uo r W hg
theorem Et.go {W W':World} (h:Et W) (hs:Since W W'):Et W':=by
 unfold Et at *;exact(hs.cell (World.block_lt_of_cell? W _ h)).trans h
def uT.count:uT→Int
 | ⟨.inl (S,_)⟩=>S.T.count
 | ⟨.inr (_,_)⟩=>0
set_option maxHeartbeats 8000000 in
theorem sF (hT:Sm.jW w0) (LB:En.Lb w0) (hE:Et w0) (h:mf w0 w P sb db cb ay im fp D c v) (hw:D.ws.length≤1) (hc:0≤c∧c<900000000) (word:ByteArray) (hwd:word.size≤1000) :
  Calls Tryz.prog 101 #[.pointer (some ⟨sb,0,none⟩),.string word] w fun e w'=>∃f r,e=gV r (told word f.count)∧dL ay D c f r∧aG w0 w w' P sb ⟨ay,im,f⟩ (c+1):=by
 have HR:Hid (Calls Tryz.prog 91 #[.pointer (some ⟨sb,0,none⟩)] w fun e w'=>∃f r,e=.returned (ev r)∧dL ay D c f r∧aG w0 w w' P sb ⟨ay,im,f⟩ (c+1)):=qB hT LB h hw hc;have HX:Hid (En.Lb w0∧Et w0∧word.size≤1000∧c<900000000):=⟨LB,hE,hwd,hc.2⟩
 clear h hw hc hT LB hE hwd;go_enter Tryz.func101,Tryz.ntmps101
 go_wp2_with fail
 refine HR.out.mono ?_;rintro e w1 ⟨f,r,rfl,h2,P',h3,h4,h5⟩;have H2:Hid (dL ay D c f r∧aG w0 w w1 P sb ⟨ay,im,f⟩ (c+1)):=⟨h2,P',h3,h4,h5⟩
 have HT:Hid (Calls Tryz.prog 92 #[ev r] w1 fun e w'=>e=(if r=0 then .returned (.tuple #[]) else thrown r)∧Since w1 w'):=nS r w1 (Et.go HX.out.2.1 h3.gp);have H3:Hid (eu w0 w1 P' sb ⟨ay,im,f⟩ (c+1)):=h3;clear h2 h3 h4 h5;go_wp2_with fail
 refine HT.out.mono ?_;by_cases hr:r=0
 ·rintro e w2 ⟨he,hs2⟩;rw[if_pos hr] at he;subst he;have hf:∃S l,f=.op S l:=by
   obtain⟨r0,S,_,h1 | h1 | ⟨_,l,_,_,h1⟩⟩:=H2.out.1
   ·exact absurd (h1.2.1.symm.trans hr) h1.1
   ·exact absurd (h1.2.2.1.symm.trans hr) (by decide)
   exact⟨S,l,h1⟩
  obtain⟨S,l,hfe⟩:=hf;subst hfe;obtain⟨db',cb',fp',v',h6,fb,vb,lv,d,hfp,hFm,_,_,hok,_⟩:=H3.out.go hs2;have a3t:fp'=.pointer (some ⟨fb,0,none⟩):=hfp;subst a3t;obtain⟨_,_,_,c13,_⟩:=h6.cells;have HC:Hid (Calls Tryz.prog 97 #[.pointer (some ⟨fb,0,none⟩)] w2 fun e w'=>e=.returned (.int .i64 S.T.count)∧w'=w2):=Fl.qA hFm;have yQ:Hid (Calls Tryz.prog 34 #[.string word,.int .i64 S.T.count] w2 fun e w'=>e=.returned (.string (told word S.T.count))∧Since w2 w'):=gP word S.T.count w2 HX.out.2.2.1 (by have h1:=hok.cnt;have h2:=hok.c0;have h3:=hok.cn;have h4:=HX.out.2.2.2;omega) (HX.out.1.since h6.dc.since);have H4:Hid (Since w1 w2):=hs2;clear h6 hFm hok hs2;go_wp2_with fail
  refine HC.out.mono ?_;rintro e w3 ⟨rfl,hw3⟩;subst hw3;go_wp2_with fail
  refine yQ.out.mono ?_;rintro e w4 ⟨rfl,hs4⟩;have H5:Hid (Since w1 w4):=H4.out.trans hs4;clear hs4;go_wp2_with fail
  go_ret;exact⟨.op S l,r,by unfold gV;rw[if_pos hr];rfl,H2.out.1,H2.out.2.go H5.out⟩
 rintro e w2 ⟨he,hs2⟩;rw[if_neg hr] at he;subst he;exact⟨rfl,f,r,by unfold gV;rw[if_neg hr];rfl,H2.out.1,H2.out.2.go hs2⟩
end
end Dk
end Go.Proofs.YtmhcfaaggkidjaaGreatDoor
end
