import Derived.Test.YtlgbfkcpdelcbaaGreatDoorJ29
import Derived.Test.YtlgbfkcpdelcbaaGreatDoorJ39
import Derived.Test.YtlgbfkcpdelcbaaGreatDoorJ43
set_option linter.unusedSimpArgs false
set_option linter.unusedVariables false
set_option maxHeartbeats 8000000
set_option maxRecDepth 100000
namespace Go.Proofs.YtlgbfkcpdelcbaaGreatDoor
section
namespace Vl
open Go.RowKit
open Tw (Tb ae aY aU)
def bN (Rb rd rc:Nat)(s:ByteArray)(T:Tb)(X:Nat→ByteArray)(f:Bool)(j:Nat):Value:=
 if j=0 then .pointer (some ⟨Rb,0,none⟩) else if j=1 then .pointer (some ⟨rd,0,none⟩) else if j=2 then .pointer (some ⟨rc,0,none⟩) else if j=3 then .string s
 else if j<77 then ae T (j-4) else if j<101 then .string (X (j-77)) else .bool f
theorem qX (Rb rd rc:Nat)(s:ByteArray)(T:Tb)(X:Nat→ByteArray)(f:Bool)(j:Nat)(hj:j<73):bN Rb rd rc s T X f (4+j)=ae T j:=by
 unfold bN;rw[if_neg (by omega),if_neg (by omega),if_neg (by omega),if_neg (by omega),if_pos (by omega),show 4+j-4=j by omega]
theorem gB (Rb rd rc:Nat)(s:ByteArray)(T:Tb)(X:Nat→ByteArray)(f:Bool)(j:Nat)(hj:j<24):bN Rb rd rc s T X f (77+j)=.string (X j):=by
 unfold bN;rw[if_neg (by omega),if_neg (by omega),if_neg (by omega),if_neg (by omega),if_neg (by omega),if_pos (by omega),show 77+j-77=j by omega]
theorem qY (Rb rd rc:Nat)(s:ByteArray)(T:Tb)(X:Nat→ByteArray)(f:Bool)(i:Nat)(hi:i<24)(z o:Int)(t:ByteArray)(j:Nat)(hj:j<102) :
  aJ (aJ (aJ (bN Rb rd rc s T X f) (5+i*3) (.int .i64 z)) (5+i*3+1) (.int .i64 o)) (5+i*3+2) (.string t) j=bN Rb rd rc s (dD T i z o t) X f j:=by
 unfold aJ;by_cases hr:5≤j∧j<77
 ·have e:∀U,bN Rb rd rc s U X f j=Tw.eY U ((j-5) / 3) ((j-5) % 3):=fun U=>by
   have:=qX Rb rd rc s U X f (j-4) (by omega);rw[show 4+(j-4)=j by omega] at this;rw[this];unfold ae;rw[if_neg (by omega),show j-4-1=j-5 by omega]
  rw[e,e];by_cases h2:j=5+i*3+2
  ·subst h2;rw[if_pos rfl,show (5+i*3+2-5) / 3=i by omega,show (5+i*3+2-5) % 3=2 by omega];simp[Tw.eY,dD]
  rw[if_neg h2];by_cases h1:j=5+i*3+1
  ·subst h1;rw[if_pos rfl,show (5+i*3+1-5) / 3=i by omega,show (5+i*3+1-5) % 3=1 by omega];simp[Tw.eY,dD]
  rw[if_neg h1];by_cases h0:j=5+i*3
  ·subst h0;rw[if_pos rfl,show (5+i*3-5) / 3=i by omega,show (5+i*3-5) % 3=0 by omega];simp[Tw.eY,dD]
  rw[if_neg h0];have hne:¬(j-5) / 3=i:=by omega
  unfold Tw.eY dD;simp only[if_neg hne]
 rw[if_neg (by omega),if_neg (by omega),if_neg (by omega)];unfold bN;by_cases h4:j<77
 ·have h44:j≤4:=by omega
  by_cases h5:j=4
  ·subst h5;rfl
  match j,(show j<4 by omega) with
  | 0,_=>rfl
  | 1,_=>rfl
  | 2,_=>rfl
  | 3,_=>rfl
 simp only[if_neg h4]
theorem oW (Rb rd rc:Nat)(s:ByteArray)(T:Tb)(X:Nat→ByteArray)(f:Bool)(i:Nat)(hi:i<24)(t:ByteArray)(j:Nat)(hj:j<102) :
  aJ (bN Rb rd rc s T X f) (77+i) (.string t) j=bN Rb rd rc s T (lN X i t) f j:=by
 unfold aJ;by_cases e:j=77+i
 ·subst e;rw[if_pos rfl,gB _ _ _ _ _ _ _ i hi];simp[lN]
 rw[if_neg e];unfold bN;by_cases h4:j<77
 ·simp only[if_pos h4]
 by_cases h5:j<101
 ·have hne:¬j-77=i:=by omega
  simp only[if_neg h4,if_pos h5,lN,if_neg hne]
 simp only[if_neg h4,if_neg h5]
theorem vg (Rb rd rc:Nat)(s:ByteArray)(T U:Tb)(X:Nat→ByteArray)(f:Bool)(j:Nat)(hj:j<102) :
  fP (bN Rb rd rc s T X f) 4 73 (ae U) j=bN Rb rd rc s U X f j:=by
 unfold fP;by_cases h:4≤j∧j<4+73
 ·rw[if_pos h];have:=qX Rb rd rc s U X f (j-4) (by omega);rw[show 4+(j-4)=j by omega] at this;rw[this]
 rw[if_neg h];unfold bN;by_cases h4:j<77
 ·match j,(show j<4 by omega) with
  | 0,_=>rfl
  | 1,_=>rfl
  | 2,_=>rfl
  | 3,_=>rfl
 simp only[if_neg h4]
theorem Fj (Rb rd rc:Nat)(s:ByteArray)(T U:Tb)(X Y:Nat→ByteArray)(f:Bool)(j:Nat)(hj:j<102) :
  fP (bN Rb rd rc s T X f) 77 24 (aW Y) j=bN Rb rd rc s T Y f j:=by
 unfold fP;by_cases h:77≤j∧j<77+24
 ·rw[if_pos h];have:=gB Rb rd rc s T Y f (j-77) (by omega);rw[show 77+(j-77)=j by omega] at this;rw[this]
  rfl
 rw[if_neg h];unfold bN;by_cases h4:j<77
 ·simp only[if_pos h4]
 have h5:¬j<101:=by omega
 simp only[if_neg h4,if_neg h5]
structure RF (q:Bool)(N rv rd rc:Nat)(w w':World):Prop where
 os:w'.os=w.os
 tape:w'.tape=w.tape
 output:w'.output=w.output
 size:w.heap.size≤w'.heap.size
 block:∀k,k<w.heap.size→k≠rv→k≠rd→k≠rc→(q=true∨k<N∨∃t,Ty w k t∧t≠3∧t≠9)→w'.heap[k]?=w.heap[k]?
theorem RF.refl (q:Bool)(N rv rd rc:Nat)(w:World):RF q N rv rd rc w w:=⟨rfl,rfl,rfl,Nat.le_refl _,fun _ _ _ _ _ _=>rfl⟩
theorem RF.trans {q:Bool}{N rv rd rc:Nat}{w w' w'':World}(h:RF q N rv rd rc w w')(k:RF q N rv rd rc w' w''):RF q N rv rd rc w w'':=
 ⟨k.os.trans h.os,k.tape.trans h.tape,k.output.trans h.output,Nat.le_trans h.size k.size,fun j hj h1 h2 h3 h4=>by
  have e:=h.block j hj h1 h2 h3 h4;refine(k.block j (Nat.lt_of_lt_of_le hj h.size) h1 h2 h3 ?_).trans e;rcases h4 with h4 | h4 | ⟨t,ht,h5⟩
  ·exact Or.inl h4
  ·exact Or.inr (Or.inl h4)
  exact Or.inr (Or.inr ⟨t,ht.blk e,h5⟩)⟩
theorem RF.ag {q:Bool}{N rv rd rc:Nat}{w w':World}(h:Since w w'):RF q N rv rd rc w w':=⟨h.os,h.tape,h.output,h.size,fun k hk _ _ _ _=>h.block k hk⟩
theorem RF.kU {q:Bool}{N rv rd rc b:Nat}{w w':World}(h:Fr b none w w')(hb:b=rv∨b=rd∨b=rc):RF q N rv rd rc w w':=⟨h.os,h.tape,h.output,h.size,fun k hk h1 h2 h3 _=>h.block k hk (by
 rcases hb with rfl | rfl | rfl<;>assumption) (by simp)⟩
theorem RF.a5i {N rv rd rc:Nat}{w w':World}{D:Dv}{lv:Nat→Value}{av wv:Value}(hr:Ref w rd N D lv av wv)(h:Go.Proofs.YtlgbfkcpdelcbaaGreatDoor.Fs (PS rd av wv) w w'):RF false N rv rd rc w w':=⟨h.os,h.tape,h.output,h.size,fun k hk h1 h2 h3 h4=>h.block k hk (by
 rintro (e | e | e)
 ·exact h2 e
 ·have hb:=(hr.at_.lt _ e).1;rcases h4 with h4 | h4 | ⟨t,ht,h5,h6⟩
  ·cases h4
  ·omega
  exact h5 (ht.one (Ty.own hr.at_ e))
 have hb:=(hr.what.lt _ e).1;rcases h4 with h4 | h4 | ⟨t,ht,h5,h6⟩
 ·cases h4
 ·omega
 exact h6 (ht.one (Ty.own hr.what e)))⟩
theorem a0Q {rb:Nat}{av wv:Value}{w w':World}(h:Fr rb none w w'):Go.Proofs.YtlgbfkcpdelcbaaGreatDoor.Fs (PS rb av wv) w w':=Go.Proofs.YtlgbfkcpdelcbaaGreatDoor.Fs.kU h (Or.inl rfl) (fun k e=>by cases e)
structure bg (w0 w:World)(N rv Rb rd rc:Nat)(s:ByteArray)(S:Vs):Prop where
 aQ:aA w rv 102 (bN Rb rd rc s S.T S.X S.dead)
 sV:∃lv av wv,Ref w rd N S.D lv av wv
 iN:aA w rc 1 (fun _=>.int .i64 S.c)
 hh:Sm.aN w Rb 0 8 Sm.H0.fn∧Sm.aN w Rb 8 64 Sm.kn
 ty:Ty w rv 75
 ne:Rb<N∧rd<N∧rc<N∧N≤rv∧rd≠rc∧rd≠Rb∧rc≠Rb
 since:Since w0 w
 lo:w0.heap.size≤Rb∧w0.heap.size≤rd∧w0.heap.size≤rc
def iZ (q:Bool)(w0 w w':World)(N rv Rb rd rc:Nat)(s:ByteArray)(S':Vs):Prop:=bg w0 w' N rv Rb rd rc s S'∧RF q N rv rd rc w w'
section
variable {q:Bool} {w0 w w' w'':World} {N rv Rb rd rc:Nat} {s:ByteArray} {S S':Vs}
theorem jN {b o n:Nat}{f:Nat→BitVec 32}(h:Sm.aN w b o n f)(hb:w'.heap[b]?=w.heap[b]?):Sm.aN w' b o n f:=
 ⟨fun j hj=>by rw[World.cell?_of_block (w:=w) (a:=⟨b,o+j,none⟩) hb];exact h.cell j hj,fun j hj=>by rw[World.frozen?_of_block (w:=w) (a:=⟨b,o+j,none⟩) hb];exact h.frozen j hj⟩
theorem eU {b n:Nat}{f:Nat→Value}(h:aA w b n f)(hb:w'.heap[b]?=w.heap[b]?):aA w' b n f:=
 ⟨fun j hj=>by rw[World.cell?_of_block (w:=w) (a:=⟨b,j,none⟩) hb];exact h.cell j hj,fun j hj=>by rw[World.frozen?_of_block (w:=w) (a:=⟨b,j,none⟩) hb];exact h.frozen j hj⟩
theorem nK {b o n:Nat}{f:Nat→BitVec 32}(h:Sm.aN w b o n f)(hn:0<n):b<w.heap.size:=World.block_lt_of_cell? w _ (h.cell 0 hn)
theorem bg.go (h:bg w0 w N rv Rb rd rc s S)(hs:Since w w'):bg w0 w' N rv Rb rd rc s S where
 aQ:=h.aQ.since hs
 sV:=by
  obtain⟨lv,av,wv,hr⟩:=h.sV;exact⟨lv,av,wv,hr.since hs⟩
 iN:=h.iN.since hs
 hh:=⟨h.hh.1.since hs,h.hh.2.since hs⟩
 ty:=h.ty.since hs
 ne:=h.ne
 since:=h.since.trans hs
 lo:=h.lo
theorem bg.self (h:bg w0 w N rv Rb rd rc s S):iZ q w0 w w N rv Rb rd rc s S:=⟨h,RF.refl _ _ _ _ _ _⟩
theorem bg.to (h:bg w0 w N rv Rb rd rc s S)(hs:Since w w'):iZ q w0 w w' N rv Rb rd rc s S:=⟨h.go hs,RF.ag hs⟩
theorem iZ.then (h:iZ q w0 w w' N rv Rb rd rc s S)(k:bg w0 w' N rv Rb rd rc s S→iZ q w0 w' w'' N rv Rb rd rc s S'):iZ q w0 w w'' N rv Rb rd rc s S':=⟨(k h.1).1,h.2.trans (k h.1).2⟩
theorem iZ.pre (hs:Since w w')(h:iZ q w0 w' w'' N rv Rb rd rc s S):iZ q w0 w w'' N rv Rb rd rc s S:=⟨h.1,(RF.ag hs).trans h.2⟩
theorem iZ.after (h:iZ q w0 w w' N rv Rb rd rc s S)(k:iZ q w0 w' w'' N rv Rb rd rc s S'):iZ q w0 w w'' N rv Rb rd rc s S':=⟨k.1,h.2.trans k.2⟩
theorem bg.b2b {D D':Dv}{lv dK:Nat→Value}{av wv Ng wv':Value}(h:bg w0 w N rv Rb rd rc s S)(hr:Ref w rd N D lv av wv)(hr':Ref w' rd N D' dK Ng wv')(hf:Go.Proofs.YtlgbfkcpdelcbaaGreatDoor.Fs (PS rd av wv) w w'):iZ false w0 w w' N rv Rb rd rc s { S with D:=D' }:=by
 have hF:RF false N rv rd rc w w':=RF.a5i hr hf;have n1:¬PS rd av wv rv:=by
  rintro (e | e | e)
  ·have:=h.ne;omega
  ·exact absurd (h.ty.one (Ty.own hr.at_ e)) (by decide)
  exact absurd (h.ty.one (Ty.own hr.what e)) (by decide)
 have nlt:∀k,k<N→k≠rd→¬PS rd av wv k:=by
  rintro k hk hd (e | e | e)
  ·exact hd e
  ·have:=(hr.at_.lt _ e).1;omega
  have:=(hr.what.lt _ e).1;omega
 have e1:=hf.block rv h.ty.lt n1;have e2:=hf.block rc (h.iN.lt (by omega)) (nlt rc h.ne.2.2.1 (fun e=>h.ne.2.2.2.2.1 e.symm));have e3:=hf.block Rb (nK h.hh.1 (by omega)) (nlt Rb h.ne.1 (fun e=>h.ne.2.2.2.2.2.1 e.symm));refine⟨⟨eU h.aQ e1,⟨dK,Ng,wv',hr'⟩,eU h.iN e2,⟨jN h.hh.1 e3,jN h.hh.2 e3⟩,h.ty.blk e1,h.ne,?_,h.lo⟩,hF⟩;refine Below.trans (show Below w0.heap.size w0 w from h.since) ⟨hf.os,hf.tape,hf.output,hf.size,fun k hk=>hf.block k (Nat.lt_of_lt_of_le hk h.since.size) (nlt k ?_ ?_)⟩
 ·have:=h.lo;have:=h.ne;omega
 have:=h.lo;omega
theorem bg.yQ {D D':Dv}{lv dK:Nat→Value}{av wv Ng wv':Value}(h:bg w0 w N rv Rb rd rc s S)(hr:Ref w rd N D lv av wv)(hr':Ref w' rd N D' dK Ng wv')(hf0:Fr rd none w w'):iZ q w0 w w' N rv Rb rd rc s { S with D:=D' }:=by
 have hf:Go.Proofs.YtlgbfkcpdelcbaaGreatDoor.Fs (PS rd av wv) w w':=a0Q hf0;have hF:RF q N rv rd rc w w':=RF.kU hf0 (Or.inr (Or.inl rfl));have n1:¬PS rd av wv rv:=by
  rintro (e | e | e)
  ·have:=h.ne;omega
  ·exact absurd (h.ty.one (Ty.own hr.at_ e)) (by decide)
  exact absurd (h.ty.one (Ty.own hr.what e)) (by decide)
 have nlt:∀k,k<N→k≠rd→¬PS rd av wv k:=by
  rintro k hk hd (e | e | e)
  ·exact hd e
  ·have:=(hr.at_.lt _ e).1;omega
  have:=(hr.what.lt _ e).1;omega
 have e1:=hf.block rv h.ty.lt n1;have e2:=hf.block rc (h.iN.lt (by omega)) (nlt rc h.ne.2.2.1 (fun e=>h.ne.2.2.2.2.1 e.symm));have e3:=hf.block Rb (nK h.hh.1 (by omega)) (nlt Rb h.ne.1 (fun e=>h.ne.2.2.2.2.2.1 e.symm));refine⟨⟨eU h.aQ e1,⟨dK,Ng,wv',hr'⟩,eU h.iN e2,⟨jN h.hh.1 e3,jN h.hh.2 e3⟩,h.ty.blk e1,h.ne,?_,h.lo⟩,hF⟩;refine Below.trans (show Below w0.heap.size w0 w from h.since) ⟨hf.os,hf.tape,hf.output,hf.size,fun k hk=>hf.block k (Nat.lt_of_lt_of_le hk h.since.size) (nlt k ?_ ?_)⟩
 ·have:=h.lo;have:=h.ne;omega
 have:=h.lo;omega
theorem Ref.fr' {D:Dv}{lv:Nat→Value}{av wv:Value}{b:Nat}(hr:Ref w rd N D lv av wv)(hf:Fr b none w w')(hrd:rd≠b)(hb:∀k,(∃z,z<8∧(lv z).ownBlock=some k)∨av.ownBlock=some k∨wv.ownBlock=some k→k≠b):Ref w' rd N D lv av wv where
 aQ:=hr.aQ.fr hf hrd (by simp)
 row z hz:=dh (hr.row z hz) hf (fun e=>hb _ (Or.inl ⟨z,hz,e⟩) rfl) (jV _)
 at_:=dh hr.at_ hf (fun e=>hb _ (Or.inr (Or.inl e)) rfl) (jV _)
 what:=dh hr.what hf (fun e=>hb _ (Or.inr (Or.inr e)) rfl) (jV _)
 apart:=hr.apart
 lt:=hr.lt
 le:=Nat.le_trans hr.le hf.size
theorem bg.nJ {T':Tb}{X':Nat→ByteArray}{f':Bool}(h:bg w0 w N rv Rb rd rc s S)(hc:aA w' rv 102 (bN Rb rd rc s T' X' f'))(hf:Fr rv none w w')(ht:Ty w' rv 75):iZ q w0 w w' N rv Rb rd rc s { S with T:=T',X:=X',dead:=f' }:=by
 obtain⟨lv,av,wv,hr⟩:=h.sV;have hne:=h.ne;have hb:∀k,(∃z,z<8∧(lv z).ownBlock=some k)∨av.ownBlock=some k∨wv.ownBlock=some k→k≠rv:=by
  rintro k (⟨z,hz,e⟩ | e | e) rfl
  ·exact absurd (h.ty.one (Ty.own (hr.row z hz) e)) (by decide)
  ·exact absurd (h.ty.one (Ty.own hr.at_ e)) (by decide)
  exact absurd (h.ty.one (Ty.own hr.what e)) (by decide)
 have e2:=hf.block rc (h.iN.lt (by omega)) (by omega) (by simp);have e3:=hf.block Rb (nK h.hh.1 (by omega)) (by omega) (by simp);refine⟨⟨hc,⟨lv,av,wv,Ref.fr' hr hf (by omega) hb⟩,eU h.iN e2,⟨jN h.hh.1 e3,jN h.hh.2 e3⟩,ht,h.ne,?_,h.lo⟩,RF.kU hf (Or.inl rfl)⟩;exact Below.trans (show Below w0.heap.size w0 w from h.since) ⟨hf.os,hf.tape,hf.output,hf.size,fun k hk=>hf.block k (Nat.lt_of_lt_of_le hk h.since.size) (by have:=h.lo;omega) (by simp)⟩
theorem bg.Ab {c':Int}(h:bg w0 w N rv Rb rd rc s S):iZ q w0 w (w.setCell ⟨rc,0,none⟩ (.int .i64 c')) N rv Rb rd rc s { S with c:=c' }:=by
 obtain⟨lv,av,wv,hr⟩:=h.sV;have hne:=h.ne;have hf:Fr rc none w (w.setCell ⟨rc,0,none⟩ (.int .i64 c')):=Fr.setCell rc none 0 w _;have hb:∀k,(∃z,z<8∧(lv z).ownBlock=some k)∨av.ownBlock=some k∨wv.ownBlock=some k→k≠rc:=by
  rintro k (⟨z,hz,e⟩ | e | e) rfl
  ·have:=((hr.row z hz).lt _ e).1;omega
  ·have:=(hr.at_.lt _ e).1;omega
  have:=(hr.what.lt _ e).1;omega
 have e1:=hf.block rv h.ty.lt (by omega) (by simp);have e3:=hf.block Rb (nK h.hh.1 (by omega)) (by omega) (by simp);refine⟨⟨eU h.aQ e1,⟨lv,av,wv,Ref.fr' hr hf (by omega) hb⟩,(h.iN.set 0 (by omega) _).congr (fun j hj=>by
  obtain rfl:j=0:=by omega
  rfl),⟨jN h.hh.1 e3,jN h.hh.2 e3⟩,h.ty.setCell _ _,h.ne,?_,h.lo⟩,RF.kU hf (Or.inr (Or.inr rfl))⟩
 exact Below.trans (show Below w0.heap.size w0 w from h.since) ⟨hf.os,hf.tape,hf.output,hf.size,fun k hk=>hf.block k (Nat.lt_of_lt_of_le hk h.since.size) (by have:=h.lo;omega) (by simp)⟩
theorem bg.c0 (h:bg w0 w N rv Rb rd rc s S):w.cell? ⟨rv,0,none⟩=some (.pointer (some ⟨Rb,0,none⟩)):=h.aQ.cell 0 (by omega)
theorem bg.c1 (h:bg w0 w N rv Rb rd rc s S):w.cell? ⟨rv,1,none⟩=some (.pointer (some ⟨rd,0,none⟩)):=h.aQ.cell 1 (by omega)
theorem bg.c2 (h:bg w0 w N rv Rb rd rc s S):w.cell? ⟨rv,2,none⟩=some (.pointer (some ⟨rc,0,none⟩)):=h.aQ.cell 2 (by omega)
theorem bg.c3 (h:bg w0 w N rv Rb rd rc s S):w.cell? ⟨rv,3,none⟩=some (.string s):=h.aQ.cell 3 (by omega)
theorem bg.c4 (h:bg w0 w N rv Rb rd rc s S):w.cell? ⟨rv,4,none⟩=some (.int .i64 S.T.count):=h.aQ.cell 4 (by omega)
theorem bg.cf (h:bg w0 w N rv Rb rd rc s S):w.cell? ⟨rv,101,none⟩=some (.bool S.dead):=h.aQ.cell 101 (by omega)
theorem bg.cx (h:bg w0 w N rv Rb rd rc s S)(i:Nat)(hi:i<24):w.cell? ⟨rv,77+i,none⟩=some (.string (S.X i)):=by
 rw[h.aQ.cell (77+i) (by omega),gB _ _ _ _ _ _ _ i hi]
theorem bg.tab (h:bg w0 w N rv Rb rd rc s S):w.rangeAt rv 4 (ak 73 (ae S.T)):=by
 have:=h.aQ.range 4 73 (by omega);rw[show ak 73 (fun j=>bN Rb rd rc s S.T S.X S.dead (4+j))=ak 73 (ae S.T) from Tw.wH (fun j hj=>qX _ _ _ _ _ _ _ j hj)] at this;exact this
end
end Vl
end
section
namespace Vl
open Go.RowKit
open Tw (Tb ae aY aU)
section
variable {q:Bool} {w0 w:World} {N rv Rb rd rc:Nat} {s:ByteArray} {S:Vs}
def yR (Rb:Nat)(s k:ByteArray)(u:Int):Prop:=∀W,Sm.aN W Rb 0 8 Sm.H0.fn→Sm.aN W Rb 8 64 Sm.kn→Calls Tryz.prog 126 #[.pointer (some ⟨Rb,0,none⟩),.string s,.int .u8 u] W fun e w'=>e=.returned (.tuple #[.string k,.int .i64 0])∧Since W w'
theorem a5j (hsum:Sm.nM)(Rb:Nat)(s:ByteArray)(h:s.size=16):yR Rb s (dY s) 98:=fun W h1 h2=>Mt.DT hsum Rb s 98 Mt.jA W h (Or.inl ⟨rfl,rfl⟩) h1 h2
theorem a5k (hsum:Sm.nM)(Rb:Nat)(s:ByteArray)(h:s.size=16):yR Rb s (dM s) 116:=fun W h1 h2=>Mt.DT hsum Rb s 116 Mt.jO W h (Or.inr ⟨rfl,rfl⟩) h1 h2
theorem vZ (k:ByteArray)(u:Int)(hk:yR Rb s k u)(h:bg w0 w N rv Rb rd rc s S) :
  Calls Tryz.prog 62 #[.pointer (some ⟨rv,0,none⟩),.int .u8 u] w fun e w'=>e=.returned (.string k)∧Since w w':=by
 have HK:=hid hk;have H1:Hid (bg w0 w.drew N rv Rb rd rc s S):=h.go (Since.refl _).drew;clear h hk;go_enter Tryz.func62,Tryz.ntmps62
 go_wp2_with fail
 have hS1:(fun W:World=>W.cell? ⟨rv,0,none⟩=some (.pointer (some ⟨Rb,0,none⟩))∧W.cell? ⟨rv,3,none⟩=some (.string s)) w.drew:=⟨H1.o.c0,H1.o.c3⟩
 refine wp_region_held (S:=fun W:World=>W.cell? ⟨rv,0,none⟩=some (.pointer (some ⟨Rb,0,none⟩))∧W.cell? ⟨rv,3,none⟩=some (.string s)) (by kernel_rfl) ?_;refine Tw.tk 0 8 hS1 ?_;refine Tw.tk 1 9 hS1 ?_;refine Tw.tk 2 10 hS1 ?_;refine Tw.tk 3 11 hS1 ?_;refine Tw.tk 4 12 hS1 ?_;refine Tw.tk 5 13 hS1 ?_;refine Tw.tk 6 14 hS1 ?_;refine Tw.tk 7 15 hS1 ?_;refine Tw.tk 8 16 hS1 ?_;refine Tw.ry 9 (fun K hK=>?_);rw[if_pos (by rfl)];go_simp
 refine(HK.o _ H1.o.hh.1 H1.o.hh.2).mono ?_;rintro e w2 ⟨rfl,h2⟩;simp only[];have H2:=hid (H1.o.go h2);have HS2:Hid (Since w w2):=(Since.refl _).drew.trans h2;have hS2:(fun W:World=>W.cell? ⟨rv,0,none⟩=some (.pointer (some ⟨Rb,0,none⟩))∧W.cell? ⟨rv,3,none⟩=some (.string s)) w2:=⟨H2.o.c0,H2.o.c3⟩
 clear h2;refine hK.out _ _ hS2 (fun _=>?_);clear hK K;refine Tw.nz ?_;refine Tw.tk 10 7 hS2 ?_;refine Tw.tk 11 18 hS2 ?_;refine Tw.tk 12 19 hS2 ?_;refine Tw.tk 13 5 hS2 ?_;refine Tw.tk 14 6 hS2 ?_;refine wpAnyH_done (by kernel_rfl) ?_ _;go_wp2_with fail
 go_ret;exact⟨rfl,HS2.o⟩
theorem Fp (T:Tb)(X:Nat→ByteArray)(f:Bool)(j:Nat)(hj:j<102):aJ (bN Rb rd rc s T X f) 101 (.bool true) j=bN Rb rd rc s T X true j:=by
 unfold aJ;by_cases e:j=101
 ·subst e;rfl
 rw[if_neg e];unfold bN;have e2:j<101:=by omega
 simp only[if_pos e2]
theorem iy (n:Int)(h:bg w0 w N rv Rb rd rc s S):Calls Tryz.prog 65 #[.pointer (some ⟨rv,0,none⟩),.int .i64 n] w fun e w'=>e=.returned (.int .i64 n)∧iZ q w0 w w' N rv Rb rd rc s { S with dead:=S.dead||decide (n=14) }:=by
 have H:=hid h;have q1:=h.cf;have q2:=h.aQ.frozen 101 (by omega);clear h;by_cases WY:n=14
 ·subst WY;go_enter Tryz.func65,Tryz.ntmps65
  go_wp2_with fail
  go_ret;refine⟨rfl,?_⟩;have:=H.o.nJ (q:=q) (T':=S.T) (X':=S.X) (f':=true) ((H.o.aQ.set 101 (by omega) (.bool true)).congr (fun j hj=>Fp S.T S.X S.dead j hj)) (Fr.setCell _ _ _ _ _) (H.o.ty.setCell _ _)
  simpa using this
 have HN:=hid WY;go_enter Tryz.func65,Tryz.ntmps65
 go_wp2_with fail
 go_ret;refine⟨rfl,?_⟩;have:=H.o.self (q:=q)
 simpa [HN.o] using this
theorem Zb {w:World}{base n:Nat}{v:Value}{xs:List Value}{f:Nat→Int}(h:w.ownsRow base 3 1 v n xs)(hx:∀j,j<n→xs[j]?=some (.int .i64 (f j))):Sp.Ls w w.heap.size v n f:=by
 rcases h.2 with⟨rfl,rfl⟩ | ⟨g,cap,cur,rfl,hg,hh,h1,h2,h3,h4⟩
 ·exact⟨_,_,rfl,by omega,fun h=>by omega⟩
 refine⟨_,_,rfl,h1,fun _=>⟨g,0,rfl,(Array.getElem?_eq_some_iff.1 hh).1,fun j hj=>?_⟩⟩;have e:=hx j hj;rw[←h4,List.getElem?_take_of_lt (by omega),Array.getElem?_toList] at e;rw[Nat.zero_add];simp[World.cell?,hh,e]
theorem XT {w:World}{N e sz n:Nat}{v:Value}{xs:List Value}(h:w.ownsRow N e sz v n xs):∃a c,v=.slice a n c:=by
 rcases h.2 with⟨h1,h0⟩ | ⟨g,cap,cur,h1,_⟩
 ·exact⟨none,0,by rw[h1,h0]⟩
 exact⟨_,_,h1⟩
theorem Ck (h:bg w0 w N rv Rb rd rc s S)(hok:S.D.ok):Calls Tryz.prog 67 #[.pointer (some ⟨rv,0,none⟩)] w fun e w'=>(∃x,e=.returned x∧Sp.Ls w' w'.heap.size x 8 S.uf)∧Since w w':=by
 have H:=hid h;have q1:=h.c1;have HL:=hid h.ty.lt;have cO:=hid hok;clear h hok;obtain⟨i0,hi,hz0,hz1,hz2⟩:=Sp.info_parts Sp.xC;have HI:=hid (an hi (an hz0 (an hz1 hz2)));clear hi hz0 hz1 hz2;go_enter Tryz.func67,Tryz.ntmps67
 go_wp2_with fail
 go_loopw [5,3,4] (fun i x _ wr=>∃k:Nat,k≤8∧i=.int .i64 k∧wr.ownsRow w.heap.size 3 1 x k ((List.range k).map (fun z=>Value.int .i64 (S.uf z)))∧Since w wr) (fun i _ _ _=>8-(intOf i).toNat)
 case atStart=>exact⟨0,by omega,rfl,World.ownsRow_nil _ _ _ _,Since.refl _⟩
 obtain⟨k,hk,rfl,hx,hs⟩:=hrel;have HS:=hid hs;have HX:=hid hx;clear hx hs;by_cases hlt:k<8
 ·have hlt2:(k:Int)<8:=by omega
  have p1:wr.cell? ⟨rv,1,none⟩=some (.pointer (some ⟨rd,0,none⟩)):=(HS.o.cell (p:=⟨rv,1,none⟩) HL.o).trans q1;obtain⟨lv,av,wv,hr⟩:=(H.o.go HS.o).sV;have p2:=hr.aQ.cell k (by omega);rw[ic _ _ _ _ k hlt] at p2;obtain⟨ra,rcp,Zc⟩:=XT (hr.row k hlt);rw[Zc] at p2;have zn:Hid (S.uf k=(S.D.cnt k:Int)):=rfl;clear hr Zc;generalize S.D.cnt k=cn at *;have HE:Hid ((List.range (k+1)).map (fun z=>Value.int .i64 (S.uf z))=(List.range k).map (fun z=>Value.int .i64 (S.uf z))++[.int .i64 (cn:Int)]):=by
   show (List.range (k+1)).map (fun z=>Value.int .i64 (S.uf z))=_
   rw[List.range_succ,List.map_append,List.map_singleton,zn.o]
  have He:Hid (((List.range k).map (fun z=>Value.int .i64 (S.uf z))).length=k):=by
   show ((List.range k).map (fun z=>Value.int .i64 (S.uf z))).length=k
   rw[List.length_map,List.length_range]
  generalize (List.range k).map (fun z=>Value.int .i64 (S.uf z))=vs at *;go_wp2_with (at_builtin;refine wpList_append_own _ (by rfl) _ _ _ (by rfl) w.heap.size 3 i0 _ 1 8 Tryz.underlying61 HI.o.1 HI.o.2.1 HI.o.2.2.1 HI.o.2.2.2 (by rfl) (by decide) _ k vs (by rfl) (World.ownsRow.alloc HX.o _) ⟨wr.heap.size,0,none⟩ 1 1 [.int .i64 (cn:Int)] (by rfl) (by rfl) (World.news_of_block (heap_alloc_new wr (.cells #[.int .i64 (cn:Int)] 3))) (by simp[Value.oneCell']) (by unfold maxLen;omega) (by omega) (by have:=HS.o.size;simp;omega) ?_;intro x' w3 hown1 hgrow _)
  have pK:Hid (w3.ownsRow w.heap.size 3 1 x' (k+1) ((List.range (k+1)).map (fun z=>Value.int .i64 (S.uf z)))):=by
   show World.ownsRow _ _ _ _ _ _ _
   rw[HE.o];exact hown1
  have rq:Hid (Since w w3):=Below.grown (Since.alloc HS.o _) hgrow (by have:=HS.o.size;simp;omega) (fun j hj=>(HX.o.lt j hj).1);clear hown1 hgrow;go_roundw
  case rel=>exact⟨k+1,by omega,by go_num,pK.o,rq.o⟩
  case measure=>simp[intOf];omega
 have hke:k=8:=by omega
 subst hke;go_wp2_with fail
 go_ret;refine⟨⟨_,rfl,Zb HX.o (fun j hj=>?_)⟩,HS.o⟩;rw[List.getElem?_map,List.getElem?_range hj]
 rfl
theorem jZ (h:bg w0 w N rv Rb rd rc s S)(hok:S.D.ok):Calls Tryz.prog 28 #[.pointer (some ⟨rv,0,none⟩)] w fun e w'=>e=.returned (.int .i64 S.free)∧Since w w':=by
 have H:=hid h;have cO:=hid hok;clear h hok;go_enter Tryz.func28,Tryz.ntmps28
 go_wp2_with fail
 refine(Ck H.o cO.o).mono ?_;rintro e w1 ⟨⟨x,rfl,hx⟩,hs⟩;have HX:=hid hx;have HS:=hid hs;clear hx hs;go_wp2_with fail
 refine(Sp.jZ x 8 _ _ _ HX.o (by omega)).mono ?_;rintro e w2 ⟨rfl,rfl⟩;go_wp2_with fail
 go_ret;exact⟨rfl,HS.o⟩
end
end Vl
end
section
namespace Vl
open Go.RowKit
open Tw (Tb ae aY aU)
structure ja (Rb:Nat)(s kb kt:ByteArray):Prop where
 sum:Sm.nM
 a5l:yR Rb s kb 98
 a5m:yR Rb s kt 116
 kb:kb.size=32
 kt:kt.size=32
section
variable {q:Bool} {w0 w:World} {N rv Rb rd rc:Nat} {s kb kt:ByteArray} {S:Vs}
theorem Qa (k:Nat)(x:ByteArray)(hk:k<8)(hc:S.D.cnt k<16)(hx:x.size≤128)(hok:S.D.ok)(h:bg w0 w N rv Rb rd rc s S) :
  Calls Tryz.prog 133 #[.pointer (some ⟨rd,0,none⟩),.int .i64 (k:Int),.string x] w fun e w'=>(S.D.may=false∧e=.returned (.tuple #[.int .i64 0,.int .i64 14])∧w'=w)∨(S.D.may=true∧e=.returned (.tuple #[.int .i64 (S.D.cnt k),.int .i64 0])∧iZ q w0 w w' N rv Rb rd rc s { S with D:=S.D.ai.app k x }):=by
 obtain⟨lv,av,wv,hr⟩:=h.sV;cases hm:S.D.may with
 | false=>
  refine(zx S.D lv av wv rd N k x w hr hok.left hk hx hc hm).mono ?_;rintro e w' ⟨rfl,rfl⟩;exact Or.inl ⟨rfl,rfl,rfl⟩
 | true=>
  refine(EZ S.D lv av wv rd N k x w hr hok.left hk hx hc hm).mono ?_;rintro e w' ⟨rfl,⟨dK,hr'⟩,hf⟩;exact Or.inr ⟨rfl,rfl,h.yQ hr hr' hf⟩
theorem kI (B:ja Rb s kb kt)(i:Nat)(t:ByteArray)(but:Int)(hi:i<24)(ht:t.size≤80)(hok:S.D.ok)(h:bg w0 w N rv Rb rd rc s S) :
  Calls Tryz.prog 70 #[.pointer (some ⟨rv,0,none⟩),.int .i64 (i:Int),.int .i64 but,.string t] w fun e w'=>e=.returned (.int .i64 (S.put kb i but t).1)∧iZ q w0 w w' N rv Rb rd rc s (S.put kb i but t).2:=by
 have H:=hid h;have HB:=hid B;have cO:=hid hok;clear h B hok;go_enter Tryz.func70,Tryz.ntmps70
 go_wp2_with fail
 refine(Ck H.o cO.o).mono ?_;rintro e w1 ⟨⟨x,rfl,hx⟩,hs⟩;have HX:=hid hx;have HS:=hid hs;clear hx hs;go_wp2_with fail
 refine(Sp.OC x 8 _ _ but _ HX.o (by omega)).mono ?_;rintro e w2 ⟨⟨z,ok,rfl,hr⟩,rfl⟩;have HR:Hid _:=MG hr;clear hr;rcases HR.o with⟨rfl,k,rfl,hk⟩ | ⟨rfl,rfl,hk⟩
 ·have hk3:=jh hk;have HK:=hid hk;have Hg:=hid hk3;clear hk hk3 HR;have H1:Hid (bg w0 w2.drew N rv Rb rd rc s S):=(H.o.go HS.o).go (Since.refl _).drew;have cK:=hid HS.o.drew;go_wp2_with fail
  have hS1:(fun W:World=>W.cell? ⟨rv,0,none⟩=some (.pointer (some ⟨Rb,0,none⟩))) w2.drew:=H1.o.c0;refine wp_region_held (S:=fun W:World=>W.cell? ⟨rv,0,none⟩=some (.pointer (some ⟨Rb,0,none⟩))) (by kernel_rfl) ?_;refine Tw.tk 0 25 hS1 ?_;refine Tw.tk 1 26 hS1 ?_;refine Tw.tk 2 27 hS1 ?_;refine Tw.tk 3 28 hS1 ?_;refine Tw.tk 4 29 hS1 ?_;refine Tw.tk 6 31 hS1 ?_;refine Tw.tk 7 32 hS1 ?_;refine Tw.ry 5 (fun K hK=>?_);rw[if_pos (by rfl)];go_simp
  refine(vZ kb 98 HB.o.a5l H1.o).mono ?_;rintro e w3 ⟨rfl,h3⟩;simp only[];have H3:=hid (H1.o.go h3);have dZ:=hid (cK.o.trans h3);have bQ:(fun W:World=>W.cell? ⟨rv,0,none⟩=some (.pointer (some ⟨Rb,0,none⟩))) w3:=H3.o.c0;clear h3;refine hK.out _ _ bQ (fun _=>?_);clear hK K;refine Tw.nz ?_;refine Tw.ry 8 (fun K hK=>?_);rw[if_pos (by rfl)];go_simp
  refine(Sl.Uz HB.o.sum Rb kb i t _ HB.o.kb (by omega) (by omega) ht H3.o.hh.1 H3.o.hh.2).mono ?_;rintro e w4 ⟨rfl,h4⟩;simp only[];have H4:=hid (H3.o.go h4);have fO:=hid (dZ.o.trans h4);have cz:(fun W:World=>W.cell? ⟨rv,0,none⟩=some (.pointer (some ⟨Rb,0,none⟩))) w4:=H4.o.c0;clear h4;refine hK.out _ _ cz (fun _=>?_);clear hK K;refine Tw.nz ?_;have HZ:=hid (Sl.iH kb i t);have HP:Hid (S.put kb i but t=if S.D.may=false then (14,{ S with dead:=true }) else (0,{ S with D:=S.D.ai.app k (Sl.bL kb i t),T:=dD S.T i k (S.D.cnt k) ((Sl.bL kb i t).extract 0 16),X:=lN S.X i t })):=by
   show S.put kb i but t=_
   unfold Vs.put;rw[HK.o]
  generalize Sl.bL kb i t=se at *;refine Tw.tk 9 24 cz ?_;refine Tw.tk 10 34 cz ?_;refine Tw.tk 11 35 cz ?_;refine Tw.tk 12 11 cz ?_;refine Tw.tk 13 12 cz ?_;refine wpAnyH_done (by kernel_rfl) ?_ _;have WZ:Hid (S.D.cnt k<16):=by
   have:=Hg.o.2.2;unfold Vs.uf at this;show S.D.cnt k<16
   omega
  have q1:=H4.o.c1;clear hS1 bQ cz H1 H3 cK dZ;go_wp2_with fail
  refine(Qa (q:=q) k se Hg.o.1 WZ.o (by have:=HZ.o;omega) cO.o H4.o).mono ?_;rintro e w5 (⟨hm,rfl,hw⟩ | ⟨hm,rfl,h5⟩)
  ·rw[hw];clear hw w5;have HE:Hid (S.put kb i but t=(14,{ S with dead:=true })):=by
    show S.put kb i but t=_
    rw[HP.o,if_pos hm]
   clear hm HP;go_wp2_with fail
   refine(iy (q:=q) 14 H4.o).mono ?_;rintro e w6 ⟨rfl,h6⟩;have vN:=hid (iZ.pre fO.o h6);clear h6;go_wp2_with fail
   go_ret;rw[HE.o];refine⟨rfl,?_⟩;have:=vN.o
   simpa using this
  have HE:Hid (S.put kb i but t=(0,{ S with D:=S.D.ai.app k se,T:=dD S.T i k (S.D.cnt k) (se.extract 0 16),X:=lN S.X i t })):=by
   show S.put kb i but t=_
   rw[HP.o,if_neg (by rw[hm];decide)]
  have H5:=hid h5.1;have We:=hid (iZ.pre fO.o h5);clear hm HP h5 q1;have a4e:(16:Int)≤se.size:=by have:=HZ.o;omega
  have hi2:(i:Int)<24:=by omega
  have za:Hid (aA w5.drew rv 102 (bN Rb rd rc s S.T S.X S.dead)):=H5.o.aQ.since (Since.refl _).drew;have iM:=hid H5.o.aQ;have c0:=iM.o.cell (5+i*3) (by omega);have c1:=iM.o.cell (5+i*3+1) (by omega);have c2:=iM.o.cell (5+i*3+2) (by omega);have c3:=iM.o.cell (77+i) (by omega);have d0:=za.o.cell (5+i*3) (by omega);have d1:=za.o.cell (5+i*3+1) (by omega);have d2:=za.o.cell (5+i*3+2) (by omega);have d3:=za.o.cell (77+i) (by omega);have f0:=iM.o.frozen (5+i*3) (by omega);have f1:=iM.o.frozen (5+i*3+1) (by omega);have f2:=iM.o.frozen (5+i*3+2) (by omega);have f3:=iM.o.frozen (77+i) (by omega);have g0:=za.o.frozen (5+i*3) (by omega);have g1:=za.o.frozen (5+i*3+1) (by omega);have g2:=za.o.frozen (5+i*3+2) (by omega);have g3:=za.o.frozen (77+i) (by omega);go_wp2_with fail
  go_region
  have vN:Hid (iZ q w0 w ((((w5.setCell ⟨rv,5+i*3,none⟩ (.int .i64 (k:Int))).setCell ⟨rv,5+i*3+1,none⟩ (.int .i64 (S.D.cnt k:Int))).setCell ⟨rv,5+i*3+2,none⟩ (.string (se.extract 0 16))).setCell ⟨rv,77+i,none⟩ (.string t)).drew N rv Rb rd rc s { S with D:=S.D.ai.app k se,T:=dD S.T i k (S.D.cnt k) (se.extract 0 16),X:=lN S.X i t }):=by
   refine We.o.after (iZ.after (H5.o.nJ (T':=dD S.T i k (S.D.cnt k) (se.extract 0 16)) (X':=lN S.X i t) (f':=S.dead) ?_ ((((Fr.setCell _ _ _ _ _).trans' (Fr.setCell _ _ _ _ _)).trans' (Fr.setCell _ _ _ _ _)).trans' (Fr.setCell _ _ _ _ _)) ((((H5.o.ty.setCell _ _).setCell _ _).setCell _ _).setCell _ _)) (bg.to ?_ (Since.refl _).drew))
   ·exact((((iM.o.set (5+i*3) (by omega) _).set (5+i*3+1) (by omega) _).set (5+i*3+2) (by omega) _).congr (fun j hj=>qY _ _ _ _ _ _ _ i hi k (S.D.cnt k) (se.extract 0 16) j hj)).set (77+i) (by omega) _ |>.congr (fun j hj=>oW _ _ _ _ _ _ _ i hi t j hj)
   exact(H5.o.nJ (q:=q) (T':=dD S.T i k (S.D.cnt k) (se.extract 0 16)) (X':=lN S.X i t) (f':=S.dead) (((((iM.o.set (5+i*3) (by omega) _).set (5+i*3+1) (by omega) _).set (5+i*3+2) (by omega) _).congr (fun j hj=>qY _ _ _ _ _ _ _ i hi k (S.D.cnt k) (se.extract 0 16) j hj)).set (77+i) (by omega) _ |>.congr (fun j hj=>oW _ _ _ _ _ _ _ i hi t j hj)) ((((Fr.setCell _ _ _ _ _).trans' (Fr.setCell _ _ _ _ _)).trans' (Fr.setCell _ _ _ _ _)).trans' (Fr.setCell _ _ _ _ _)) ((((H5.o.ty.setCell _ _).setCell _ _).setCell _ _).setCell _ _)).1
  clear c0 c1 c2 c3 d0 d1 d2 d3 f0 f1 f2 f3 g0 g1 g2 g3 za iM H5 We;generalize ((((w5.setCell ⟨rv,5+i*3,none⟩ (.int .i64 (k:Int))).setCell ⟨rv,5+i*3+1,none⟩ (.int .i64 (S.D.cnt k:Int))).setCell ⟨rv,5+i*3+2,none⟩ (.string (se.extract 0 16))).setCell ⟨rv,77+i,none⟩ (.string t)).drew=w6 at *;go_wp2_with fail
  refine(iy (q:=q) 0 vN.o.1).mono ?_;rintro e w7 ⟨rfl,h7⟩;have YS:Hid (iZ q w0 w w7 N rv Rb rd rc s { S with D:=S.D.ai.app k se,T:=dD S.T i k (S.D.cnt k) (se.extract 0 16),X:=lN S.X i t }):=by
   have:=vN.o.after h7;have e0:(S.dead||decide ((0:Int)=14))=S.dead:=by simp
   rw[e0] at this;exact this
  clear h7;go_wp2_with fail
  go_ret;rw[HE.o];exact⟨rfl,YS.o⟩
 have HK:=hid hk;clear hk HR;go_wp2_with fail
 go_ret;have HP:S.put kb i but t=(12,S):=by unfold Vs.put;rw[HK.o]
 rw[HP];exact⟨rfl,H.o.to HS.o⟩
end
end Vl
end
section
namespace Vl
open Go.RowKit
open Tw (Tb ae aY aU)
section
variable {q:Bool} {w0 w:World} {N rv Rb rd rc:Nat} {s kb kt:ByteArray} {S:Vs}
theorem a5n {w':World}(h:Go.Proofs.YtlgbfkcpdelcbaaGreatDoor.Fs (PS rd (.slice none 0 0) (.slice none 0 0)) w w'):Fr rd none w w':=⟨h.os,h.tape,h.output,h.size,fun k hk hb _=>h.block k hk (by
 rintro (e | e | e)
 ·exact hb e
 ·simp[Value.ownBlock] at e
 simp[Value.ownBlock] at e)⟩
theorem Qb (k:Nat)(x:ByteArray)(hk:k<2)(hx:x.size≤500)(hn:S.D.ws.length<1000)(hok:S.D.ok)(h:bg w0 w N rv Rb rd rc s S)(hr:∃lv,Ref w rd N S.D lv (.slice none 0 0) (.slice none 0 0)) :
  Calls Tryz.prog 64 #[.pointer (some ⟨rd,0,none⟩),.int .i64 (k:Int),.string x] w fun e w'=>e=.returned (.int .i64 (Ct S.D k x).1)∧iZ q w0 w w' N rv Rb rd rc s { S with D:=(Ct S.D k x).2 }:=by
 obtain⟨lv,hr⟩:=hr;unfold Ct;cases hm:S.D.may with
 | false=>
  rw[if_pos rfl];refine(JX S.D lv _ _ rd N k x w hr hok.left hk hx hm).mono ?_;rintro e w' ⟨rfl,rfl⟩;exact⟨rfl,h.self⟩
 | true=>
  rw[if_neg (by decide)];refine(Go.Proofs.YtlgbfkcpdelcbaaGreatDoor.kI S.D lv _ _ rd N k x w hr hok.left hk hx hm hn).mono ?_;rintro e w' ⟨rfl,Ng,wv',hr',hf⟩;exact⟨rfl,h.yQ hr hr' (a5n hf)⟩
theorem yS (hok:S.D.ok)(h:bg w0 w N rv Rb rd rc s S) :
  Calls Tryz.prog 63 #[.pointer (some ⟨rd,0,none⟩)] w fun e w'=>e=.returned (.int .i64 (rZ S.D).1)∧iZ q w0 w w' N rv Rb rd rc s { S with D:=(rZ S.D).2 }∧(S.D.may=true→∃lv,Ref w' rd N (rZ S.D).2 lv (.slice none 0 0) (.slice none 0 0)):=by
 obtain⟨lv,av,wv,hr⟩:=h.sV;unfold rZ;cases hm:S.D.may with
 | false=>
  rw[if_pos rfl];refine(Fb S.D lv av wv rd N w hr hok.left hm).mono ?_;rintro e w' ⟨rfl,rfl⟩;exact⟨rfl,h.self,fun h0=>by cases h0⟩
 | true=>
  rw[if_neg (by decide)];refine(PU S.D lv av wv rd N w hr hok hm).mono ?_;rintro e w' ⟨rfl,⟨dK,hr'⟩,hf⟩;exact⟨rfl,h.yQ hr hr' hf,fun _=>⟨dK,hr'⟩⟩
theorem Fq (k:Nat)(hk:k<8)(hok:S.D.ok)(h:bg w0 w N rv Rb rd rc s S) :
  Calls Tryz.prog 71 #[.pointer (some ⟨rd,0,none⟩),.int .i64 (k:Int)] w fun e w'=>e=.returned (.int .i64 (Cu S.D k).1)∧iZ q w0 w w' N rv Rb rd rc s { S with D:=(Cu S.D k).2 }:=by
 obtain⟨lv,av,wv,hr⟩:=h.sV;unfold Cu;cases hm:S.D.may with
 | false=>
  rw[if_pos rfl];refine(Ch S.D lv av wv rd N k w hr hok.left hk hm).mono ?_;rintro e w' ⟨rfl,rfl⟩;exact⟨rfl,h.self⟩
 | true=>
  rw[if_neg (by decide)];refine(JW S.D lv av wv rd N k w hr hok.left hk hm).mono ?_;rintro e w' ⟨rfl,⟨dK,hr'⟩,hf⟩;exact⟨rfl,h.yQ hr hr' hf⟩
theorem iZ.aQ {w1:World}{b n:Nat}{f:Nat→Value}(h:iZ q w0 w w1 N rv Rb rd rc s S)(hc:aA w b n f)(hn:0<n)(h1:b≠rv∧b≠rd∧b≠rc)(ht:Ty w b 72):aA w1 b n f∧Ty w1 b 72:=by
 have e:=h.2.block b (hc.lt hn) h1.1 h1.2.1 h1.2.2 (Or.inr (Or.inr ⟨_,ht,by decide,by decide⟩));exact⟨eU hc e,ht.blk e⟩
theorem Kb {D:Dv}(h:D.ok):(rZ D).2.ok:=by
 unfold rZ;split
 ·exact h
 rename_i hm
 have hb:=oU D h (by simpa using hm);refine⟨(zR _ 8 hb).cnt,(zR _ 8 hb).sure,hb.zero,hb.left,?_,?_⟩
 ·intro p hp;have hp2:p ∈ ([]:List (Nat × ByteArray)):=hp;cases hp2
 show (0:Nat)≤1000
 omega
theorem UA {D:Dv}(h:D.ok)(k:Nat)(x:ByteArray)(hk:k<2)(hx:x.size≤500)(hn:D.ws.length<1000):(Ct D k x).2.ok:=by
 unfold Ct;split
 ·exact h
 rename_i hm
 have hb:=oU D h (by simpa using hm);refine⟨hb.cnt,hb.sure,hb.zero,hb.left,fun p hp=>?_,?_⟩
 ·rcases List.mem_append.1 hp with h1 | h1
  ·exact hb.ws p h1
  rw[List.mem_singleton.1 h1];exact⟨hk,hx⟩
 show (D.ai.ws++[_]).length≤1000
 rw[lK];simp;omega
theorem vo (kk:Nat)(hk:(S.next.count % 2).toNat=kk)(hd:S.dead=false)(hm:S.D.may=true) :
  (S.D.ai.synced.may=false→S.flush kt=(14,{ S with D:=S.D.ai.synced,dead:=true }))∧
  (S.D.ai.synced.may=true→(S.D.ai.synced.ai.wrote kk (Tw.text kt S.next)).may=false→S.flush kt=(14,{ S with D:=S.D.ai.synced.ai.wrote kk (Tw.text kt S.next),dead:=true }))∧
  (S.D.ai.synced.may=true→(S.D.ai.synced.ai.wrote kk (Tw.text kt S.next)).may=true→S.flush kt=(0,{ S with D:=(S.D.ai.synced.ai.wrote kk (Tw.text kt S.next)).ai.synced,c:=S.T.count+1,T:=S.next })):=by
 subst hk;have e0:S.flush kt=if (({ S with D:=S.D.ai.synced }:Vs).tell kt S.next).1=0 then (0,{ (({ S with D:=S.D.ai.synced }:Vs).tell kt S.next).2 with T:=S.next }) else ({ S with D:=S.D.ai.synced }:Vs).tell kt S.next:=by
  unfold Vs.flush;rw[hd,if_neg (by decide),if_neg (by rw[hm];decide)]
 refine⟨fun h1=>?_,fun h1 h2=>?_,fun h1 h2=>?_⟩
 ·have e1:({ S with D:=S.D.ai.synced }:Vs).tell kt S.next=(14,{ S with D:=S.D.ai.synced,dead:=true }):=by
   unfold Vs.tell;simp only[if_pos h1]
  rw[e0,e1,if_neg (show ¬(14:Int)=0 by decide)]
 ·have e1:({ S with D:=S.D.ai.synced }:Vs).tell kt S.next=(14,{ S with D:=S.D.ai.synced.ai.wrote (S.next.count % 2).toNat (Tw.text kt S.next),dead:=true }):=by
   unfold Vs.tell;simp only[if_pos h2,h1,Bool.true_eq_false,if_false]
  rw[e0,e1,if_neg (show ¬(14:Int)=0 by decide)]
 have e1:({ S with D:=S.D.ai.synced }:Vs).tell kt S.next=(0,{ S with D:=(S.D.ai.synced.ai.wrote (S.next.count % 2).toNat (Tw.text kt S.next)).ai.synced,c:=S.next.count }):=by
  unfold Vs.tell;simp only[h1,h2,Bool.true_eq_false,if_false]
 rw[e0,e1,if_pos (show (0:Int)=0 from rfl)]
 rfl
theorem yT (B:ja Rb s kb kt)(hr:Tw.Rt S.next)(hok:S.D.ok)(h:bg w0 w N rv Rb rd rc s S) :
  Calls Tryz.prog 16 #[.pointer (some ⟨rv,0,none⟩)] w fun e w'=>e=.returned (.int .i64 (S.flush kt).1)∧iZ q w0 w w' N rv Rb rd rc s (S.flush kt).2:=by
 have H:=hid h;have q:=h.cf;cases hd:S.dead with
 | true=>
  have HE:Hid (S.flush kt=(6,S)):=by show S.flush kt=_;unfold Vs.flush;rw[hd];rfl
  rw[hd] at q;clear h hd hr hok B;go_enter Tryz.func16,Tryz.ntmps16
  go_wp2_with fail
  go_ret;rw[HE.o];exact⟨rfl,H.o.self⟩
 | false=>
  have HB:=hid B;have cO:=hid hok;have HN:=hid (an hr.1.2 hr.1.1);have HP:Hid (S.flush kt=if S.D.may=false then (14,{ S with dead:=true }) else if (({ S with D:=S.D.ai.synced }:Vs).tell kt S.next).1=0 then (0,{ (({ S with D:=S.D.ai.synced }:Vs).tell kt S.next).2 with T:=S.next }) else ({ S with D:=S.D.ai.synced }:Vs).tell kt S.next):=by
   show S.flush kt=_
   unfold Vs.flush;rw[hd]
   rfl
  have HD:=hid hd;have HTW:Hid (∀W,Sm.aN W Rb 0 8 Sm.H0.fn→Sm.aN W Rb 8 64 Sm.kn→Calls Tryz.prog 61 #[.pointer (some ⟨Rb,0,none⟩),.string kt,.agg (ak 73 (ae S.next)).toArray] W fun e w'=>e=.returned (.tuple #[.string (Tw.text kt S.next),.int .i64 0])∧Since W w'):=fun W h1 h2=>Tw.tY B.sum Rb kt S.next W B.kt hr h1 h2
  have HZ:Hid ((Tw.text kt S.next).size≤500):=by
   show (Tw.text kt S.next).size≤500
   rw[Tw.gG hr.2];omega
  rw[hd] at q;clear h hd hr hok B;have hR:=H.o.tab;have hL:=Tw.jc S.T;have gW:=Tw.bA w w.heap.size rfl;obtain⟨hst,tF⟩:=Tw.di gW S.T;have qZ:=hid tF;have fO:Hid (Since w ((w.alloc (.cells Tryz.zeroCells72 72)).setCells w.heap.size 0 (ak 73 (ae S.T)))):=((Since.refl w).alloc _).setCells (Nat.le_refl _) _ _;have HY4:Hid (Ty ((w.alloc (.cells Tryz.zeroCells72 72)).setCells w.heap.size 0 (ak 73 (ae S.T))) w.heap.size 72):=Ty.setCells _ _ _ _ (Ty.new _ _ _);clear gW tF;have c0:((w.alloc (.cells Tryz.zeroCells72 72)).setCells w.heap.size 0 (ak 73 (ae S.T))).cell? ⟨w.heap.size,0,none⟩=some (.int .i64 S.T.count):=qZ.o.cell 0 (by omega);have f0:=qZ.o.frozen 0 (by omega);have hn0:S.T.count+1≤1099511627776:=HN.o.1;have hn1:1≤S.T.count+1:=HN.o.2
  have iM:Hid (aA (((w.alloc (.cells Tryz.zeroCells72 72)).setCells w.heap.size 0 (ak 73 (ae S.T))).setCell ⟨w.heap.size,0,none⟩ (.int .i64 (S.T.count+1))) w.heap.size 73 (ae S.next)):=(qZ.o.set 0 (by omega) _).congr (next_cell S);have jX:Hid (Since w (((w.alloc (.cells Tryz.zeroCells72 72)).setCells w.heap.size 0 (ak 73 (ae S.T))).setCell ⟨w.heap.size,0,none⟩ (.int .i64 (S.T.count+1)))):=fO.o.setCell (Nat.le_refl _) _;have HY5:Hid (Ty (((w.alloc (.cells Tryz.zeroCells72 72)).setCells w.heap.size 0 (ak 73 (ae S.T))).setCell ⟨w.heap.size,0,none⟩ (.int .i64 (S.T.count+1))) w.heap.size 72):=HY4.o.setCell _ _;have Cv:Hid (w.heap.size≠rv∧w.heap.size≠rd∧w.heap.size≠rc):=by
   obtain⟨lv,av,wv,hr⟩:=H.o.sV;have h1:=H.o.ty.lt;have h2:=hr.aQ.lt (by omega);have h3:=H.o.iN.lt (by omega);exact⟨by omega,by omega,by omega⟩
  generalize hcs:ak 73 (ae S.T)=cs at *;clear hcs;generalize ((w.alloc (.cells Tryz.zeroCells72 72)).setCells w.heap.size 0 cs)=w3 at *;go_enter Tryz.func16,Tryz.ntmps16
  go_wp2_with (refine wpList_load_mid (by rfl) 72 _ (by rfl) rv 4 (by rfl) _ _ hR Tryz.underlying72 (by rfl) (by rw[hL];kernel_rfl) ?_)
  clear hR hL c0 f0 hst qZ fO HY4 q;generalize w3.setCell ⟨w.heap.size,0,none⟩ (.int .i64 (S.T.count+1))=w4 at *;have hL2:=Tw.jc S.next;have HR5:Hid (w4.drew.rangeAt w.heap.size 0 (ak 73 (ae S.next))):=Tw.bJ (iM.o.since (Since.refl _).drew);have HY6:Hid (Ty w4.drew w.heap.size 72):=HY5.o;have Hd:Hid (aA w4.drew w.heap.size 73 (ae S.next)):=iM.o.since (Since.refl _).drew;have iL:=hid jX.o.drew;generalize hcs2:ak 73 (ae S.next)=cs2 at *;have BN:=hid hcs2;clear hcs2 iM jX HY5;have H6:=hid (H.o.go iL.o);have gH:(fun W:World=>W.cell? ⟨rv,0,none⟩=some (.pointer (some ⟨Rb,0,none⟩))∧W.rangeAt w.heap.size 0 cs2) w4.drew:=⟨H6.o.c0,HR5.o⟩
  refine wp_region_held (S:=fun W:World=>W.cell? ⟨rv,0,none⟩=some (.pointer (some ⟨Rb,0,none⟩))∧W.rangeAt w.heap.size 0 cs2) (by kernel_rfl) ?_;refine Tw.tk 0 20 gH ?_;refine Tw.tk 1 21 gH ?_;refine Tw.tk 2 22 gH ?_;refine Tw.tk 3 23 gH ?_;refine Tw.tk 4 24 gH ?_;refine Tw.takeD (i:=6) (d:=26) (v:=.agg cs2.toArray) rfl rfl (by kernel_rfl) (by kernel_rfl) (by kernel_rfl) (fun _ _ _ h=>h) (yieldsIf_load_mid (by rfl) 72 _ (by rfl) w.heap.size 0 (by rfl) _ _ (fun w hSw=>hSw.2) Tryz.underlying72 (by rfl) (by rw[hL2];kernel_rfl)) gH ?q6;simp only[Act.put,List.setIfInBounds_toArray,List.set_cons_zero,List.set_cons_succ];refine Tw.ry 5 (fun K hK=>?_);rw[if_pos (by rfl)];go_simp
  refine(vZ kt 116 HB.o.a5m H6.o).mono ?_;rintro e w7 ⟨rfl,h7⟩;simp only[];have H7:=hid (H6.o.go h7);have mH:=hid (iL.o.trans h7);have HY7:=hid (HY6.o.since h7);have Qw:=hid (Hd.o.since h7);have sU:(fun W:World=>W.cell? ⟨rv,0,none⟩=some (.pointer (some ⟨Rb,0,none⟩))∧W.rangeAt w.heap.size 0 cs2) w7:=⟨H7.o.c0,dm HR5.o h7⟩
  clear h7;refine hK.out _ _ sU (fun _=>?_);clear hK K;refine Tw.nz ?_;refine Tw.ry 7 (fun K hK=>?_);rw[if_pos (by rfl)];go_simp
  refine(HTW.o _ H7.o.hh.1 H7.o.hh.2).mono ?_;rintro e w8 ⟨rfl,h8⟩;simp only[];have H8:=hid (H7.o.go h8);have MP:=hid (mH.o.trans h8);have HY8:=hid (HY7.o.since h8);have HC8:=hid (Qw.o.since h8);have Ad:(fun W:World=>W.cell? ⟨rv,0,none⟩=some (.pointer (some ⟨Rb,0,none⟩))∧W.rangeAt w.heap.size 0 cs2) w8:=⟨H8.o.c0,dm sU.2 h8⟩
  clear h8;refine hK.out _ _ Ad (fun _=>?_);clear hK K;refine Tw.nz ?_;generalize htx:Tw.text kt S.next=tx at *;have Ug:=hid htx;clear htx;refine Tw.tk 8 19 Ad ?_;refine Tw.tk 9 28 Ad ?_;refine Tw.tk 10 29 Ad ?_;refine Tw.tk 11 4 Ad ?_;refine Tw.tk 12 5 Ad ?_;refine wpAnyH_done (by kernel_rfl) ?_ _;clear gH sU Ad H6 H7 iL mH HY6 HY7 Hd Qw HR5 HTW;have q1:=H8.o.c1;go_wp2_with fail
  refine(yS (q:=q) cO.o H8.o).mono ?_;rintro e w9 ⟨rfl,h9,hn9⟩;have HN9:=hid hn9;clear hn9;have HT9:=hid (iZ.pre MP.o h9);have H9:=hid h9.1;have XU:=hid (h9.aQ HC8.o (by omega) Cv.o HY8.o);have a0S:=hid (Kb cO.o);clear h9 q1 H8 MP HC8 HY8;cases hm:S.D.may with
  | false=>
   have e1:rZ S.D=(14,S.D):=by unfold rZ;rw[if_pos hm]
   rw[e1] at HT9 H9 ⊢;have HE:Hid (S.flush kt=(14,{ S with dead:=true })):=by
    show S.flush kt=_
    rw[HP.o,if_pos hm]
   clear e1 hm HP;go_wp2_with fail
   refine(iy (q:=q) 14 H9.o).mono ?_;rintro e w10 ⟨rfl,h10⟩;have zA:=hid (HT9.o.after h10);clear h10;go_wp2_with fail
   go_ret;rw[HE.o];refine⟨rfl,?_⟩;have:=zA.o
   simpa using this
  | true=>
   have e1:rZ S.D=(0,S.D.ai.synced):=by unfold rZ;rw[if_neg (by rw[hm];decide)]
   have HR9:=hid (HN9.o hm);rw[e1] at HT9 H9 a0S HR9 ⊢;have HFC:Hid (∀kk,(S.next.count % 2).toNat=kk→_):=fun kk hk=>vo (kt:=kt) kk hk HD.o hm
   have HWS:Hid (S.D.ai.synced.ws.length<1000):=by
    show S.D.ai.synced.ws.length<1000
    rw[uj];decide
   obtain⟨kk,hkk,hk2⟩:∃k:Nat,(S.T.count+1) % 2=k∧k<2:=⟨((S.T.count+1) % 2).toNat,by omega,by omega⟩
   have HKK:=hid (an hkk hk2);have HKE:Hid ((S.next.count % 2).toNat=kk):=by
    show ((S.T.count+1) % 2).toNat=kk
    rw[hkk,Int.toNat_natCast]
   have HE:Hid _:=HFC.o kk HKE.o;rw[Ug.o] at HE;clear e1 hm HP HFC;generalize S.D.ai.synced=D1 at *;have ht2:(S.T.count+1).tmod 2=(kk:Int):=by rw[SL _ (by omega)];exact hkk
   clear hkk hk2;have hw64:wrap64 (kk:Int)=(kk:Int):=by have:=HKK.o.2;unfold wrap64;omega
   go_wp2_with fail
   have H9d:Hid (bg w0 w9.drew N rv Rb rd rc s { S with D:=D1 }):=H9.o.go (Since.refl _).drew;have XV:Hid (aA w9.drew w.heap.size 73 (ae S.next)∧Ty w9.drew w.heap.size 72):=⟨XU.o.1.since (Since.refl _).drew,XU.o.2⟩
   have a5p:Hid (iZ q w0 w w9.drew N rv Rb rd rc s { S with D:=D1 }):=HT9.o.after (H9.o.to (Since.refl _).drew);have a8s:Hid (∃lv,Ref w9.drew rd N D1 lv (.slice none 0 0) (.slice none 0 0)):=by
    obtain⟨lv,hr⟩:=HR9.o;exact⟨lv,hr.since (Since.refl _).drew⟩
   clear H9 XU HT9 HR9 HN9;have Kc:(fun W:World=>W.cell? ⟨rv,1,none⟩=some (.pointer (some ⟨rd,0,none⟩))∧W.cell? ⟨w.heap.size,0,none⟩=some (.int .i64 (S.T.count+1))) w9.drew:=⟨H9d.o.c1,XV.o.1.cell 0 (by omega)⟩
   refine wp_region_held (S:=fun W:World=>W.cell? ⟨rv,1,none⟩=some (.pointer (some ⟨rd,0,none⟩))∧W.cell? ⟨w.heap.size,0,none⟩=some (.int .i64 (S.T.count+1))) (by kernel_rfl) ?_;refine Tw.tk 0 37 Kc ?_;refine Tw.tk 1 38 Kc ?_;refine Tw.tk 2 39 Kc ?_;refine Tw.tk 3 40 Kc ?_;refine Tw.tk 4 41 Kc ?_;refine Tw.tk 5 42 Kc ?_;refine Tw.tk 6 43 Kc ?_;refine Tw.tk 7 44 Kc ?_;refine Tw.ry 8 (fun K hK=>?_);rw[if_pos (by rfl)];go_simp
   refine(Qb (q:=q) kk tx HKK.o.2 HZ.o HWS.o a0S.o H9d.o a8s.o).mono ?_;rintro e w10 ⟨rfl,h10⟩;simp only[];have XW:=hid (h10.aQ XV.o.1 (by omega) Cv.o XV.o.2);have zA:=hid (a5p.o.after h10);have a0T:(fun W:World=>W.cell? ⟨rv,1,none⟩=some (.pointer (some ⟨rd,0,none⟩))∧W.cell? ⟨w.heap.size,0,none⟩=some (.int .i64 (S.T.count+1))) w10:=⟨h10.1.c1,XW.o.1.cell 0 (by omega)⟩
   clear h10;refine hK.out _ _ a0T (fun _=>?_);clear hK K;refine Tw.nz ?_;refine Tw.tk 9 6 a0T ?_;refine wpAnyH_done (by kernel_rfl) ?_ _;have Zd:=hid (UA a0S.o kk tx HKK.o.2 HZ.o HWS.o);clear Kc a0T H9d XV a5p hw64 ht2;cases hm:D1.may with
   | false=>
    have e1:Ct D1 kk tx=(14,D1):=by unfold Ct;rw[if_pos hm]
    rw[e1] at zA ⊢;have HE2:Hid (S.flush kt=(14,{ S with D:=D1,dead:=true })):=by
     show S.flush kt=_
     exact HE.o.1 hm
    clear e1 hm HE;go_wp2_with fail
    refine(iy (q:=q) 14 zA.o.1).mono ?_;rintro e AX ⟨rfl,h11⟩;have vJ:=hid (zA.o.after h11);clear h11;go_wp2_with fail
    go_ret;rw[HE2.o];refine⟨rfl,?_⟩;have:=vJ.o
    simpa using this
   | true=>
    have e1:Ct D1 kk tx=(0,D1.ai.wrote kk tx):=by unfold Ct;rw[if_neg (by rw[hm];decide)]
    rw[e1] at zA Zd ⊢;have HE1:Hid _:=HE.o.2.1 hm;have HE3:Hid _:=HE.o.2.2 hm;clear e1 hm HE;generalize D1.ai.wrote kk tx=D2 at *;have q1:=zA.o.1.c1;go_wp2_with fail
    refine(yS (q:=q) Zd.o zA.o.1).mono ?_;rintro e AX ⟨rfl,h11,_⟩;have a0U:=hid (h11.aQ XW.o.1 (by omega) Cv.o XW.o.2);have vJ:=hid (zA.o.after h11);clear h11 q1 XW zA;cases hm:D2.may with
    | false=>
     have e1:rZ D2=(14,D2):=by unfold rZ;rw[if_pos hm]
     rw[e1] at vJ ⊢;have HE2:Hid (S.flush kt=(14,{ S with D:=D2,dead:=true })):=by
      show S.flush kt=_
      exact HE1.o hm
     clear e1 hm HE1 HE3;go_wp2_with fail
     refine(iy (q:=q) 14 vJ.o.1).mono ?_;rintro e w12 ⟨rfl,h12⟩;have Ke:=hid (vJ.o.after h12);clear h12;go_wp2_with fail
     go_ret;rw[HE2.o];refine⟨rfl,?_⟩;have:=Ke.o
     simpa using this
    | true=>
     have e1:rZ D2=(0,D2.ai.synced):=by unfold rZ;rw[if_neg (by rw[hm];decide)]
     rw[e1] at vJ ⊢;have HE2:=hid (HE3.o hm);clear e1 hm HE1 HE3;generalize D2.ai.synced=D3 at *;have a1:=vJ.o.1.c2;have a1d:AX.drew.cell? ⟨rv,2,none⟩=some (.pointer (some ⟨rc,0,none⟩)):=a1;have a2:AX.cell? ⟨w.heap.size,0,none⟩=some (.int .i64 (S.T.count+1)):=a0U.o.1.cell 0 (by omega);have a2d:AX.drew.cell? ⟨w.heap.size,0,none⟩=some (.int .i64 (S.T.count+1)):=a2;have a3:=vJ.o.1.iN.cell 0 (by omega);have a4:=vJ.o.1.iN.frozen 0 (by omega);have a3d:AX.drew.cell? ⟨rc,0,none⟩=some (.int .i64 S.c):=a3;have a4d:AX.drew.frozen? ⟨rc,0,none⟩=false:=a4;go_wp2_with fail
     go_region
     clear a1 a1d a2 a2d a3 a4 a3d a4d;have a5q:=vJ.o.after ((vJ.o.1.Ab (q:=q) (c':=S.T.count+1)).then (fun h=>h.to (Since.refl _).drew));have Ke:=hid a5q;have a8t:Hid (aA (AX.setCell ⟨rc,0,none⟩ (.int .i64 (S.T.count+1))).drew w.heap.size 73 (ae S.next)):=(a0U.o.1.other (a:=⟨rc,0,none⟩) (fun e=>Cv.o.2.2 e.symm) _).since (Since.refl _).drew;clear a5q vJ a0U;generalize (AX.setCell ⟨rc,0,none⟩ (.int .i64 (S.T.count+1))).drew=w12 at *;have hR:=Tw.bJ a8t.o;rw[BN.o] at hR;have hst:=Ke.o.1.aQ.store Tryz.prog 4 73 (by omega) (ae S.next) (fun j _=>Tw.jd _ j);rw[BN.o] at hst;have a8u:Hid (aA (w12.setCells rv 4 cs2) rv 102 (bN Rb rd rc s S.next S.X S.dead)):=by
      have:=(Ke.o.1.aQ.setRow 4 73 (by omega) (ae S.next)).congr (fun j hj=>vg Rb rd rc s S.T S.next S.X S.dead j hj);rw[BN.o] at this;exact this
     have a5r:Hid (iZ q w0 w (w12.setCells rv 4 cs2) N rv Rb rd rc s { S with D:=D3,c:=S.T.count+1,T:=S.next }):=Ke.o.after (Ke.o.1.nJ a8u.o (Fr.setCells _ _ _ _ _) (Ty.setCells _ _ _ _ Ke.o.1.ty));go_wp2_with (refine wpList_load_mid (by rfl) 72 _ (by rfl) w.heap.size 0 (by rfl) _ _ hR Tryz.underlying72 (by rfl) (by rw[hL2];kernel_rfl) ?_)
     refine(iy (q:=q) 0 a5r.o.1).mono ?_;rintro e w14 ⟨rfl,WY⟩;have a8v:Hid (iZ q w0 w w14 N rv Rb rd rc s { S with D:=D3,c:=S.T.count+1,T:=S.next }):=by
      have:=a5r.o.after WY;have e0:(S.dead||decide ((0:Int)=14))=S.dead:=by simp
      rw[e0] at this;exact this
     clear WY;go_wp2_with fail
     go_ret;rw[HE2.o];exact⟨rfl,a8v.o⟩
end
end Vl
end
section
namespace Vl
open Go.RowKit
open Tw (Tb ae aY aU)
theorem sO {S:Vs}(h:S.D.ok)(kb:ByteArray)(i:Nat)(but:Int)(t:ByteArray):(S.put kb i but t).2.D.ok:=by
 unfold Vs.put;cases hr:room S.uf but with
 | none=>exact h
 | some z=>
  obtain⟨Ro,_,ZV⟩:=jh hr;dsimp only;by_cases hm:S.D.may=false
  ·rw[if_pos hm];exact h
  rw[if_neg hm];have hb:=oU S.D h (by simpa using hm);exact RN _ z _ hb Ro (by rw[bF];unfold Vs.uf at ZV;omega)
theorem AY (kb:ByteArray)(z:Int):∀(l:List Nat) (S:Vs),S.D.ok→(S.moves kb z l).2.D.ok
 | [],S,h=>by rw[lQ];exact h
 | i::r,S,h=>by
  rw[kG];split
  ·exact AY kb z r _ (sO h kb i z _)
  exact sO h kb i z _
theorem AZ {S:Vs}(h:S.D.ok)(kt:ByteArray)(hr:Tw.Rt S.next):(S.flush kt).2.D.ok:=by
 cases hd:S.dead with
 | true=>
  have e:S.flush kt=(6,S):=by unfold Vs.flush;rw[hd];rfl
  rw[e];exact h
 | false=>
  cases hm:S.D.may with
  | false=>
   have e:S.flush kt=(14,{ S with dead:=true }):=by unfold Vs.flush;rw[hd,if_neg (by decide),if_pos hm]
   rw[e];exact h
  | true=>
   have hk:(S.next.count % 2).toNat<2:=by omega
   obtain⟨c1,c2,c3⟩:=vo (kt:=kt) (S:=S) _ rfl hd hm;have h1:S.D.ai.synced.ok:=by
    have:=Kb h;unfold rZ at this;rw[if_neg (by rw[hm];decide)] at this;exact this
   have hz:(Tw.text kt S.next).size≤500:=by rw[Tw.gG hr.2];omega
   cases hm1:S.D.ai.synced.may with
   | false=>rw[c1 hm1];exact h1
   | true=>
    have h2:(S.D.ai.synced.ai.wrote (S.next.count % 2).toNat (Tw.text kt S.next)).ok:=by
     have:=UA h1 (S.next.count % 2).toNat (Tw.text kt S.next) hk hz (by rw[uj];decide);unfold Ct at this;rw[if_neg (by rw[hm1];decide)] at this;exact this
    cases hm2:(S.D.ai.synced.ai.wrote (S.next.count % 2).toNat (Tw.text kt S.next)).may with
    | false=>rw[c2 hm1 hm2];exact h2
    | true=>
     rw[c3 hm1 hm2];have:=Kb h2;unfold rZ at this;rw[if_neg (by rw[hm2];decide)] at this;exact this
theorem oZ {S:Vs}{n:Int}(h:S.D.ok)(ho:S.ok n)(hn:n<1000000000)(kb kt:ByteArray):(S.au kb kt).2.D.ok:=by
 cases hd:S.dead with
 | true=>
  have e1:S.au kb kt=((0,false,6),S):=by unfold Vs.au;rw[hd];rfl
  rw[e1];exact h
 | false=>
  cases hv:oC S.uf S.live 8 with
  | none=>
   have e1:S.au kb kt=((0,false,0),S):=by unfold Vs.au;rw[hd,hv];rfl
   rw[e1];exact h
  | some z=>
   rw[mW hd hv];have hl:∀i ∈ Sp.eX S.T (z:Int) 24,i<24:=fun i hi=>(rW.1 hi).1
   have hmv:=Vs.ok.moves kb z (Sp.eX S.T (z:Int) 24) S ho hl;have hmd:=AY kb z (Sp.eX S.T (z:Int) 24) S h;split
   ·exact hmd
   have hf:=AZ hmd kt (hmv.next (by omega));split
   ·exact hf
   split
   ·exact hf
   rename_i hm
   exact Dy _ z (oU _ hf (by simpa using hm))
theorem Qc {S:Vs}{n:Int}(h:S.D.ok)(ho:S.ok n)(hn:n<1000000000)(kb kt:ByteArray)(i:Int)(t:ByteArray):(S.write kb kt i t).2.D.ok:=by
 unfold Vs.write;split
 ·exact h
 split
 ·exact h
 split
 ·exact h
 split
 ·exact h
 split
 ·exact h
 split
 ·split
  ·exact oZ h ho hn kb kt
  exact sO (oZ h ho hn kb kt) kb _ _ _
 exact sO h kb _ _ _
section
variable {q:Bool} {w0 w:World} {N rv Rb rd rc:Nat} {s kb kt:ByteArray} {S:Vs}
def RLr (w0 w wr:World)(N rv Rb rd rc:Nat)(s kb:ByteArray)(S:Vs)(n:Int)(z:Nat)(L:List Nat)(a:Option Addr)(k:Nat):Prop:=
 ∃Sk,iZ true w0 w wr N rv Rb rd rc s Sk∧Sk.ok n∧Sk.D.ok∧Sk.moves kb z (L.drop k)=S.moves kb z L∧
  (0<L.length→∃g,a=some ⟨g,0,none⟩∧g<wr.heap.size∧∀j (hj:j<L.length),wr.cell? ⟨g,j,none⟩=some (.int .i64 (L[j]:Int)))
theorem sP (B:ja Rb s kb kt)(n:Int)(ho:S.ok n)(hn:n<1000000000)(hok:S.D.ok)(h:bg w0 w N rv Rb rd rc s S) :
  Calls Tryz.prog 17 #[.pointer (some ⟨rv,0,none⟩)] w fun e w'=>e=.returned (.tuple #[.int .i64 (S.au kb kt).1.1,.bool (S.au kb kt).1.2.1,.int .i64 (S.au kb kt).1.2.2])∧iZ true w0 w w' N rv Rb rd rc s (S.au kb kt).2:=by
 have H:=hid h;have qf:=h.cf;cases hd:S.dead with
 | true=>
  have HE:Hid (S.au kb kt=((0,false,6),S)):=by show S.au kb kt=_;unfold Vs.au;rw[hd];rfl
  rw[hd] at qf;clear h hd B ho hok;go_enter Tryz.func17,Tryz.ntmps17
  go_wp2_with fail
  go_ret3;rw[HE.o];exact⟨rfl,H.o.self⟩
 | false=>
  have HB:=hid B;have HO:=hid (an ho (an hn hok));have HD:=hid hd;rw[hd] at qf;clear h hd B ho hn hok;go_enter Tryz.func17,Tryz.ntmps17
  go_wp2_with fail
  have H1:Hid (bg w0 w.drew N rv Rb rd rc s S):=H.o.go (Since.refl _).drew;have cK:Hid (Since w w.drew):=(Since.refl _).drew;have hL:=Tw.jc S.T;have HLV:Hid (∀W,Calls Tryz.prog 68 #[.agg (ak 73 (ae S.T)).toArray] W fun e w'=>∃x,e=.returned x∧Sp.Ls w' w'.heap.size x 8 S.live∧Since W w'):=fun W=>(Sp.OE S.T W).mono fun e w' ⟨x,h1,h2,h3⟩=>⟨x,h1,Zb h2 (fun j hj=>by unfold Sp.rT;rw[List.getElem?_map,List.getElem?_range hj];rfl),h3⟩
  have DY:Hid (∀(z:Int) W,Calls Tryz.prog 69 #[.agg (ak 73 (ae S.T)).toArray,.int .i64 z] W fun e w'=>∃x,e=.returned x∧w'.ownsRow W.heap.size 3 1 x (Sp.eX S.T z 24).length (Sp.vals (Sp.eX S.T z 24))∧Since W w'):=fun z W=>Sp.MF S.T z W
  have HR1:=hid H1.o.tab;generalize hcs:ak 73 (ae S.T)=cs at *;have BN:=hid hcs;clear hcs;have hS1:(fun W:World=>W.rangeAt rv 4 cs) w.drew:=HR1.o;refine wp_region_held (S:=fun W:World=>W.rangeAt rv 4 cs) (by kernel_rfl) ?_;refine Tw.tk 0 17 hS1 ?_;refine Tw.tk 2 19 hS1 ?_;refine Tw.tk 3 20 hS1 ?_;refine Tw.tk 4 21 hS1 ?_;refine Tw.takeD (i:=5) (d:=22) (v:=.agg cs.toArray) rfl rfl (by kernel_rfl) (by kernel_rfl) (by kernel_rfl) (fun _ _ _ h=>h) (yieldsIf_load_mid (by rfl) 72 _ (by rfl) rv 4 (by rfl) _ _ (fun w hSw=>hSw) Tryz.underlying72 (by rfl) (by rw[hL];kernel_rfl)) hS1 ?q5;simp only[Act.put,List.setIfInBounds_toArray,List.set_cons_zero,List.set_cons_succ];refine Tw.ry 1 (fun K hK=>?_);rw[if_pos (by rfl)];go_simp
  refine(Ck H1.o HO.o.2.2).mono ?_;rintro e w2 ⟨⟨x,rfl,hx⟩,h2⟩;simp only[];have H2:=hid (H1.o.go h2);have HS2:=hid (cK.o.trans h2);have zt:=hid hx;have hS2:(fun W:World=>W.rangeAt rv 4 cs) w2:=dm HR1.o h2;clear h2 hx;refine hK.out _ _ hS2 (fun _=>?_);clear hK K;refine Tw.nz ?_;refine Tw.ry 6 (fun K hK=>?_);rw[if_pos (by rfl)];go_simp
  refine(HLV.o _).mono ?_;rintro e w3 ⟨y,rfl,hy,h3⟩;simp only[];have H3:=hid (H2.o.go h3);have dZ:=hid (HS2.o.trans h3);have ML:=hid (an (zt.o.since h3) h3.size);have HY3:=hid hy;have bQ:(fun W:World=>W.rangeAt rv 4 cs) w3:=dm hS2 h3;clear h3 hy;refine hK.out _ _ bQ (fun _=>?_);clear hK K;refine Tw.nz ?_;refine Tw.ry 7 (fun K hK=>?_);rw[if_pos (by rfl)];go_simp
  refine(Sp.DX x y 8 8 w3.heap.size S.uf S.live _ (by
   obtain⟨a,c,hv,hc,h⟩:=ML.o.1;exact⟨a,c,hv,hc,fun hn=>by
    obtain⟨k,o,ha,hk,hcc⟩:=h hn;exact⟨k,o,ha,Nat.lt_of_lt_of_le hk ML.o.2,hcc⟩⟩) HY3.o (by omega) (by omega)).mono ?_
  rintro e w4 ⟨⟨z,ok,rfl,hz⟩,h4⟩;simp only[];have H4:=hid (H3.o.go h4);have fO:=hid (dZ.o.trans h4);have cz:(fun W:World=>W.rangeAt rv 4 cs) w4:=dm bQ h4;have HZ:Hid _:=Sq hz;clear h4 hz;refine hK.out _ _ cz (fun _=>?_);clear hK K;refine Tw.nz ?_;refine Tw.tk 8 16 cz ?_;refine Tw.tk 9 25 cz ?_;refine Tw.tk 10 26 cz ?_;refine Tw.tk 11 5 cz ?_;refine Tw.tk 12 6 cz ?_;refine wpAnyH_done (by kernel_rfl) ?_ _;clear hS1 hS2 bQ H1 H2 H3 cK HS2 dZ zt ML HY3 HLV HR1;rcases HZ.o with⟨rfl,zz,rfl,Ro,hv⟩ | ⟨rfl,rfl,hv⟩
  ·have HV:=hid (an hv Ro);clear hv Ro HZ;have OU:w4.rangeAt rv 4 cs:=cz;clear cz;go_wp2_with (refine wpList_load_mid (by rfl) 72 _ (by rfl) rv 4 (by rfl) _ _ OU Tryz.underlying72 (by rfl) (by rw[hL];kernel_rfl) ?_)
   refine(DY.o _ _).mono ?_;rintro e w5 ⟨x5,rfl,OV,h5⟩;have H5:=hid (H4.o.go h5);have jX:=hid (fO.o.trans h5);have HG:Hid (rv<w4.heap.size∧rd<w4.heap.size∧rc<w4.heap.size):=by
    obtain⟨lv,av,wv,hr⟩:=H4.o.sV;exact⟨H4.o.ty.lt,hr.aQ.lt (by omega),H4.o.iN.lt (by omega)⟩
   have HP:Hid _:=mW (kb:=kb) (kt:=kt) HD.o HV.o.1;have a0d:Hid (∀i ∈ Sp.eX S.T (zz:Int) 24,i<24):=fun i hi=>(rW.1 hi).1
   have He:Hid ((Sp.eX S.T (zz:Int) 24).length≤24):=Sp.mV _ _ _;generalize Sp.eX S.T (zz:Int) 24=L at *;obtain⟨a5,c5,rfl,BP⟩:=eO OV rfl;have HRL:Hid (RLr w0 w w5 N rv Rb rd rc s kb S n zz L a5 0∧∀g,a5=some ⟨g,0,none⟩→0<L.length→g≠rv∧g≠rd∧g≠rc):=by
    refine⟨⟨S,H.o.to jX.o,HO.o.1,HO.o.2.2,rfl,fun h0=>?_⟩,fun g hg h0=>?_⟩
    ·obtain⟨g,hg1,hg2,hg3,hg4⟩:=BP h0;exact⟨g,hg1,hg3,hg4⟩
    obtain⟨g',hg1,hg2,hg3,hg4⟩:=BP h0;rw[hg] at hg1;injection hg1 with hg1
    injection hg1 with hg1
    have:=HG.o;omega
   have HGN:=hid HRL.o.2;clear BP OV h5 OU H4 fO HG H5 jX DY BN hL;go_wp2_with fail
   go_loopw [37,9,10] (fun i _ _ wr=>∃k:Nat,k≤L.length∧i=.int .i64 (k:Int)∧RLr w0 w wr N rv Rb rd rc s kb S n zz L a5 k) (fun i _ _ _=>L.length-(intOf i).toNat)
   case atStart=>exact⟨0,by omega,rfl,HRL.o.1⟩
   clear HRL;obtain⟨k,hk,rfl,Sk,hto,hok,hdk,hmv,hrow⟩:=hrel;have Jh:=hid hto;have cO:=hid (an hok hdk);have Xa:=hid hmv;have HRW:=hid hrow;clear hto hok hdk hmv hrow;by_cases hlt:k<L.length
   ·have hlt2:(k:Int)<L.length:=by omega
    have a7p:(k:Int)<24:=by have:=He.o;omega
    obtain⟨g,rfl,hg3,hg4⟩:=HRW.o (by omega);have OW:Hid ((g≠rv∧g≠rd∧g≠rc)∧g<wr.heap.size∧∀j (hj:j<L.length),wr.cell? ⟨g,j,none⟩=some (.int .i64 (L[j]:Int))):=⟨HGN.o g rfl (by omega),hg3,hg4⟩
    have q1:=hg4 k hlt;clear hg3 hg4 HRW;have Jl:L[k]<24:=a0d.o _ (List.getElem_mem _);have HDR:=hid (List.drop_eq_getElem_cons hlt);generalize L[k]=ii at *;have hi2:(ii:Int)<24:=by omega
    have q2:=Jh.o.1.cx ii Jl;go_wp2_with fail
    refine(kI (q:=true) HB.o ii (Sk.X ii) zz Jl (cO.o.1.txt ii) cO.o.2 Jh.o.1).mono ?_;rintro e w6 ⟨rfl,h6⟩;have Xb:=hid (an (cO.o.1.put kb ii Jl zz (Sk.X ii) (cO.o.1.txt ii)) (sO cO.o.2 kb ii zz (Sk.X ii)));have Cr:Hid (S.moves kb zz L=if (Sk.put kb ii zz (Sk.X ii)).1=0 then (Sk.put kb ii zz (Sk.X ii)).2.moves kb zz (L.drop (k+1)) else Sk.put kb ii zz (Sk.X ii)):=by
     show S.moves kb zz L=_
     rw[←Xa.o,HDR.o,kG]
    have hb6:=h6.2.block g OW.o.2.1 OW.o.1.1 OW.o.1.2.1 OW.o.1.2.2 (Or.inl rfl);have HG6:Hid (g<w6.heap.size∧∀j (hj:j<L.length),w6.cell? ⟨g,j,none⟩=some (.int .i64 (L[j]:Int))):=⟨Nat.lt_of_lt_of_le OW.o.2.1 h6.2.size,fun j hj=>(World.cell?_of_block (w:=wr) (a:=⟨g,j,none⟩) hb6).trans (OW.o.2.2 j hj)⟩
    have vN:=hid (Jh.o.after h6);clear h6 hb6 OW q1 q2 Jh cO Xa HDR;generalize Sk.put kb ii zz (Sk.X ii)=R at *;by_cases h0:R.1=0
    ·rw[h0];have Xc:Hid (R.2.moves kb zz (L.drop (k+1))=S.moves kb zz L):=by
      show R.2.moves kb zz (L.drop (k+1))=S.moves kb zz L
      rw[Cr.o,if_pos h0]
     clear h0 Cr;go_wp2_with fail
     go_roundw
     case rel=>exact⟨k+1,by omega,by go_num,R.2,vN.o,Xb.o.1,Xb.o.2,Xc.o,fun _=>⟨g,rfl,HG6.o⟩⟩
     case measure=>simp[intOf];omega
    have HE:Hid (S.au kb kt=((0,false,R.1),R.2)):=by
     show S.au kb kt=_
     rw[HP.o,Cr.o,if_neg h0,if_pos h0]
    have h0d:¬R.1=0:=h0;clear h0 HP Cr;go_wp2_with fail
    go_ret3;rw[HE.o];exact⟨rfl,vN.o⟩
   have hke:k=L.length:=by omega
   subst hke;have Xc:Hid (S.moves kb zz L=(0,Sk)):=by
    show S.moves kb zz L=(0,Sk)
    rw[←Xa.o,List.drop_length,lQ]
   clear Xa HRW hlt;go_wp2_with fail
   refine(yT (q:=true) HB.o (cO.o.1.next (by have:=HO.o.2.1;omega)) cO.o.2 Jh.o.1).mono ?_;rintro e w6 ⟨rfl,h6⟩;have vN:=hid (Jh.o.after h6);have HD6:=hid (AZ cO.o.2 kt (cO.o.1.next (by have:=HO.o.2.1;omega)));have Xd:Hid (S.au kb kt=if (Sk.flush kt).1≠0 then ((0,false,(Sk.flush kt).1),(Sk.flush kt).2) else if (Sk.flush kt).2.D.may=false then ((0,false,14),{ (Sk.flush kt).2 with dead:=true }) else (((L.length:Int),true,0),{ (Sk.flush kt).2 with D:=(Sk.flush kt).2.D.ai.reset zz })):=by
    show S.au kb kt=_
    rw[HP.o,Xc.o,if_neg (fun h=>h rfl)]
   clear h6 Jh cO Xc HP;generalize Sk.flush kt=R at *;by_cases h0:R.1=0
   ·rw[h0];have Xe:Hid (S.au kb kt=if R.2.D.may=false then ((0,false,14),{ R.2 with dead:=true }) else (((L.length:Int),true,0),{ R.2 with D:=R.2.D.ai.reset zz })):=by
     show S.au kb kt=_
     rw[Xd.o,if_neg (by rw[h0];decide)]
    clear h0 Xd;have q0:=vN.o.1.c1;go_wp2_with fail
    refine(Fq (q:=true) zz HV.o.2 HD6.o vN.o.1).mono ?_;rintro e w7 ⟨rfl,h7⟩;have YS:=hid (vN.o.after h7);clear h7 vN q0;go_wp2_with fail
    refine(iy (q:=true) (Cu R.2.D zz).1 YS.o.1).mono ?_;rintro e w8 ⟨rfl,h8⟩;have SY:=hid (YS.o.after h8);clear h8 YS;cases hm:R.2.D.may with
    | false=>
     have e1:Cu R.2.D zz=(14,R.2.D):=by unfold Cu;rw[if_pos hm]
     rw[e1] at SY ⊢;have HE:Hid (S.au kb kt=((0,false,14),{ R.2 with dead:=true })):=by
      show S.au kb kt=_
      rw[Xe.o,if_pos hm]
     clear e1 hm Xe;go_wp2_with fail
     go_ret3;rw[HE.o];refine⟨rfl,?_⟩;have:=SY.o
     simpa using this
    | true=>
     have e1:Cu R.2.D zz=(0,R.2.D.ai.reset zz):=by unfold Cu;rw[if_neg (by rw[hm];decide)]
     rw[e1] at SY ⊢;have HE:Hid (S.au kb kt=(((L.length:Int),true,0),{ R.2 with D:=R.2.D.ai.reset zz })):=by
      show S.au kb kt=_
      rw[Xe.o,if_neg (by rw[hm];decide)]
     clear e1 hm Xe;go_wp2_with fail
     go_ret3;rw[HE.o];refine⟨rfl,?_⟩;have:=SY.o
     simpa using this
   have HE:Hid (S.au kb kt=((0,false,R.1),R.2)):=by
    show S.au kb kt=_
    rw[Xd.o,if_pos h0]
   have h0d:¬R.1=0:=h0;clear h0 Xd;go_wp2_with fail
   go_ret3;rw[HE.o];exact⟨rfl,vN.o⟩
  have HV:=hid hv;clear hv HZ;go_wp2_with fail
  go_ret3;have HP:S.au kb kt=((0,false,0),S):=by
   unfold Vs.au;rw[HD.o,HV.o]
   rfl
  rw[HP];exact⟨rfl,H.o.to fO.o⟩
end
end Vl
end
section
namespace Vl
open Go.RowKit
open Tw (Tb ae aY aU)
theorem XX {z:Int}(h:0≤z∧z<24):(decide (0≤z)&&decide (z≤23))=true:=by simp;omega
theorem UB {z:Int}(h:¬(0≤z∧z<24)):(decide (0≤z)&&decide (z≤23))=false:=by simp;omega
section
variable {q:Bool} {w0 w:World} {N rv Rb rd rc:Nat} {s kb kt:ByteArray} {S:Vs}
theorem Kg (B:ja Rb s kb kt)(n:Int)(ho:S.ok n)(hn:n<1000000000)(hok:S.D.ok)(i:Int)(t:ByteArray)(h:bg w0 w N rv Rb rd rc s S) :
  Calls Tryz.prog 111 #[.pointer (some ⟨rv,0,none⟩),.int .i64 i,.string t] w fun e w'=>e=.returned (.int .i64 (S.write kb kt i t).1)∧iZ true w0 w w' N rv Rb rd rc s (S.write kb kt i t).2:=by
 have HB:=hid B;have HO:=hid (an ho (an hn hok));have H:=hid h;have qf:=h.cf;clear h B ho hn hok;cases hd:S.dead with
 | true=>
  have HE:Hid (S.write kb kt i t=(6,S)):=by show S.write kb kt i t=_;unfold Vs.write;rw[hd];rfl
  rw[hd] at qf;clear hd;go_enter Tryz.func111,Tryz.ntmps111
  go_wp2_with fail
  go_ret;rw[HE.o];exact⟨rfl,H.o.self⟩
 | false=>
  have HD:=hid hd;rw[hd] at qf;clear hd;go_enter Tryz.func111,Tryz.ntmps111
  go_wp2_with fail
  refine(fu _ _ _ _).mono ?_;rintro e wx ⟨rfl,hw⟩;rw[hw];clear hw wx;by_cases hi:0≤i∧i<24
  ·rw[XX hi];obtain⟨k,rfl⟩:=Int.eq_ofNat_of_zero_le hi.1;have hk:(k:Int)<24:=hi.2;have HK:Hid (k<24):=by show k<24;omega
   have HI:Hid (¬¬(0≤(k:Int)∧(k:Int)<24)):=fun q=>q hi
   clear hi;by_cases ht:80<t.size
   ·have ht2:(80:Int)<t.size:=by omega
    have HE:Hid (S.write kb kt k t=(4,S)):=by show S.write kb kt k t=_;unfold Vs.write;rw[HD.o,if_neg (by decide),if_neg HI.o,if_pos ht]
    clear ht;go_wp2_with fail
    go_ret;rw[HE.o];exact⟨rfl,H.o.self⟩
   have ht2:¬(80:Int)<t.size:=by omega
   have HT:=hid ht;clear ht;have qx:=H.o.cx k HK.o;by_cases hx:t=S.X k
   ·have HE:Hid (S.write kb kt k t=(0,S)):=by show S.write kb kt k t=_;unfold Vs.write;rw[HD.o,if_neg (by decide),if_neg HI.o,if_neg HT.o,Int.toNat_natCast,if_pos hx]
    rw[←hx] at qx;clear hx;go_wp2_with fail
    go_ret;rw[HE.o];exact⟨rfl,H.o.self⟩
   have hxl:=Tw.fD hx;have HX:=hid hx;clear hx;by_cases he:t=⟨#[]⟩
   ·have HE:Hid (S.write kb kt k t=(0,S.set k 0 0 ⟨#[]⟩ ⟨#[]⟩)):=by show S.write kb kt k t=_;unfold Vs.write;rw[HD.o,if_neg (by decide),if_neg HI.o,if_neg HT.o,Int.toNat_natCast,if_neg HX.o,if_pos he]
    subst he;obtain⟨g1,g2⟩:=uk (fun q:S.X k=⟨#[]⟩=>HX.o q.symm);clear hxl;have iM:=hid H.o.aQ;have za:Hid (aA w.drew rv 102 (bN Rb rd rc s S.T S.X S.dead)):=H.o.aQ.since (Since.refl _).drew;have c0:=iM.o.cell (5+k*3) (by have:=HK.o;omega);have c1:=iM.o.cell (5+k*3+1) (by have:=HK.o;omega);have c2:=iM.o.cell (5+k*3+2) (by have:=HK.o;omega);have c3:=iM.o.cell (77+k) (by have:=HK.o;omega);have d0:=za.o.cell (5+k*3) (by have:=HK.o;omega);have d1:=za.o.cell (5+k*3+1) (by have:=HK.o;omega);have d2:=za.o.cell (5+k*3+2) (by have:=HK.o;omega);have d3:=za.o.cell (77+k) (by have:=HK.o;omega);have f0:=iM.o.frozen (5+k*3) (by have:=HK.o;omega);have f1:=iM.o.frozen (5+k*3+1) (by have:=HK.o;omega);have f2:=iM.o.frozen (5+k*3+2) (by have:=HK.o;omega);have f3:=iM.o.frozen (77+k) (by have:=HK.o;omega);have x0:=za.o.frozen (5+k*3) (by have:=HK.o;omega)
    have x1:=za.o.frozen (5+k*3+1) (by have:=HK.o;omega);have x2:=za.o.frozen (5+k*3+2) (by have:=HK.o;omega);have x3:=za.o.frozen (77+k) (by have:=HK.o;omega);go_wp2_with fail
    go_region
    have vN:Hid (iZ true w0 w ((((w.setCell ⟨rv,5+k*3,none⟩ (.int .i64 0)).setCell ⟨rv,5+k*3+1,none⟩ (.int .i64 0)).setCell ⟨rv,5+k*3+2,none⟩ (.string ⟨#[]⟩)).setCell ⟨rv,77+k,none⟩ (.string ⟨#[]⟩)).drew N rv Rb rd rc s (S.set k 0 0 ⟨#[]⟩ ⟨#[]⟩)):=by
     refine iZ.then (H.o.nJ (T':=dD S.T k 0 0 ⟨#[]⟩) (X':=lN S.X k ⟨#[]⟩) (f':=S.dead) ?_ ((((Fr.setCell _ _ _ _ _).trans' (Fr.setCell _ _ _ _ _)).trans' (Fr.setCell _ _ _ _ _)).trans' (Fr.setCell _ _ _ _ _)) ((((H.o.ty.setCell _ _).setCell _ _).setCell _ _).setCell _ _)) (fun h=>h.to (Since.refl _).drew);exact((((iM.o.set (5+k*3) (by have:=HK.o;omega) _).set (5+k*3+1) (by have:=HK.o;omega) _).set (5+k*3+2) (by have:=HK.o;omega) _).congr (fun j hj=>qY _ _ _ _ _ _ _ k HK.o 0 0 ⟨#[]⟩ j hj)).set (77+k) (by have:=HK.o;omega) _ |>.congr (fun j hj=>oW _ _ _ _ _ _ _ k HK.o ⟨#[]⟩ j hj)
    clear c0 c1 c2 c3 d0 d1 d2 d3 f0 f1 f2 f3 x0 x1 x2 x3 iM za;go_wp2_with fail
    go_ret;rw[HE.o];exact⟨rfl,vN.o⟩
   obtain⟨g1,g2⟩:=uk he;have HP:Hid (S.write kb kt k t=if S.free≤20 then (if (S.au kb kt).1.2.2≠0 then ((S.au kb kt).1.2.2,(S.au kb kt).2) else (S.au kb kt).2.put kb k (-1) t) else S.put kb k (-1) t):=by
    show S.write kb kt k t=_
    unfold Vs.write;rw[HD.o,if_neg (by decide),if_neg HI.o,if_neg HT.o,Int.toNat_natCast,if_neg HX.o,if_neg he]
   clear he;go_wp2_with fail
   refine(jZ H.o HO.o.2.2).mono ?_;rintro e w1 ⟨rfl,h1⟩;have H1:=hid (H.o.go h1);have cK:=hid h1;clear h1 qx hxl g1 g2;by_cases hf:S.free≤20
   ·have hfd:decide (S.free≤20)=true:=decide_eq_true hf;have Jm:Hid (S.write kb kt k t=if (S.au kb kt).1.2.2≠0 then ((S.au kb kt).1.2.2,(S.au kb kt).2) else (S.au kb kt).2.put kb k (-1) t):=by
     show S.write kb kt k t=_
     rw[HP.o,if_pos hf]
    clear HP;generalize S.free=fr at *;go_wp2_with fail
    refine(sP HB.o n HO.o.1 HO.o.2.1 HO.o.2.2 H1.o).mono ?_;rintro e w2 ⟨rfl,h2⟩;have HT2:=hid (iZ.pre cK.o h2);have HD2:=hid (oZ HO.o.2.2 HO.o.1 HO.o.2.1 kb kt);clear h2 hf hfd;generalize S.au kb kt=R at *;obtain⟨⟨r1,r2,r3⟩,R2⟩:=R;dsimp only at HT2 Jm HD2 ⊢;by_cases h0:r3=0
    ·subst h0;have YT:Hid (S.write kb kt k t=R2.put kb k (-1) t):=by
      show S.write kb kt k t=_
      rw[Jm.o,if_neg (fun q=>q rfl)]
     clear Jm;go_wp2_with fail
     refine(kI (q:=true) HB.o k t (-1) HK.o (by have:=HT.o;omega) HD2.o HT2.o.1).mono ?_;rintro e w3 ⟨rfl,h3⟩;have H3:=hid (HT2.o.after h3);clear h3;go_wp2_with fail
     go_ret;rw[YT.o];exact⟨rfl,H3.o⟩
    have YT:Hid (S.write kb kt k t=(r3,R2)):=by
     show S.write kb kt k t=_
     rw[Jm.o,if_pos h0]
    clear Jm;go_wp2_with fail
    go_ret;rw[YT.o];exact⟨rfl,HT2.o⟩
   have hfd:decide (S.free≤20)=false:=decide_eq_false hf;have Jm:Hid (S.write kb kt k t=S.put kb k (-1) t):=by
    show S.write kb kt k t=_
    rw[HP.o,if_neg hf]
   clear HP;generalize S.free=fr at *;go_wp2_with fail
   refine(kI (q:=true) HB.o k t (-1) HK.o (by have:=HT.o;omega) HO.o.2.2 H1.o).mono ?_;rintro e w2 ⟨rfl,h2⟩;have H2:=hid (iZ.pre cK.o h2);clear h2;go_wp2_with fail
   go_ret;rw[Jm.o];exact⟨rfl,H2.o⟩
  have HE:Hid (S.write kb kt i t=(2,S)):=by show S.write kb kt i t=_;unfold Vs.write;rw[HD.o,if_neg (by decide),if_pos hi]
  rw[UB hi];go_wp2_with fail
  go_ret;rw[HE.o];exact⟨rfl,H.o.self⟩
end
end Vl
end
end Go.Proofs.YtlgbfkcpdelcbaaGreatDoor
