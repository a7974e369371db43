import Derived.Test.YtlgbfkcpdelcbaaGreatDoorJ12
import Derived.Test.YtlgbfkcpdelcbaaGreatDoorJ19
import Derived.Test.YtlgbfkcpdelcbaaGreatDoorJ25
set_option linter.unusedSimpArgs false
set_option linter.unusedVariables false
set_option maxHeartbeats 8000000
set_option maxRecDepth 100000
namespace Go.Proofs.YtlgbfkcpdelcbaaGreatDoor
section
namespace Vl
open Go.RowKit
open Tw (Tb)
structure Vs where
 D:Dv
 c:Int
 T:Tb
 X:Nat→ByteArray
 dead:Bool
def Vs.uf (S:Vs):Nat→Int:=fun z=>(S.D.cnt z:Int)
def Vs.free (S:Vs):Int:=Sp.iT S.uf 8
def room (f:Nat→Int)(but:Int):Option Nat:=(List.range 8).find? (fun i=>decide ((i:Int)≠but)&&decide (f i<16))
def oC (f g:Nat→Int):Nat→Option Nat
 | 0=>none
 | k+1=>if 16≤f k then (match oC f g k with | none=>some k | some v=>if g k<g v then some k else some v) else oC f g k
def dD (T:Tb)(i:Nat)(z o:Int)(t:ByteArray):Tb:=
 { T with az:=fun j=>if j=i then z else T.az j,off:=fun j=>if j=i then o else T.off j,tag:=fun j=>if j=i then t else T.tag j }
def lN (X:Nat→ByteArray)(i:Nat)(t:ByteArray):Nat→ByteArray:=fun j=>if j=i then t else X j
def Vs.set (S:Vs)(i:Nat)(z o:Int)(t x:ByteArray):Vs:={ S with T:=dD S.T i z o t,X:=lN S.X i x }
def Vs.put (kb:ByteArray)(S:Vs)(i:Nat)(but:Int)(t:ByteArray):Int × Vs:=
 match room S.uf but with
 | none=>(12,S)
 | some z=>if S.D.may=false then (14,{ S with dead:=true }) else
  (0,{ S with D:=S.D.ai.app z (Sl.bL kb i t),T:=dD S.T i z (S.D.cnt z) ((Sl.bL kb i t).extract 0 16),X:=lN S.X i t })
def Vs.next (S:Vs):Tb:={ S.T with count:=S.T.count+1 }
def Vs.tell (kt:ByteArray)(S:Vs)(U:Tb):Int × Vs:=
 if S.D.may=false then (14,{ S with dead:=true }) else
  if (S.D.ai.wrote (U.count % 2).toNat (Tw.text kt U)).may=false then (14,{ S with D:=S.D.ai.wrote (U.count % 2).toNat (Tw.text kt U),dead:=true }) else
   (0,{ S with D:=(S.D.ai.wrote (U.count % 2).toNat (Tw.text kt U)).ai.synced,c:=U.count })
def Vs.flush (kt:ByteArray)(S:Vs):Int × Vs:=
 if S.dead then (6,S) else if S.D.may=false then (14,{ S with dead:=true }) else
  if (({ S with D:=S.D.ai.synced }:Vs).tell kt S.next).1=0 then (0,{ (({ S with D:=S.D.ai.synced }:Vs).tell kt S.next).2 with T:=S.next }) else ({ S with D:=S.D.ai.synced }:Vs).tell kt S.next
def Vs.moves (kb:ByteArray)(z:Int):List Nat→Vs→Int × Vs
 | [],S=>(0,S)
 | i::r,S=>if (S.put kb i z (S.X i)).1=0 then Vs.moves kb z r (S.put kb i z (S.X i)).2 else S.put kb i z (S.X i)
def Vs.live (S:Vs):Nat→Int:=fun z=>((Sp.eX S.T (z:Int) 24).length:Int)
def Vs.au (kb kt:ByteArray)(S:Vs):(Int × Bool × Int) × Vs:=
 if S.dead then ((0,false,6),S) else
  match oC S.uf S.live 8 with
  | none=>((0,false,0),S)
  | some z=>
   let l:=Sp.eX S.T (z:Int) 24
   let r:=S.moves kb z l
   if r.1≠0 then ((0,false,r.1),r.2) else
    let f:=r.2.flush kt
    if f.1≠0 then ((0,false,f.1),f.2) else
     if f.2.D.may=false then ((0,false,14),{ f.2 with dead:=true }) else
      ((l.length,true,0),{ f.2 with D:=f.2.D.ai.reset z })
def Vs.write (kb kt:ByteArray)(S:Vs)(i:Int)(t:ByteArray):Int × Vs:=
 if S.dead then (6,S) else if ¬(0≤i∧i<24) then (2,S) else if 80<t.size then (4,S) else if t=S.X i.toNat then (0,S) else
  if t=⟨#[]⟩ then (0,S.set i.toNat 0 0 ⟨#[]⟩ ⟨#[]⟩) else
   if S.free≤20 then
    (if (S.au kb kt).1.2.2≠0 then ((S.au kb kt).1.2.2,(S.au kb kt).2) else (S.au kb kt).2.put kb i.toNat (-1) t)
   else S.put kb i.toNat (-1) t
def Vs.read (S:Vs)(i:Int):ByteArray × Int:=if ¬(0≤i∧i<24) then (⟨#[]⟩,2) else (S.X i.toNat,0)
def gm (D:Dv)(z o:Int):ByteArray:=txt 128 (D.blk z.toNat o.toNat)
def there (kb:ByteArray)(D:Dv)(T:Tb)(i:Nat):Prop:=
 T.tag i=⟨#[]⟩∨((0≤T.az i∧T.az i<8∧0≤T.off i∧T.off i<D.cnt (T.az i).toNat)∧(gm D (T.az i) (T.off i)).extract 0 16=Sl.kT kb i (gm D (T.az i) (T.off i))∧(gm D (T.az i) (T.off i)).extract 0 16=T.tag i)
def aM (kb:ByteArray)(D:Dv)(T:Tb)(k:Nat):Nat→ByteArray:=fun i=>if i<k then (if T.tag i=⟨#[]⟩ then ⟨#[]⟩ else Sl.textOf kb (gm D (T.az i) (T.off i))) else ⟨#[]⟩
def aX (D:Dv)(n:Int):ByteArray:=txt 500 (D.aL (n % 2).toNat (fun _=>true))
def Eb (kt:ByteArray)(D:Dv)(n:Int):Prop:=Tw.wJ (aX D n)∧Tw.uG (Tw.rd (aX D n))=true∧Tw.text kt (Tw.rd (aX D n))=(aX D n).extract 0 456∧(Tw.rd (aX D n)).count=n
def whole (kb kt:ByteArray)(D:Dv)(n:Int):Prop:=Eb kt D n∧∀i,i<24→there kb D (Tw.rd (aX D n)) i
def dz (D:Dv)(n:Int):Tb:=Tw.rd (aX D n)
def opened (kb:ByteArray)(D:Dv)(n c:Int):Vs:={ D:=D,c:=c,T:=dz D n,X:=aM kb D (dz D n) 24,dead:=false }
def fresh (D:Dv)(c:Int):Vs:={ D:=D,c:=c,T:=Tb.zero,X:=fun _=>⟨#[]⟩,dead:=false }
def Ja (kb kt:ByteArray)(D:Dv)(c r:Int)(S:Vs):Prop:=
 (whole kb kt D (c+1)∧r=0∧S=opened kb D (c+1) (c+1))∨(¬whole kb kt D (c+1)∧c=0∧r=0∧S=fresh D c)∨(¬whole kb kt D (c+1)∧c≠0∧whole kb kt D c∧r=0∧S=opened kb D c c)∨(¬whole kb kt D (c+1)∧c≠0∧¬whole kb kt D c∧r=15∧S=fresh D c)
end Vl
end
section
namespace Vl
open Go.RowKit
open Tw (Tb)
open Sp (mU qh fE)
theorem jh {f:Nat→Int}{but:Int}{z:Nat}(h:room f but=some z):z<8∧(z:Int)≠but∧f z<16:=by
 unfold room at h;have h1:=List.find?_some h;have h2:=List.mem_of_find?_eq_some h;simp only[Bool.and_eq_true,decide_eq_true_eq] at h1;exact⟨List.mem_range.1 h2,h1.1,h1.2⟩
theorem OG {f:Nat→Int}{but:Int}(h:room f but=none)(z:Nat)(hz:z<8):(z:Int)=but∨16≤f z:=by
 unfold room at h;have h1:=List.find?_eq_none.1 h z (List.mem_range.2 hz);simp only[Bool.and_eq_true,decide_eq_true_eq] at h1;by_cases e:(z:Int)=but
 ·exact Or.inl e
 by_cases e2:16≤f z
 ·exact Or.inr e2
 exact absurd ⟨e,by omega⟩ h1
theorem Jb {f:Nat→Int}{but:Int}{z:Nat}(h:room f but=some z)(j:Nat)(hj:j<z):(j:Int)=but∨16≤f j:=by
 obtain⟨h8,_,_⟩:=jh h;unfold room at h;obtain⟨_,ls,bs,he,hn⟩:=List.find?_eq_some_iff_append.1 h;have hlen:ls.length=z:=by
  have h1:(List.range 8)[ls.length]?=some z:=by rw[he];simp
  rw[List.getElem?_range (by
   have:=congrArg List.length he;simp at this;omega)] at h1
  simpa using h1
 have hm:j ∈ ls:=by
  have h1:(List.range 8)[j]?=some j:=by rw[List.getElem?_range (by omega)]
  rw[he,List.getElem?_append_left (by omega)] at h1;exact List.mem_of_getElem? h1
 have:=hn j hm;simp only[Bool.not_eq_true',Bool.and_eq_false_iff,decide_eq_false_iff_not] at this;rcases this with h1 | h1
 ·exact Or.inl (Decidable.not_not.1 h1)
 exact Or.inr (by omega)
theorem WP (f:Nat→Int)(but:Int):(∃z,room f but=some z∧mU 8 f but z true)∨(room f but=none∧mU 8 f but 0 false):=by
 cases h:room f but with
 | none=>exact Or.inr ⟨rfl,Or.inr ⟨rfl,rfl,fun j hj=>OG h j hj⟩⟩
 | some z=>
  obtain⟨h1,h2,h3⟩:=jh h;exact Or.inl ⟨z,rfl,Or.inl ⟨rfl,z,h1,rfl,h2,h3,fun j hj=>Jb h j hj⟩⟩
theorem MG {f:Nat→Int}{but z:Int}{ok:Bool}(h:mU 8 f but z ok):(ok=true∧∃k:Nat,z=k∧room f but=some k)∨(ok=false∧z=0∧room f but=none):=by
 rcases WP f but with⟨k,h1,h2⟩ | ⟨h1,h2⟩
 ·obtain⟨rfl,rfl⟩:=h.one h2;exact Or.inl ⟨rfl,k,rfl,h1⟩
 obtain⟨rfl,rfl⟩:=h.one h2;exact Or.inr ⟨rfl,rfl,h1⟩
theorem xD (f g:Nat→Int):∀k,(∃v:Nat,oC f g k=some v∧fE f g k v true)∨(oC f g k=none∧fE f g k 0 false)
 | 0=>Or.inr ⟨rfl,fE.zero f g⟩
 | k+1=>by
  unfold oC;by_cases hk:16≤f k
  ·rw[if_pos hk];rcases xD f g k with⟨v,h1,h2⟩ | ⟨h1,h2⟩
   ·rw[h1];by_cases hl:g k<g v
    ·exact Or.inl ⟨k,by simp[hl],h2.take hk hl⟩
    exact Or.inl ⟨v,by simp[hl],h2.keep hl⟩
   rw[h1];exact Or.inl ⟨k,rfl,h2.first hk⟩
  rw[if_neg hk];rcases xD f g k with⟨v,h1,h2⟩ | ⟨h1,h2⟩
  ·exact Or.inl ⟨v,h1,h2.skip hk⟩
  exact Or.inr ⟨h1,h2.skip hk⟩
theorem Sq {f g:Nat→Int}{z:Int}{ok:Bool}(h:qh 8 8 f g z ok):(ok=true∧∃k:Nat,z=k∧k<8∧oC f g 8=some k)∨(ok=false∧z=0∧oC f g 8=none):=by
 rcases xD f g 8 with⟨k,h1,h2⟩ | ⟨h1,h2⟩
 ·obtain⟨v,hv,hv8⟩:=h2.lt;obtain⟨rfl,rfl⟩:=h.one (h2.is (by omega) (by omega) (by omega));exact Or.inl ⟨rfl,k,rfl,by omega,h1⟩
 obtain⟨rfl,rfl⟩:=h.one (h2.is (by omega) (by omega) (by omega));exact Or.inr ⟨rfl,rfl,h1⟩
end Vl
end
section
namespace Vl
open Go.RowKit
open Tw (Tb ig may)
structure Vs.ok (S:Vs)(n:Int):Prop where
 cnt:S.T.count=S.c
 c0:0≤S.c
 cn:S.c≤n
 may:∀i,i<24→ig S.T i∨may S.T i
 VG:∀i j,i<24→j<24→i≠j→¬ig S.T i→¬ig S.T j→¬(S.T.az i=S.T.az j∧S.T.off i=S.T.off j)
 at_:∀i,i<24→¬ig S.T i→S.T.off i<S.D.cnt (S.T.az i).toNat
 txt:∀i,(S.X i).size≤80
 ws:S.D.ws.length≤1
theorem Vs.ok.le {S:Vs}{n m:Int}(h:S.ok n)(hm:n≤m):S.ok m:=⟨h.cnt,h.c0,Int.le_trans h.cn hm,h.may,h.VG,h.at_,h.txt,h.ws⟩
theorem WQ {T:Tb}(h:∀i,i<24→ig T i∨may T i)(hd:∀i j,i<24→j<24→i≠j→¬ig T i→¬ig T j→¬(T.az i=T.az j∧T.off i=T.off j)):Tw.fine T 24:=fun i hi=>by
 by_cases hn:ig T i
 ·exact Or.inl hn
 rcases h i hi with h1 | h1
 ·exact absurd h1 hn
 refine Or.inr ⟨h1,?_⟩;rintro ⟨j,hj,Ec,e1,e2⟩;exact hd i j hi (by omega) (by omega) hn Ec ⟨e1.symm,e2.symm⟩
theorem WS {T:Tb}(h:Tw.fine T 24):(∀i,i<24→ig T i∨may T i)∧∀i j,i<24→j<24→i≠j→¬ig T i→¬ig T j→¬(T.az i=T.az j∧T.off i=T.off j):=by
 refine⟨fun i hi=>?_,fun i j hi hj hij hni Ec e=>?_⟩
 ·rcases h i hi with h1 | h1
  ·exact Or.inl h1
  exact Or.inr h1.1
 rcases Nat.lt_or_ge i j with hl | hl
 ·rcases h j hj with h1 | h1
  ·exact Ec h1
  exact h1.2 ⟨i,hl,hni,e.1,e.2⟩
 rcases h i hi with h1 | h1
 ·exact hni h1
 exact h1.2 ⟨j,by omega,Ec,e.1.symm,e.2.symm⟩
theorem Vs.ok.next {S:Vs}{n:Int}(h:S.ok n)(hn:n<1099511627776):Tw.Rt S.next:=
 ⟨⟨by show 1≤S.T.count+1;have:=h.cnt;have:=h.c0;omega,by show S.T.count+1≤_;have:=h.cnt;have:=h.cn;omega⟩,WQ h.may h.VG⟩
theorem Vs.ok.nc {S:Vs}{n:Int}(h:S.ok n):S.c<S.T.count+1:=by have:=h.cnt;omega
theorem Vs.ok.kill {S:Vs}{n:Int}(h:S.ok n)(b:Bool):({ S with dead:=b }:Vs).ok n:=⟨h.cnt,h.c0,h.cn,h.may,h.VG,h.at_,h.txt,h.ws⟩
theorem Vs.ok.dev {S:Vs}{n:Int}(h:S.ok n)(D:Dv)(hc:D.cnt=S.D.cnt)(hw:D.ws.length≤1):({ S with D:=D }:Vs).ok n:=
 ⟨h.cnt,h.c0,h.cn,h.may,h.VG,fun i hi hn=>by show S.T.off i<(D.cnt (S.T.az i).toNat:Int);rw[hc];exact h.at_ i hi hn,h.txt,hw⟩
theorem rV (T:Tb)(i:Nat)(z o:Int)(t:ByteArray):(dD T i z o t).az i=z∧(dD T i z o t).off i=o∧(dD T i z o t).tag i=t:=by simp[dD]
theorem jD (T:Tb)(i:Nat)(z o:Int)(t:ByteArray){j:Nat}(h:j≠i):(dD T i z o t).az j=T.az j∧(dD T i z o t).off j=T.off j∧(dD T i z o t).tag j=T.tag j:=by simp[dD,h]
theorem gp (T:Tb)(i:Nat)(z o:Int)(t:ByteArray){j:Nat}(h:j≠i):ig (dD T i z o t) j↔ig T j:=by
 obtain⟨a,b,c⟩:=jD T i z o t h;unfold Tw.ig;rw[a,b,c]
theorem Ed (T:Tb)(i:Nat)(z o:Int)(t:ByteArray){j:Nat}(h:j≠i):may (dD T i z o t) j↔may T j:=by
 obtain⟨a,b,c⟩:=jD T i z o t h;unfold Tw.may;rw[a,b,c]
theorem zX {X:Nat→ByteArray}(h:∀i,(X i).size≤80)(i:Nat){t:ByteArray}(ht:t.size≤80)(j:Nat):(lN X i t j).size≤80:=by
 unfold lN;split
 ·exact ht
 exact h j
theorem Vs.ok.clear {S:Vs}{n:Int}(h:S.ok n)(i:Nat):(S.set i 0 0 ⟨#[]⟩ ⟨#[]⟩).ok n where
 cnt:=h.cnt
 c0:=h.c0
 cn:=h.cn
 may j hj:=by
  by_cases e:j=i
  ·subst e;obtain⟨a,b,c⟩:=rV S.T j 0 0 ⟨#[]⟩;exact Or.inl ⟨a,b,c⟩
  rcases h.may j hj with h1 | h1
  ·exact Or.inl ((gp _ _ _ _ _ e).2 h1)
  exact Or.inr ((Ed _ _ _ _ _ e).2 h1)
 VG j k hj hk hjk Ec hnk:=by
  have hi:∀m,¬ig (dD S.T i 0 0 ⟨#[]⟩) m→m≠i:=fun m hm e=>by
   subst e;obtain⟨a,b,c⟩:=rV S.T m 0 0 ⟨#[]⟩;exact hm ⟨a,b,c⟩
  have ej:=hi j Ec;have ek:=hi k hnk;obtain⟨a,b,_⟩:=jD S.T i 0 0 ⟨#[]⟩ ej;obtain⟨a',b',_⟩:=jD S.T i 0 0 ⟨#[]⟩ ek;show ¬((dD S.T i 0 0 ⟨#[]⟩).az j=(dD S.T i 0 0 ⟨#[]⟩).az k∧(dD S.T i 0 0 ⟨#[]⟩).off j=(dD S.T i 0 0 ⟨#[]⟩).off k)
  rw[a,b,a',b'];exact h.VG j k hj hk hjk (fun q=>Ec ((gp _ _ _ _ _ ej).2 q)) (fun q=>hnk ((gp _ _ _ _ _ ek).2 q))
 at_ j hj Ec:=by
  have ej:j≠i:=fun e=>by
   subst e;obtain⟨a,b,c⟩:=rV S.T j 0 0 ⟨#[]⟩;exact Ec ⟨a,b,c⟩
  obtain⟨a,b,_⟩:=jD S.T i 0 0 ⟨#[]⟩ ej;show (dD S.T i 0 0 ⟨#[]⟩).off j<(S.D.cnt ((dD S.T i 0 0 ⟨#[]⟩).az j).toNat:Int)
  rw[a,b];exact h.at_ j hj (fun q=>Ec ((gp _ _ _ _ _ ej).2 q))
 txt:=zX h.txt i (by show 0≤80;omega)
 ws:=h.ws
theorem Vs.ok.put {S:Vs}{n:Int}(h:S.ok n)(kb:ByteArray)(i:Nat)(hi:i<24)(but:Int)(t:ByteArray)(ht:t.size≤80):(S.put kb i but t).2.ok n:=by
 unfold Vs.put;cases hr:room S.uf but with
 | none=>exact h
 | some z=>
  obtain⟨Ro,_,ZV⟩:=jh hr;dsimp only;by_cases hm:S.D.may=false
  ·rw[if_pos hm];exact h.kill true
  rw[if_neg hm];have hs:((Sl.bL kb i t).extract 0 16).size=16:=by rw[ByteArray.size_extract,Sl.iH];rfl
  generalize Sl.bL kb i t=s at *;have hcnt:∀z',(S.D.ai.app z s).cnt z'=if z'=z then S.D.cnt z+1 else S.D.cnt z':=fun z'=>by
   show (if z'=z then S.D.ai.cnt z+1 else S.D.ai.cnt z')=_
   rw[bF]
  have hge:∀z',S.D.cnt z'≤(S.D.ai.app z s).cnt z':=fun z'=>by
   rw[hcnt];split
   ·rename_i e;subst e;omega
   exact Nat.le_refl _
  have h16:S.D.cnt z<16:=by unfold Vs.uf at ZV;omega
  obtain⟨a,b,c⟩:=rV S.T i z (S.D.cnt z) (s.extract 0 16)
  -- no other cell lies there
  have hfree:∀j,j<24→j≠i→¬ig S.T j→¬(S.T.az j=(z:Int)∧S.T.off j=(S.D.cnt z:Int)):=fun j hj hji Ec e=>by
   have:=h.at_ j hj Ec;rw[e.1,Int.toNat_natCast] at this;omega
  refine⟨h.cnt,h.c0,h.cn,fun j hj=>?_,fun j k hj hk hjk Ec hnk=>?_,fun j hj Ec=>?_,zX h.txt i ht,?_⟩
  ·by_cases e:j=i
   ·subst e;refine Or.inr ⟨by rw[c];exact hs,?_⟩;rw[a,b];omega
   rcases h.may j hj with h1 | h1
   ·exact Or.inl ((gp _ _ _ _ _ e).2 h1)
   exact Or.inr ((Ed _ _ _ _ _ e).2 h1)
  ·show ¬((dD S.T i z (S.D.cnt z) (s.extract 0 16)).az j=(dD S.T i z (S.D.cnt z) (s.extract 0 16)).az k∧(dD S.T i z (S.D.cnt z) (s.extract 0 16)).off j=(dD S.T i z (S.D.cnt z) (s.extract 0 16)).off k)
   by_cases ej:j=i
   ·subst ej;have ek:k≠j:=fun e=>hjk e.symm
    obtain⟨a',b',_⟩:=jD S.T j z (S.D.cnt z) (s.extract 0 16) ek;rw[a,b,a',b'];exact fun e=>hfree k hk ek (fun q=>hnk ((gp _ _ _ _ _ ek).2 q)) ⟨e.1.symm,e.2.symm⟩
   obtain⟨aj,bj,_⟩:=jD S.T i z (S.D.cnt z) (s.extract 0 16) ej;by_cases ek:k=i
   ·subst ek;rw[a,b,aj,bj];exact hfree j hj ej (fun q=>Ec ((gp _ _ _ _ _ ej).2 q))
   obtain⟨a',b',_⟩:=jD S.T i z (S.D.cnt z) (s.extract 0 16) ek;rw[aj,bj,a',b'];exact h.VG j k hj hk hjk (fun q=>Ec ((gp _ _ _ _ _ ej).2 q)) (fun q=>hnk ((gp _ _ _ _ _ ek).2 q))
  ·show (dD S.T i z (S.D.cnt z) (s.extract 0 16)).off j<((S.D.ai.app z s).cnt ((dD S.T i z (S.D.cnt z) (s.extract 0 16)).az j).toNat:Int)
   by_cases ej:j=i
   ·subst ej;rw[a,b,Int.toNat_natCast,hcnt,if_pos rfl];omega
   obtain⟨aj,bj,_⟩:=jD S.T i z (S.D.cnt z) (s.extract 0 16) ej;rw[aj,bj];have h1:=h.at_ j hj (fun q=>Ec ((gp _ _ _ _ _ ej).2 q));have h2:=hge (S.T.az j).toNat;omega
  show (S.D.ai.ws).length≤1
  rw[lK];exact h.ws
theorem gq (D:Dv):D.synced.cnt=D.cnt:=rfl
theorem Vs.ok.flush {S:Vs}{n:Int}(h:S.ok n)(kt:ByteArray):(S.flush kt).2.ok (n+1):=by
 have h':=h.le (m:=n+1) (by omega);unfold Vs.flush Vs.tell;by_cases hd:S.dead=true
 ·rw[if_pos hd];exact h'
 rw[if_neg hd];by_cases hm:S.D.may=false
 ·rw[if_pos hm];exact h'.kill true
 rw[if_neg hm];by_cases h1:S.D.ai.synced.may=false
 ·simp only[if_pos h1];rw[if_neg (by decide)];exact((h'.dev S.D.ai.synced (by rw[gq,bF]) (by show ([]:List (Nat × ByteArray)).length≤1;decide))).kill true
 simp only[if_neg h1];by_cases h2:(S.D.ai.synced.ai.wrote (S.next.count % 2).toNat (Tw.text kt S.next)).may=false
 ·simp only[if_pos h2];rw[if_neg (by decide)];refine((h'.dev (S.D.ai.synced.ai.wrote (S.next.count % 2).toNat (Tw.text kt S.next)) ?_ ?_)).kill true
  ·show S.D.ai.synced.ai.cnt=S.D.cnt
   rw[bF,gq,bF]
  show (S.D.ai.synced.ai.ws++[_]).length≤1
  rw[lK];show ([]++[_]).length≤1
  simp
 simp only[if_neg h2];rw[if_pos trivial];have hcnt:(S.D.ai.synced.ai.wrote (S.next.count % 2).toNat (Tw.text kt S.next)).ai.synced.cnt=S.D.cnt:=by
  rw[gq,bF];show S.D.ai.synced.ai.cnt=S.D.cnt
  rw[bF,gq,bF]
 refine⟨rfl,?_,?_,h.may,h.VG,fun i hi hn=>?_,h.txt,by show ([]:List (Nat × ByteArray)).length≤1;decide⟩
 ·show 0≤S.T.count+1
  have:=h.cnt;have:=h.c0;omega
 ·show S.T.count+1≤n+1
  have:=h.cnt;have:=h.cn;omega
 have:=h.at_ i hi hn;show S.T.off i<((S.D.ai.synced.ai.wrote (S.next.count % 2).toNat (Tw.text kt S.next)).ai.synced.cnt (S.T.az i).toNat:Int)
 rw[hcnt];exact this
theorem WT (S:Vs)(kt:ByteArray):(S.flush kt).2.T.az=S.T.az∧(S.flush kt).2.T.off=S.T.off∧(S.flush kt).2.T.tag=S.T.tag∧(S.flush kt).2.X=S.X∧(S.flush kt).2.D.cnt=S.D.cnt:=by
 unfold Vs.flush Vs.tell;by_cases hd:S.dead=true
 ·rw[if_pos hd];exact⟨rfl,rfl,rfl,rfl,rfl⟩
 rw[if_neg hd];by_cases hm:S.D.may=false
 ·rw[if_pos hm];exact⟨rfl,rfl,rfl,rfl,rfl⟩
 rw[if_neg hm];by_cases h1:S.D.ai.synced.may=false
 ·simp only[if_pos h1];rw[if_neg (by decide)];exact⟨rfl,rfl,rfl,rfl,by show S.D.ai.synced.cnt=S.D.cnt;rw[gq,bF]⟩
 simp only[if_neg h1];by_cases h2:(S.D.ai.synced.ai.wrote (S.next.count % 2).toNat (Tw.text kt S.next)).may=false
 ·simp only[if_pos h2];rw[if_neg (by decide)];exact⟨rfl,rfl,rfl,rfl,by show S.D.ai.synced.ai.cnt=S.D.cnt;rw[bF,gq,bF]⟩
 simp only[if_neg h2];rw[if_pos trivial];exact⟨rfl,rfl,rfl,rfl,by
  rw[gq,bF];show S.D.ai.synced.ai.cnt=S.D.cnt
  rw[bF,gq,bF]⟩
theorem lQ (kb:ByteArray)(z:Int)(S:Vs):S.moves kb z []=(0,S):=by unfold Vs.moves;rfl
theorem kG (kb:ByteArray)(z:Int)(i:Nat)(r:List Nat)(S:Vs):S.moves kb z (i::r)=if (S.put kb i z (S.X i)).1=0 then (S.put kb i z (S.X i)).2.moves kb z r else S.put kb i z (S.X i):=by
 show Vs.moves kb z (i::r) S=_
 rw[Vs.moves]
theorem Vs.ok.moves {n:Int}(kb:ByteArray)(z:Int):∀(l:List Nat) (S:Vs),S.ok n→(∀i ∈ l,i<24)→(S.moves kb z l).2.ok n
 | [],S,h,_=>by rw[lQ];exact h
 | i::r,S,h,hl=>by
  rw[kG];have hp:=h.put kb i (hl i (by simp)) z (S.X i) (h.txt i);split
  ·exact Vs.ok.moves kb z r _ hp (fun j hj=>hl j (by simp[hj]))
  exact hp
theorem ZW {S:Vs}{kb:ByteArray}{i:Nat}{but:Int}{t:ByteArray}(h:(S.put kb i but t).1=0):∃z:Nat,room S.uf but=some z∧S.D.may=true∧S.put kb i but t=(0,{ S with D:=S.D.ai.app z (Sl.bL kb i t),T:=dD S.T i z (S.D.cnt z) ((Sl.bL kb i t).extract 0 16),X:=lN S.X i t }):=by
 unfold Vs.put at h ⊢;cases hr:room S.uf but with
 | none=>rw[hr] at h;exact absurd (show (12:Int)=0 from h) (by decide)
 | some z=>
  rw[hr] at h;dsimp only at h ⊢;by_cases hm:S.D.may=false
  ·rw[if_pos hm] at h;exact absurd (show (14:Int)=0 from h) (by decide)
  rw[if_neg hm];exact⟨z,rfl,by simpa using hm,rfl⟩
theorem zY (kb:ByteArray)(z:Nat):∀(l:List Nat) (S:Vs),(S.moves kb z l).1=0→(∀i ∈ l,i<24)→(∀i,i<24→¬ig S.T i→S.T.az i=z→i ∈ l)→∀i,i<24→¬ig (S.moves kb z l).2.T i→(S.moves kb z l).2.T.az i≠z
 | [],S,h0,_,h,i,hi,hn=>by
  rw[lQ] at hn ⊢;intro e;have:=h i hi hn e;simp at this
 | i::r,S,h0,hl,h,j,hj,hn=>by
  rw[kG] at h0 hn ⊢;by_cases hp:(S.put kb i z (S.X i)).1=0
  ·rw[if_pos hp] at h0 hn ⊢;refine zY kb z r _ h0 (fun k hk=>hl k (by simp[hk])) (fun k hk hnk ek=>?_) j hj hn;obtain⟨y,hy,_,he⟩:=ZW hp;obtain⟨_,hyz,_⟩:=jh hy;rw[he] at hnk ek;by_cases e:k=i
   ·subst e;exact absurd ((rV S.T k y (S.D.cnt y) _).1.symm.trans ek) hyz
   have h1:=h k hk (fun q=>hnk ((gp _ _ _ _ _ e).2 q)) ((jD S.T i y (S.D.cnt y) _ e).1.symm.trans ek);rcases List.mem_cons.1 h1 with h2 | h2
   ·exact absurd h2 e
   exact h2
  rw[if_neg hp] at h0;exact absurd h0 hp
theorem rW {T:Tb}{z:Int}{i:Nat}:i ∈ Sp.eX T z 24↔i<24∧T.tag i≠⟨#[]⟩∧T.az i=z:=by
 unfold Sp.eX Sp.lies;simp[List.mem_filter]
theorem MH {T:Tb}{i:Nat}(h:ig T i∨may T i):T.tag i=⟨#[]⟩↔ig T i:=by
 constructor
 ·intro e;rcases h with h | h
  ·exact h
  have:=h.1;rw[e] at this;exact absurd this (by decide)
 exact fun h=>h.2.2
theorem Vs.ok.au {S:Vs}{n:Int}(h:S.ok n)(kb kt:ByteArray):(S.au kb kt).2.ok (n+1):=by
 have h':=h.le (m:=n+1) (by omega);unfold Vs.au;by_cases hd:S.dead=true
 ·rw[if_pos hd];exact h'
 rw[if_neg hd];cases hv:oC S.uf S.live 8 with
 | none=>exact h'
 | some z=>
  dsimp only;have hl:∀i ∈ Sp.eX S.T (z:Int) 24,i<24:=fun i hi=>(rW.1 hi).1
  have hmv:=Vs.ok.moves kb z (Sp.eX S.T (z:Int) 24) S h hl;by_cases h0:(S.moves kb z (Sp.eX S.T (z:Int) 24)).1=0
  ·rw[if_neg (by rw[h0];decide)];have hout:=zY kb z (Sp.eX S.T (z:Int) 24) S h0 hl (fun i hi hn e=>rW.2 ⟨hi,fun q=>hn ((MH (h.may i hi)).1 q),e⟩);generalize (S.moves kb z (Sp.eX S.T (z:Int) 24)).2=S1 at *;have hf:=hmv.flush kt;obtain⟨f1,f2,f3,f4,f5⟩:=WT S1 kt;by_cases h1:(S1.flush kt).1=0
   ·rw[if_neg (by rw[h1];decide)];generalize (S1.flush kt).2=S2 at *;by_cases h2:S2.D.may=false
    ·rw[if_pos h2];exact hf.kill true
    rw[if_neg h2];refine⟨hf.cnt,hf.c0,hf.cn,hf.may,hf.VG,fun i hi hn=>?_,hf.txt,?_⟩
    ·have h3:=hf.at_ i hi hn;have h4:¬ig S1.T i:=fun q=>hn ⟨by rw[f1];exact q.1,by rw[f2];exact q.2.1,by rw[f3];exact q.2.2⟩
     have h5:=hout i hi h4;have h6:0≤S2.T.az i:=by
      rcases hf.may i hi with h7 | h7
      ·exact absurd h7 hn
      exact h7.2.1
     show S2.T.off i<((if (S2.T.az i).toNat=z then 0 else S2.D.ai.cnt (S2.T.az i).toNat:Nat):Int)
     rw[if_neg (by rw[f1] at h6 ⊢;omega),bF];exact h3
    show S2.D.ai.ws.length≤1
    rw[lK];exact hf.ws
   rw[if_pos h1];exact hf
  rw[if_pos h0];exact hmv.le (by omega)
theorem Vs.ok.write {S:Vs}{n:Int}(h:S.ok n)(kb kt:ByteArray)(i:Int)(t:ByteArray):(S.write kb kt i t).2.ok (n+1):=by
 have h':=h.le (m:=n+1) (by omega);unfold Vs.write;split
 ·exact h'
 split
 ·exact h'
 rename_i hi
 split
 ·exact h'
 rename_i ht
 split
 ·exact h'
 split
 ·exact h'.clear _
 split
 ·split
  ·exact h.au kb kt
  exact(h.au kb kt).put kb i.toNat (by omega) (-1) t (by omega)
 exact h'.put kb i.toNat (by omega) (-1) t (by omega)
theorem Ee (D:Dv)(hw:D.ws.length≤1):(fresh D 0).ok 0 where
 cnt:=rfl
 c0:=by show (0:Int)≤0;omega
 cn:=by show (0:Int)≤0;omega
 may i hi:=Or.inl ⟨rfl,rfl,rfl⟩
 VG i j hi hj hij hn:=absurd ⟨rfl,rfl,rfl⟩ hn
 at_ i hi hn:=absurd ⟨rfl,rfl,rfl⟩ hn
 txt i:=by show 0≤80;omega
 ws:=hw
theorem textOf_size (kb s:ByteArray):(Sl.textOf kb s).size≤80:=by
 unfold Sl.textOf Sl.Da;rw[ByteArray.size_extract];omega
theorem OH (kb:ByteArray)(D:Dv)(T:Tb)(k i:Nat):(aM kb D T k i).size≤80:=by
 unfold aM;split
 ·split
  ·show 0≤80;omega
  exact textOf_size _ _
 show 0≤80;omega
theorem zZ (kb kt:ByteArray)(D:Dv)(n:Int)(hw:D.ws.length≤1)(hn:0≤n)(h:whole kb kt D n):(opened kb D n n).ok n:=by
 obtain⟨⟨_,h2,_,h4⟩,h5⟩:=h;obtain⟨hm,hd⟩:=WS ((Tw.mF _).1 h2).2;refine⟨h4,hn,Int.le_refl _,hm,hd,fun i hi hni=>?_,fun i=>OH _ _ _ _ _,hw⟩;rcases h5 i hi with h6 | h6
 ·exact absurd ((MH (hm i hi)).1 h6) hni
 exact h6.1.2.2.2
end Vl
end
section
namespace Vl
open Go.RowKit
open Tw (Tb ig may)
def tot (D:Dv):Nat:=D.cnt 0+D.cnt 1+D.cnt 2+D.cnt 3+D.cnt 4+D.cnt 5+D.cnt 6+D.cnt 7
def c16 (D:Dv):Prop:=∀z,z<8→D.cnt z≤16
structure Vs.on (S:Vs):Prop where
 dead:S.dead=false
 fused:S.D.fused=false
 c16:c16 S.D
end Vl
end
section
namespace Vl
open Go.RowKit
open Tw (Tb ig may Same Rt)
def At (kb:ByteArray)(D:Dv)(lim:Nat→Nat)(T:Tb)(X:Nat→ByteArray)(i:Nat):Prop:=
 (ig T i∧X i=⟨#[]⟩)∨(may T i∧T.off i<(lim (T.az i).toNat:Int)∧T.tag i=(Sl.bL kb i (X i)).extract 0 16∧∀j,j<128→D.blk (T.az i).toNat (T.off i).toNat j=sb (Sl.bL kb i (X i)) j)
def Lie (kb:ByteArray)(D:Dv)(lim:Nat→Nat)(T:Tb)(X:Nat→ByteArray):Prop:=∀i,i<24→At kb D lim T X i
theorem rX {n:Nat}{f:Nat→UInt8}{s:ByteArray}(h:∀j,j<n→f j=sb s j)(a b:Nat)(hb:b≤s.size)(hn:b≤n):(txt n f).extract a b=s.extract a b:=by
 apply Tw.wZ
 ·rw[Tw.om _ _ _ (by rw[bG];exact hn),Tw.om _ _ _ hb]
 intro j hj;rw[Tw.om _ _ _ (by rw[bG];exact hn)] at hj;rw[Tw.kD _ _ _ j (by omega) (by rw[bG];exact hn),Tw.kD _ _ _ j (by omega) hb,ma _ _ _ (by omega),h _ (by omega)]
theorem At.there {kb:ByteArray}{D:Dv}{T:Tb}{X:Nat→ByteArray}{i:Nat}(h:At kb D D.cnt T X i):there kb D T i:=by
 rcases h with⟨hn,_⟩ | ⟨hm,ho,ht,hb⟩
 ·exact Or.inl hn.2.2
 refine Or.inr ⟨⟨hm.2.1,hm.2.2.1,hm.2.2.2.1,ho⟩,?_,?_⟩
 ·unfold gm Sl.kT;rw[rX hb 0 16 (by rw[Sl.iH];omega) (by omega),rX hb 16 109 (by rw[Sl.iH];omega) (by omega),Sl.Dm,Sl.zP]
 unfold gm;rw[rX hb 0 16 (by rw[Sl.iH];omega) (by omega),ht]
theorem At.says {kb:ByteArray}{D:Dv}{T:Tb}{X:Nat→ByteArray}{i:Nat}(h:At kb D D.cnt T X i)(hi:i<24)(hx:(X i).size≤80):aM kb D T 24 i=X i:=by
 unfold aM;rw[if_pos hi];rcases h with⟨hn,h0⟩ | ⟨hm,ho,ht,hb⟩
 ·rw[if_pos hn.2.2,h0]
 have h16:=hm.1;rw[if_neg (fun e=>by rw[e] at h16;exact absurd h16 (by decide))];unfold gm Sl.textOf;rw[rX hb 16 28 (by rw[Sl.iH];omega) (by omega),rX hb 28 109 (by rw[Sl.iH];omega) (by omega)];exact(Sl.NR kb i (X i) hx).2
theorem At.same {kb:ByteArray}{D:Dv}{lim:Nat→Nat}{T U:Tb}{X:Nat→ByteArray}{i:Nat}(h:At kb D lim T X i)(hs:Same T U)(hi:i<24):At kb D lim U X i:=by
 obtain⟨a,b,c⟩:=hs.2 i hi;unfold At Tw.ig Tw.may at *;rw[←a,←b,←c];exact h
def Slot (kt:ByteArray)(f:Nat→UInt8)(U:Tb):Prop:=∀j,j<500→f j=sb (Tw.text kt U) j
theorem Slot.is {kt:ByteArray}{f:Nat→UInt8}{U:Tb}(hr:Rt U)(h:Slot kt f U):txt 500 f=Tw.text kt U++txt 44 (fun _=>0):=by
 have hz:=Tw.gG (key:=kt) hr.2;apply Tw.wZ
 ·rw[bG,ByteArray.size_append,hz,bG]
 intro j hj;rw[bG] at hj;rw[ma _ _ _ hj,h j hj];by_cases h1:j<456
 ·rw[Tw.ol _ _ _ (by rw[hz];exact h1)]
 rw[show j=456+(j-456) by omega,Tw.mJ _ _ 456 _ hz,ma _ _ _ (by omega)];exact kS _ _ (by rw[hz];omega)
theorem Slot.rd {kt:ByteArray}{f:Nat→UInt8}{U:Tb}(hr:Rt U)(h:Slot kt f U):Same (Tw.rd (txt 500 f)) U:=by
 rw[h.is hr];exact Tw.Wl kt U _ hr
theorem Su {kt:ByteArray}{D:Dv}{U:Tb}{n:Int}(hr:Rt U)(h:Slot kt (D.aL (n % 2).toNat (fun _=>true)) U)(hc:U.count=n):Eb kt D n:=by
 have hz:=Tw.gG (key:=kt) hr.2;have hs:=h.rd hr;have ht:=h.is hr;unfold Eb aX;refine⟨fun j h1 h2=>?_,(Tw.mF _).2 (hs.symm.rt hr),?_,hs.1.trans hc⟩
 ·rw[bG] at h2;rw[ma _ _ _ h2,h j h2];exact kS _ _ (by rw[hz];exact h1)
 rw[hs.text kt,ht,Sl.wY _ _ 456 hz]
theorem Sv {kb kt:ByteArray}{D:Dv}{U:Tb}{X:Nat→ByteArray}{n:Int}(hr:Rt U)(h:Slot kt (D.aL (n % 2).toNat (fun _=>true)) U)(hc:U.count=n)(hl:Lie kb D D.cnt U X)(hx:∀i,(X i).size≤80) :
  whole kb kt D n∧Same (dz D n) U∧∀i,i<24→aM kb D (dz D n) 24 i=X i:=by
 have hs:Same (dz D n) U:=h.rd hr;exact⟨⟨Su hr h hc,fun i hi=>((hl i hi).same hs.symm hi).there⟩,hs,fun i hi=>((hl i hi).same hs.symm hi).says hi (hx i)⟩
def low (D:Dv)(c:Int):Prop:=∀k,k<2→(Tw.rd (txt 500 (D.aL k (fun _=>true)))).count≤c
theorem low.not {kb kt:ByteArray}{D:Dv}{c n:Int}(h:low D c)(hn:c<n):¬whole kb kt D n:=fun e=>by
 have h1:=h (n % 2).toNat (by omega);have h2:=e.1.2.2.2;unfold aX at h2;omega
theorem WU:(Tw.rd (txt 500 (fun _=>0))).count=0:=by kernel_rfl
theorem Ef (c:Int)(hc:0≤c):low sW c:=fun k hk=>by
 have e:sW.aL k (fun _=>true)=fun _=>0:=rfl
 rw[e,WU];exact hc
structure Good (kb kt:ByteArray)(S:Vs)(n:Int):Prop where
 on:S.on
 ok:S.ok n
 lie:Lie kb S.D S.D.cnt S.T S.X
 low:low S.D S.c
def Told (kb kt:ByteArray)(D:Dv)(c:Int)(T:Tb)(X:Nat→ByteArray):Prop:=
 (c=0∧(∀i,i<24→X i=⟨#[]⟩))∨(c≠0∧Rt T∧T.count=c∧Slot kt (D.aL (c % 2).toNat (fun _=>true)) T∧Lie kb D D.cnt T X∧∀i,(X i).size≤80)
theorem Aa {kb kt:ByteArray}{D:Dv}{c r:Int}{T:Tb}{X:Nat→ByteArray}{S:Vs}(ht:Told kb kt D c T X)(hl:low D c)(h:Ja kb kt D c r S):r=0∧S.D=D∧S.c=c∧S.dead=false∧(c=0→S=fresh D c)∧(c≠0→Same S.T T∧whole kb kt D c∧S=opened kb D c c)∧∀i,i<24→S.X i=X i:=by
 have hnot:¬whole kb kt D (c+1):=hl.not (by omega);rcases ht with⟨h0,hx⟩ | ⟨h0,hr,hc,hs,hli,hx⟩
 ·rcases h with h | h | h | h
  ·exact absurd h.1 hnot
  ·obtain⟨_,_,rfl,rfl⟩:=h;exact⟨rfl,rfl,rfl,rfl,fun _=>rfl,fun e=>absurd h0 e,fun i hi=>(hx i hi).symm⟩
  ·exact absurd h0 h.2.1
  exact absurd h0 h.2.1
 obtain⟨hw,hsame,a7i⟩:=Sv hr hs hc hli hx;rcases h with h | h | h | h
 ·exact absurd h.1 hnot
 ·exact absurd h.2.1 h0
 ·obtain⟨_,_,_,rfl,rfl⟩:=h;exact⟨rfl,rfl,rfl,rfl,fun e=>absurd e h0,fun _=>⟨hsame,hw,rfl⟩,a7i⟩
 exact absurd hw h.2.2.1
end Vl
end
section
namespace Vl
open Go.RowKit
open Tw (Tb ig may Same Rt)
def shape (D:Dv)(m:Nat):Prop:=∀z,z<8→D.cnt z=min 16 (m-16*z)
def five (D:Dv):Prop:=∃v:Nat,∀y,y<6→y≠v→D.cnt y=16
def Ph (S:Vs)(k:Nat):Prop:=(∃m,m≤k∧m≤108∧shape S.D m)∨(five S.D∧tot S.D+12≤k)∨tot S.D+24≤k
theorem mV (T:Tb)(z:Int):(Sp.eX T z 24).length≤24:=by
 unfold Sp.eX;refine Nat.le_trans (List.length_filter_le _ _) ?_;simp
theorem Jc (kb kt:ByteArray):Good kb kt (fresh sW 0) 0∧Ph (fresh sW 0) 0∧Told kb kt sW 0 Tb.zero (fun _=>⟨#[]⟩):=by
 refine⟨⟨⟨rfl,rfl,fun z hz=>by show 0≤16;omega⟩,Ee sW (by show 0≤1;omega),fun i hi=>Or.inl ⟨⟨rfl,rfl,rfl⟩,rfl⟩,Ef 0 (by omega)⟩,Or.inl ⟨0,by omega,by omega,fun z hz=>?_⟩,Or.inl ⟨rfl,fun _ _=>rfl⟩⟩;show 0=min 16 (0-16*z)
 omega
end Vl
end
end Go.Proofs.YtlgbfkcpdelcbaaGreatDoor
