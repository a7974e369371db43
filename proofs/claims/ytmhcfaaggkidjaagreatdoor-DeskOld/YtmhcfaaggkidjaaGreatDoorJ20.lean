import Derived.Test.YtmhcfaaggkidjaaGreatDoorJ13
import Derived.Test.YtmhcfaaggkidjaaGreatDoorJ17
import Derived.Test.YtmhcfaaggkidjaaGreatDoorJ19
set_option linter.unusedSimpArgs false
set_option linter.unusedVariables false
section
namespace Go.Proofs.YtmhcfaaggkidjaaGreatDoor
namespace Vl
open Go.RowKit
open Tw (Tb)
structure Vs where
 D:Dv
 c:Int
 T:Tb
 X:Nat→ByteArray
 dead:Bool
def Vs.kI (S:Vs):Nat→Int:=fun z=>(S.D.cnt z:Int)
def Vs.free (S:Vs):Int:=Sp.iB S.kI 8
def room (f:Nat→Int) (but:Int):Option Nat:=(List.range 8).find? (fun i=>decide ((i:Int)≠but)&&decide (f i<16))
def dP (f g:Nat→Int):Nat→Option Nat
 | 0=>none
 | k+1=>if 16≤f k then (match dP f g k with | none=>some k | some v=>if g k<g v then some k else some v) else dP f g k
def dz (T:Tb) (i:Nat) (z o:Int) (t:ByteArray):Tb:=
 { T with aB:=fun j=>if j=i then z else T.aB j,off:=fun j=>if j=i then o else T.off j,tag:=fun j=>if j=i then t else T.tag j }
def fq (X:Nat→ByteArray) (i:Nat) (t:ByteArray):Nat→ByteArray:=fun j=>if j=i then t else X j
def Vs.set (S:Vs) (i:Nat) (z o:Int) (t x:ByteArray):Vs:={ S with T:=dz S.T i z o t,X:=fq S.X i x }
def Vs.put (kb:ByteArray) (S:Vs) (i:Nat) (but:Int) (t:ByteArray):Int × Vs:=
 match room S.kI but with
 | none=>(12,S)
 | some z=>if S.D.may=false then (14,{ S with dead:=true }) else
  (0,{ S with D:=S.D.au.app z (Sl.aS kb i t),T:=dz S.T i z (S.D.cnt z) ((Sl.aS kb i t).extract 0 16),X:=fq S.X i t })
def Vs.next (S:Vs):Tb:={ S.T with count:=S.T.count+1 }
def Vs.tell (kt:ByteArray) (S:Vs) (U:Tb):Int × Vs:=
 if S.D.may=false then (14,{ S with dead:=true }) else
  if (S.D.au.wrote (U.count % 2).toNat (Tw.text kt U)).may=false then (14,{ S with D:=S.D.au.wrote (U.count % 2).toNat (Tw.text kt U),dead:=true }) else
   (0,{ S with D:=(S.D.au.wrote (U.count % 2).toNat (Tw.text kt U)).au.synced,c:=U.count })
def Vs.flush (kt:ByteArray) (S:Vs):Int × Vs:=
 if S.dead then (6,S) else if S.D.may=false then (14,{ S with dead:=true }) else
  if (({ S with D:=S.D.au.synced }:Vs).tell kt S.next).1=0 then (0,{ (({ S with D:=S.D.au.synced }:Vs).tell kt S.next).2 with T:=S.next }) else ({ S with D:=S.D.au.synced }:Vs).tell kt S.next
def Vs.moves (kb:ByteArray) (z:Int):List Nat→Vs→Int × Vs
 | [],S=>(0,S)
 | i::r,S=>if (S.put kb i z (S.X i)).1=0 then Vs.moves kb z r (S.put kb i z (S.X i)).2 else S.put kb i z (S.X i)
def Vs.live (S:Vs):Nat→Int:=fun z=>((Sp.bM S.T (z:Int) 24).length:Int)
def Vs.ae (kb kt:ByteArray) (S:Vs):(Int × Bool × Int) × Vs:=
 if S.dead then ((0,false,6),S) else
  match dP S.kI S.live 8 with
  | none=>((0,false,0),S)
  | some z=>
   let l:=Sp.bM S.T (z:Int) 24
   let r:=S.moves kb z l
   if r.1≠0 then ((0,false,r.1),r.2) else
    let f:=r.2.flush kt
    if f.1≠0 then ((0,false,f.1),f.2) else
     if f.2.D.may=false then ((0,false,14),{ f.2 with dead:=true }) else
      ((l.length,true,0),{ f.2 with D:=f.2.D.au.reset z })
def Vs.write (kb kt:ByteArray) (S:Vs) (i:Int) (t:ByteArray):Int × Vs:=
 if S.dead then (6,S) else if ¬(0≤i∧i<24) then (2,S) else if 80<t.size then (4,S) else if t=S.X i.toNat then (0,S) else
  if t=⟨#[]⟩ then (0,S.set i.toNat 0 0 ⟨#[]⟩ ⟨#[]⟩) else
   if S.free≤20 then
    (if (S.ae kb kt).1.2.2≠0 then ((S.ae kb kt).1.2.2,(S.ae kb kt).2) else (S.ae kb kt).2.put kb i.toNat (-1) t)
   else S.put kb i.toNat (-1) t
def Vs.read (S:Vs) (i:Int):ByteArray × Int:=if ¬(0≤i∧i<24) then (⟨#[]⟩,2) else (S.X i.toNat,0)
def ja (D:Dv) (z o:Int):ByteArray:=txt 128 (D.blk z.toNat o.toNat)
def there (kb:ByteArray) (D:Dv) (T:Tb) (i:Nat):Prop:=
 T.tag i=⟨#[]⟩∨((0≤T.aB i∧T.aB i<8∧0≤T.off i∧T.off i<D.cnt (T.aB i).toNat)∧(ja D (T.aB i) (T.off i)).extract 0 16=Sl.mX kb i (ja D (T.aB i) (T.off i))∧(ja D (T.aB i) (T.off i)).extract 0 16=T.tag i)
def aI (kb:ByteArray) (D:Dv) (T:Tb) (k:Nat):Nat→ByteArray:=fun i=>if i<k then (if T.tag i=⟨#[]⟩ then ⟨#[]⟩ else Sl.textOf kb (ja D (T.aB i) (T.off i))) else ⟨#[]⟩
def bH (D:Dv) (n:Int):ByteArray:=txt 500 (D.aJ (n % 2).toNat (fun _=>true))
def JA (kt:ByteArray) (D:Dv) (n:Int):Prop:=Tw.zD (bH D n)∧Tw.FP (Tw.rd (bH D n))=true∧Tw.text kt (Tw.rd (bH D n))=(bH D n).extract 0 456∧(Tw.rd (bH D n)).count=n
def whole (kb kt:ByteArray) (D:Dv) (n:Int):Prop:=JA kt D n∧∀i,i<24→there kb D (Tw.rd (bH D n)) i
def dh (D:Dv) (n:Int):Tb:=Tw.rd (bH D n)
def opened (kb:ByteArray) (D:Dv) (n c:Int):Vs:={ D:=D,c:=c,T:=dh D n,X:=aI kb D (dh D n) 24,dead:=false }
def fresh (D:Dv) (c:Int):Vs:={ D:=D,c:=c,T:=Tb.zero,X:=fun _=>⟨#[]⟩,dead:=false }
def Br (kb kt:ByteArray) (D:Dv) (c r:Int) (S:Vs):Prop:=
 (whole kb kt D (c+1)∧r=0∧S=opened kb D (c+1) (c+1))∨(¬whole kb kt D (c+1)∧c=0∧r=0∧S=fresh D c)∨(¬whole kb kt D (c+1)∧c≠0∧whole kb kt D c∧r=0∧S=opened kb D c c)∨(¬whole kb kt D (c+1)∧c≠0∧¬whole kb kt D c∧r=15∧S=fresh D c)
end Vl
end Go.Proofs.YtmhcfaaggkidjaaGreatDoor
end
section
namespace Go.Proofs.YtmhcfaaggkidjaaGreatDoor
namespace Vl
open Go.RowKit
open Tw (Tb)
open Sp (nu ru cz)
theorem jk {f:Nat→Int} {but:Int} {z:Nat} (h:room f but=some z):z<8∧(z:Int)≠but∧f z<16:=by
 unfold room at h;have h1:=List.find?_some h;have h2:=List.mem_of_find?_eq_some h;simp only[Bool.and_eq_true,decide_eq_true_eq] at h1;exact⟨List.mem_range.1 h2,h1.1,h1.2⟩
theorem zR {f:Nat→Int} {but:Int} (h:room f but=none) (z:Nat) (hz:z<8):(z:Int)=but∨16≤f z:=by
 unfold room at h;have h1:=List.find?_eq_none.1 h z (List.mem_range.2 hz);simp only[Bool.and_eq_true,decide_eq_true_eq] at h1;by_cases e:(z:Int)=but
 ·exact Or.inl e
 by_cases e2:16≤f z
 ·exact Or.inr e2
 exact absurd ⟨e,by omega⟩ h1
theorem xh {f:Nat→Int} {but:Int} {z:Nat} (h:room f but=some z) (j:Nat) (hj:j<z):(j:Int)=but∨16≤f j:=by
 obtain⟨h8,_,_⟩:=jk h;unfold room at h;obtain⟨_,ls,bs,he,hn⟩:=List.find?_eq_some_iff_append.1 h;have hlen:ls.length=z:=by
  have h1:(List.range 8)[ls.length]?=some z:=by rw[he];simp
  rw[List.getElem?_range (by
   have:=congrArg List.length he;simp at this;omega)] at h1
  simpa using h1
 have hm:j ∈ ls:=by
  have h1:(List.range 8)[j]?=some j:=by rw[List.getElem?_range (by omega)]
  rw[he,List.getElem?_append_left (by omega)] at h1;exact List.mem_of_getElem? h1
 have:=hn j hm;simp only[Bool.not_eq_true',Bool.and_eq_false_iff,decide_eq_false_iff_not] at this;rcases this with h1 | h1
 ·exact Or.inl (Decidable.not_not.1 h1)
 exact Or.inr (by omega)
theorem TH (f:Nat→Int) (but:Int):(∃z,room f but=some z∧nu 8 f but z true)∨(room f but=none∧nu 8 f but 0 false):=by
 cases h:room f but with
 | none=>exact Or.inr ⟨rfl,Or.inr ⟨rfl,rfl,fun j hj=>zR h j hj⟩⟩
 | some z=>
  obtain⟨h1,h2,h3⟩:=jk h;exact Or.inl ⟨z,rfl,Or.inl ⟨rfl,z,h1,rfl,h2,h3,fun j hj=>xh h j hj⟩⟩
theorem TI {f:Nat→Int} {but z:Int} {ok:Bool} (h:nu 8 f but z ok):(ok=true∧∃k:Nat,z=k∧room f but=some k)∨(ok=false∧z=0∧room f but=none):=by
 rcases TH f but with⟨k,h1,h2⟩ | ⟨h1,h2⟩
 ·obtain⟨rfl,rfl⟩:=h.one h2;exact Or.inl ⟨rfl,k,rfl,h1⟩
 obtain⟨rfl,rfl⟩:=h.one h2;exact Or.inr ⟨rfl,rfl,h1⟩
theorem ny (f g:Nat→Int):∀k,(∃v:Nat,dP f g k=some v∧cz f g k v true)∨(dP f g k=none∧cz f g k 0 false)
 | 0=>Or.inr ⟨rfl,cz.zero f g⟩
 | k+1=>by
  unfold dP;by_cases hk:16≤f k
  ·rw[if_pos hk];rcases ny f g k with⟨v,h1,h2⟩ | ⟨h1,h2⟩
   ·rw[h1];by_cases hl:g k<g v
    ·exact Or.inl ⟨k,by simp[hl],h2.take hk hl⟩
    exact Or.inl ⟨v,by simp[hl],h2.keep hl⟩
   rw[h1];exact Or.inl ⟨k,rfl,h2.first hk⟩
  rw[if_neg hk];rcases ny f g k with⟨v,h1,h2⟩ | ⟨h1,h2⟩
  ·exact Or.inl ⟨v,h1,h2.skip hk⟩
  exact Or.inr ⟨h1,h2.skip hk⟩
theorem Xr {f g:Nat→Int} {z:Int} {ok:Bool} (h:ru 8 8 f g z ok):(ok=true∧∃k:Nat,z=k∧k<8∧dP f g 8=some k)∨(ok=false∧z=0∧dP f g 8=none):=by
 rcases ny f g 8 with⟨k,h1,h2⟩ | ⟨h1,h2⟩
 ·obtain⟨v,hv,hv8⟩:=h2.lt;obtain⟨rfl,rfl⟩:=h.one (h2.is (by omega) (by omega) (by omega));exact Or.inl ⟨rfl,k,rfl,by omega,h1⟩
 obtain⟨rfl,rfl⟩:=h.one (h2.is (by omega) (by omega) (by omega));exact Or.inr ⟨rfl,rfl,h1⟩
theorem DJ {f g:Nat→Int} {k:Nat} (h:dP f g 8=some k):k<8∧16≤f k∧∀i,i<8→16≤f i→g k<g i∨(g k=g i∧k≤i):=by
 rcases ny f g 8 with⟨v,h1,h2⟩ | ⟨h1,h2⟩
 ·rw[h] at h1;cases h1
  rcases h2 with⟨_,v,hv,h3,h4,h5⟩ | ⟨h0,_⟩
  ·obtain rfl:v=k:=by omega
   exact⟨h3,h4,h5⟩
  cases h0
 rw[h] at h1;cases h1
theorem OP {f g:Nat→Int} (h:dP f g 8=none) (i:Nat) (hi:i<8):¬16≤f i:=by
 rcases ny f g 8 with⟨v,h1,h2⟩ | ⟨h1,h2⟩
 ·rw[h] at h1;cases h1
 rcases h2 with⟨h0,_⟩ | ⟨_,_,h3⟩
 ·cases h0
 exact h3 i hi
end Vl
end Go.Proofs.YtmhcfaaggkidjaaGreatDoor
end
section
namespace Go.Proofs.YtmhcfaaggkidjaaGreatDoor
namespace Vl
open Go.RowKit
open Tw (Tb gJ may)
structure Vs.ok (S:Vs) (n:Int):Prop where
 cnt:S.T.count=S.c
 c0:0≤S.c
 cn:S.c≤n
 may:∀i,i<24→gJ S.T i∨may S.T i
 Sy:∀i j,i<24→j<24→i≠j→¬gJ S.T i→¬gJ S.T j→¬(S.T.aB i=S.T.aB j∧S.T.off i=S.T.off j)
 at_:∀i,i<24→¬gJ S.T i→S.T.off i<S.D.cnt (S.T.aB i).toNat
 txt:∀i,(S.X i).size≤80
 ws:S.D.ws.length≤1
theorem Vs.ok.le {S:Vs} {n m:Int} (h:S.ok n) (hm:n≤m):S.ok m:=⟨h.cnt,h.c0,Int.le_trans h.cn hm,h.may,h.Sy,h.at_,h.txt,h.ws⟩
theorem TJ {T:Tb} (h:∀i,i<24→gJ T i∨may T i) (hd:∀i j,i<24→j<24→i≠j→¬gJ T i→¬gJ T j→¬(T.aB i=T.aB j∧T.off i=T.off j)):Tw.fine T 24:=fun i hi=>by
 by_cases hn:gJ T i
 ·exact Or.inl hn
 rcases h i hi with h1 | h1
 ·exact absurd h1 hn
 refine Or.inr ⟨h1,?_⟩;rintro ⟨j,hj,DK,e1,e2⟩;exact hd i j hi (by omega) (by omega) hn DK ⟨e1.symm,e2.symm⟩
theorem TK {T:Tb} (h:Tw.fine T 24):(∀i,i<24→gJ T i∨may T i)∧∀i j,i<24→j<24→i≠j→¬gJ T i→¬gJ T j→¬(T.aB i=T.aB j∧T.off i=T.off j):=by
 refine⟨fun i hi=>?_,fun i j hi hj hij hni DK e=>?_⟩
 ·rcases h i hi with h1 | h1
  ·exact Or.inl h1
  exact Or.inr h1.1
 rcases Nat.lt_or_ge i j with hl | hl
 ·rcases h j hj with h1 | h1
  ·exact DK h1
  exact h1.2 ⟨i,hl,hni,e.1,e.2⟩
 rcases h i hi with h1 | h1
 ·exact hni h1
 exact h1.2 ⟨j,by omega,DK,e.1.symm,e.2.symm⟩
theorem Vs.ok.next {S:Vs} {n:Int} (h:S.ok n) (hn:n<1099511627776):Tw.Rt S.next:=
 ⟨⟨by show 1≤S.T.count+1;have:=h.cnt;have:=h.c0;omega,by show S.T.count+1≤_;have:=h.cnt;have:=h.cn;omega⟩,TJ h.may h.Sy⟩
theorem Vs.ok.nc {S:Vs} {n:Int} (h:S.ok n):S.c<S.T.count+1:=by have:=h.cnt;omega
theorem Vs.ok.kill {S:Vs} {n:Int} (h:S.ok n) (b:Bool):({ S with dead:=b }:Vs).ok n:=⟨h.cnt,h.c0,h.cn,h.may,h.Sy,h.at_,h.txt,h.ws⟩
theorem Vs.ok.dev {S:Vs} {n:Int} (h:S.ok n) (D:Dv) (hc:D.cnt=S.D.cnt) (hw:D.ws.length≤1):({ S with D:=D }:Vs).ok n:=
 ⟨h.cnt,h.c0,h.cn,h.may,h.Sy,fun i hi hn=>by show S.T.off i<(D.cnt (S.T.aB i).toNat:Int);rw[hc];exact h.at_ i hi hn,h.txt,hw⟩
theorem lQ (T:Tb) (i:Nat) (z o:Int) (t:ByteArray):(dz T i z o t).aB i=z∧(dz T i z o t).off i=o∧(dz T i z o t).tag i=t:=by simp[dz]
theorem fM (T:Tb) (i:Nat) (z o:Int) (t:ByteArray) {j:Nat} (h:j≠i):(dz T i z o t).aB j=T.aB j∧(dz T i z o t).off j=T.off j∧(dz T i z o t).tag j=T.tag j:=by simp[dz,h]
theorem dI (T:Tb) (i:Nat) (z o:Int) (t:ByteArray) {j:Nat} (h:j≠i):gJ (dz T i z o t) j↔gJ T j:=by
 obtain⟨a,b,c⟩:=fM T i z o t h;unfold Tw.gJ;rw[a,b,c]
theorem rz (T:Tb) (i:Nat) (z o:Int) (t:ByteArray) {j:Nat} (h:j≠i):may (dz T i z o t) j↔may T j:=by
 obtain⟨a,b,c⟩:=fM T i z o t h;unfold Tw.may;rw[a,b,c]
theorem zS {X:Nat→ByteArray} (h:∀i,(X i).size≤80) (i:Nat) {t:ByteArray} (ht:t.size≤80) (j:Nat):(fq X i t j).size≤80:=by
 unfold fq;split
 ·exact ht
 exact h j
theorem Vs.ok.clear {S:Vs} {n:Int} (h:S.ok n) (i:Nat):(S.set i 0 0 ⟨#[]⟩ ⟨#[]⟩).ok n where
 cnt:=h.cnt
 c0:=h.c0
 cn:=h.cn
 may j hj:=by
  by_cases e:j=i
  ·subst e;obtain⟨a,b,c⟩:=lQ S.T j 0 0 ⟨#[]⟩;exact Or.inl ⟨a,b,c⟩
  rcases h.may j hj with h1 | h1
  ·exact Or.inl ((dI _ _ _ _ _ e).2 h1)
  exact Or.inr ((rz _ _ _ _ _ e).2 h1)
 Sy j k hj hk hjk DK hnk:=by
  have hi:∀m,¬gJ (dz S.T i 0 0 ⟨#[]⟩) m→m≠i:=fun m hm e=>by
   subst e;obtain⟨a,b,c⟩:=lQ S.T m 0 0 ⟨#[]⟩;exact hm ⟨a,b,c⟩
  have ej:=hi j DK;have ek:=hi k hnk;obtain⟨a,b,_⟩:=fM S.T i 0 0 ⟨#[]⟩ ej;obtain⟨a',b',_⟩:=fM S.T i 0 0 ⟨#[]⟩ ek;show ¬((dz S.T i 0 0 ⟨#[]⟩).aB j=(dz S.T i 0 0 ⟨#[]⟩).aB k∧(dz S.T i 0 0 ⟨#[]⟩).off j=(dz S.T i 0 0 ⟨#[]⟩).off k)
  rw[a,b,a',b'];exact h.Sy j k hj hk hjk (fun q=>DK ((dI _ _ _ _ _ ej).2 q)) (fun q=>hnk ((dI _ _ _ _ _ ek).2 q))
 at_ j hj DK:=by
  have ej:j≠i:=fun e=>by
   subst e;obtain⟨a,b,c⟩:=lQ S.T j 0 0 ⟨#[]⟩;exact DK ⟨a,b,c⟩
  obtain⟨a,b,_⟩:=fM S.T i 0 0 ⟨#[]⟩ ej;show (dz S.T i 0 0 ⟨#[]⟩).off j<(S.D.cnt ((dz S.T i 0 0 ⟨#[]⟩).aB j).toNat:Int)
  rw[a,b];exact h.at_ j hj (fun q=>DK ((dI _ _ _ _ _ ej).2 q))
 txt:=zS h.txt i (by show 0≤80;omega)
 ws:=h.ws
theorem Vs.ok.put {S:Vs} {n:Int} (h:S.ok n) (kb:ByteArray) (i:Nat) (hi:i<24) (but:Int) (t:ByteArray) (ht:t.size≤80):(S.put kb i but t).2.ok n:=by
 unfold Vs.put;cases hr:room S.kI but with
 | none=>exact h
 | some z=>
  obtain⟨wJ,_,KV⟩:=jk hr;dsimp only;by_cases hm:S.D.may=false
  ·rw[if_pos hm];exact h.kill true
  rw[if_neg hm];have hs:((Sl.aS kb i t).extract 0 16).size=16:=by rw[ByteArray.size_extract,Sl.gD];rfl
  generalize Sl.aS kb i t=s at *;have hcnt:∀z',(S.D.au.app z s).cnt z'=if z'=z then S.D.cnt z+1 else S.D.cnt z':=fun z'=>by
   show (if z'=z then S.D.au.cnt z+1 else S.D.au.cnt z')=_
   rw[bK]
  have hge:∀z',S.D.cnt z'≤(S.D.au.app z s).cnt z':=fun z'=>by
   rw[hcnt];split
   ·rename_i e;subst e;omega
   exact Nat.le_refl _
  have h16:S.D.cnt z<16:=by unfold Vs.kI at KV;omega
  obtain⟨a,b,c⟩:=lQ S.T i z (S.D.cnt z) (s.extract 0 16)
  -- no other cell lies there
  have hfree:∀j,j<24→j≠i→¬gJ S.T j→¬(S.T.aB j=(z:Int)∧S.T.off j=(S.D.cnt z:Int)):=fun j hj hji DK e=>by
   have:=h.at_ j hj DK;rw[e.1,Int.toNat_natCast] at this;omega
  refine⟨h.cnt,h.c0,h.cn,fun j hj=>?_,fun j k hj hk hjk DK hnk=>?_,fun j hj DK=>?_,zS h.txt i ht,?_⟩
  ·by_cases e:j=i
   ·subst e;refine Or.inr ⟨by rw[c];exact hs,?_⟩;rw[a,b];omega
   rcases h.may j hj with h1 | h1
   ·exact Or.inl ((dI _ _ _ _ _ e).2 h1)
   exact Or.inr ((rz _ _ _ _ _ e).2 h1)
  ·show ¬((dz S.T i z (S.D.cnt z) (s.extract 0 16)).aB j=(dz S.T i z (S.D.cnt z) (s.extract 0 16)).aB k∧(dz S.T i z (S.D.cnt z) (s.extract 0 16)).off j=(dz S.T i z (S.D.cnt z) (s.extract 0 16)).off k)
   by_cases ej:j=i
   ·subst ej;have ek:k≠j:=fun e=>hjk e.symm
    obtain⟨a',b',_⟩:=fM S.T j z (S.D.cnt z) (s.extract 0 16) ek;rw[a,b,a',b'];exact fun e=>hfree k hk ek (fun q=>hnk ((dI _ _ _ _ _ ek).2 q)) ⟨e.1.symm,e.2.symm⟩
   obtain⟨aj,bj,_⟩:=fM S.T i z (S.D.cnt z) (s.extract 0 16) ej;by_cases ek:k=i
   ·subst ek;rw[a,b,aj,bj];exact hfree j hj ej (fun q=>DK ((dI _ _ _ _ _ ej).2 q))
   obtain⟨a',b',_⟩:=fM S.T i z (S.D.cnt z) (s.extract 0 16) ek;rw[aj,bj,a',b'];exact h.Sy j k hj hk hjk (fun q=>DK ((dI _ _ _ _ _ ej).2 q)) (fun q=>hnk ((dI _ _ _ _ _ ek).2 q))
  ·show (dz S.T i z (S.D.cnt z) (s.extract 0 16)).off j<((S.D.au.app z s).cnt ((dz S.T i z (S.D.cnt z) (s.extract 0 16)).aB j).toNat:Int)
   by_cases ej:j=i
   ·subst ej;rw[a,b,Int.toNat_natCast,hcnt,if_pos rfl];omega
   obtain⟨aj,bj,_⟩:=fM S.T i z (S.D.cnt z) (s.extract 0 16) ej;rw[aj,bj];have h1:=h.at_ j hj (fun q=>DK ((dI _ _ _ _ _ ej).2 q));have h2:=hge (S.T.aB j).toNat;omega
  show (S.D.au.ws).length≤1
  rw[qX];exact h.ws
theorem dA (D:Dv):D.synced.cnt=D.cnt:=rfl
theorem Vs.ok.flush {S:Vs} {n:Int} (h:S.ok n) (kt:ByteArray):(S.flush kt).2.ok (n+1):=by
 have h':=h.le (m:=n+1) (by omega);unfold Vs.flush Vs.tell;by_cases hd:S.dead=true
 ·rw[if_pos hd];exact h'
 rw[if_neg hd];by_cases hm:S.D.may=false
 ·rw[if_pos hm];exact h'.kill true
 rw[if_neg hm];by_cases h1:S.D.au.synced.may=false
 ·simp only[if_pos h1];rw[if_neg (by decide)];exact((h'.dev S.D.au.synced (by rw[dA,bK]) (by show ([]:List (Nat × ByteArray)).length≤1;decide))).kill true
 simp only[if_neg h1];by_cases h2:(S.D.au.synced.au.wrote (S.next.count % 2).toNat (Tw.text kt S.next)).may=false
 ·simp only[if_pos h2];rw[if_neg (by decide)];refine((h'.dev (S.D.au.synced.au.wrote (S.next.count % 2).toNat (Tw.text kt S.next)) ?_ ?_)).kill true
  ·show S.D.au.synced.au.cnt=S.D.cnt
   rw[bK,dA,bK]
  show (S.D.au.synced.au.ws++[_]).length≤1
  rw[qX];show ([]++[_]).length≤1
  simp
 simp only[if_neg h2];rw[if_pos trivial];have hcnt:(S.D.au.synced.au.wrote (S.next.count % 2).toNat (Tw.text kt S.next)).au.synced.cnt=S.D.cnt:=by
  rw[dA,bK];show S.D.au.synced.au.cnt=S.D.cnt
  rw[bK,dA,bK]
 refine⟨rfl,?_,?_,h.may,h.Sy,fun i hi hn=>?_,h.txt,by show ([]:List (Nat × ByteArray)).length≤1;decide⟩
 ·show 0≤S.T.count+1
  have:=h.cnt;have:=h.c0;omega
 ·show S.T.count+1≤n+1
  have:=h.cnt;have:=h.cn;omega
 have:=h.at_ i hi hn;show S.T.off i<((S.D.au.synced.au.wrote (S.next.count % 2).toNat (Tw.text kt S.next)).au.synced.cnt (S.T.aB i).toNat:Int)
 rw[hcnt];exact this
theorem JB (S:Vs) (kt:ByteArray):(S.flush kt).2.T.aB=S.T.aB∧(S.flush kt).2.T.off=S.T.off∧(S.flush kt).2.T.tag=S.T.tag∧(S.flush kt).2.X=S.X∧(S.flush kt).2.D.cnt=S.D.cnt:=by
 unfold Vs.flush Vs.tell;by_cases hd:S.dead=true
 ·rw[if_pos hd];exact⟨rfl,rfl,rfl,rfl,rfl⟩
 rw[if_neg hd];by_cases hm:S.D.may=false
 ·rw[if_pos hm];exact⟨rfl,rfl,rfl,rfl,rfl⟩
 rw[if_neg hm];by_cases h1:S.D.au.synced.may=false
 ·simp only[if_pos h1];rw[if_neg (by decide)];exact⟨rfl,rfl,rfl,rfl,by show S.D.au.synced.cnt=S.D.cnt;rw[dA,bK]⟩
 simp only[if_neg h1];by_cases h2:(S.D.au.synced.au.wrote (S.next.count % 2).toNat (Tw.text kt S.next)).may=false
 ·simp only[if_pos h2];rw[if_neg (by decide)];exact⟨rfl,rfl,rfl,rfl,by show S.D.au.synced.au.cnt=S.D.cnt;rw[bK,dA,bK]⟩
 simp only[if_neg h2];rw[if_pos trivial];exact⟨rfl,rfl,rfl,rfl,by
  rw[dA,bK];show S.D.au.synced.au.cnt=S.D.cnt
  rw[bK,dA,bK]⟩
theorem kW (kb:ByteArray) (z:Int) (S:Vs):S.moves kb z []=(0,S):=by unfold Vs.moves;rfl
theorem jM (kb:ByteArray) (z:Int) (i:Nat) (r:List Nat) (S:Vs):S.moves kb z (i::r)=if (S.put kb i z (S.X i)).1=0 then (S.put kb i z (S.X i)).2.moves kb z r else S.put kb i z (S.X i):=by
 show Vs.moves kb z (i::r) S=_
 rw[Vs.moves]
theorem Vs.ok.moves {n:Int} (kb:ByteArray) (z:Int):∀(l:List Nat) (S:Vs),S.ok n→(∀i ∈ l,i<24)→(S.moves kb z l).2.ok n
 | [],S,h,_=>by rw[kW];exact h
 | i::r,S,h,hl=>by
  rw[jM];have hp:=h.put kb i (hl i (by simp)) z (S.X i) (h.txt i);split
  ·exact Vs.ok.moves kb z r _ hp (fun j hj=>hl j (by simp[hj]))
  exact hp
theorem Xt {S:Vs} {kb:ByteArray} {i:Nat} {but:Int} {t:ByteArray} (h:(S.put kb i but t).1=0):∃z:Nat,room S.kI but=some z∧S.D.may=true∧S.put kb i but t=(0,{ S with D:=S.D.au.app z (Sl.aS kb i t),T:=dz S.T i z (S.D.cnt z) ((Sl.aS kb i t).extract 0 16),X:=fq S.X i t }):=by
 unfold Vs.put at h ⊢;cases hr:room S.kI but with
 | none=>rw[hr] at h;exact absurd (show (12:Int)=0 from h) (by decide)
 | some z=>
  rw[hr] at h;dsimp only at h ⊢;by_cases hm:S.D.may=false
  ·rw[if_pos hm] at h;exact absurd (show (14:Int)=0 from h) (by decide)
  rw[if_neg hm];exact⟨z,rfl,by simpa using hm,rfl⟩
theorem tJ (kb:ByteArray) (z:Nat):∀(l:List Nat) (S:Vs),(S.moves kb z l).1=0→(∀i ∈ l,i<24)→(∀i,i<24→¬gJ S.T i→S.T.aB i=z→i ∈ l)→∀i,i<24→¬gJ (S.moves kb z l).2.T i→(S.moves kb z l).2.T.aB i≠z
 | [],S,h0,_,h,i,hi,hn=>by
  rw[kW] at hn ⊢;intro e;have:=h i hi hn e;simp at this
 | i::r,S,h0,hl,h,j,hj,hn=>by
  rw[jM] at h0 hn ⊢;by_cases hp:(S.put kb i z (S.X i)).1=0
  ·rw[if_pos hp] at h0 hn ⊢;refine tJ kb z r _ h0 (fun k hk=>hl k (by simp[hk])) (fun k hk hnk ek=>?_) j hj hn;obtain⟨y,hy,_,he⟩:=Xt hp;obtain⟨_,Zv,_⟩:=jk hy;rw[he] at hnk ek;by_cases e:k=i
   ·subst e;exact absurd ((lQ S.T k y (S.D.cnt y) _).1.symm.trans ek) Zv
   have h1:=h k hk (fun q=>hnk ((dI _ _ _ _ _ e).2 q)) ((fM S.T i y (S.D.cnt y) _ e).1.symm.trans ek);rcases List.mem_cons.1 h1 with h2 | h2
   ·exact absurd h2 e
   exact h2
  rw[if_neg hp] at h0;exact absurd h0 hp
theorem rA {T:Tb} {z:Int} {i:Nat}:i ∈ Sp.bM T z 24↔i<24∧T.tag i≠⟨#[]⟩∧T.aB i=z:=by
 unfold Sp.bM Sp.lies;simp[List.mem_filter]
theorem Bt {T:Tb} {i:Nat} (h:gJ T i∨may T i):T.tag i=⟨#[]⟩↔gJ T i:=by
 constructor
 ·intro e;rcases h with h | h
  ·exact h
  have:=h.1;rw[e] at this;exact absurd this (by decide)
 exact fun h=>h.2.2
theorem Vs.ok.ae {S:Vs} {n:Int} (h:S.ok n) (kb kt:ByteArray):(S.ae kb kt).2.ok (n+1):=by
 have h':=h.le (m:=n+1) (by omega);unfold Vs.ae;by_cases hd:S.dead=true
 ·rw[if_pos hd];exact h'
 rw[if_neg hd];cases hv:dP S.kI S.live 8 with
 | none=>exact h'
 | some z=>
  dsimp only;have hl:∀i ∈ Sp.bM S.T (z:Int) 24,i<24:=fun i hi=>(rA.1 hi).1
  have hmv:=Vs.ok.moves kb z (Sp.bM S.T (z:Int) 24) S h hl;by_cases h0:(S.moves kb z (Sp.bM S.T (z:Int) 24)).1=0
  ·rw[if_neg (by rw[h0];decide)];have hout:=tJ kb z (Sp.bM S.T (z:Int) 24) S h0 hl (fun i hi hn e=>rA.2 ⟨hi,fun q=>hn ((Bt (h.may i hi)).1 q),e⟩);generalize (S.moves kb z (Sp.bM S.T (z:Int) 24)).2=S1 at *;have hf:=hmv.flush kt;obtain⟨f1,f2,f3,f4,f5⟩:=JB S1 kt;by_cases h1:(S1.flush kt).1=0
   ·rw[if_neg (by rw[h1];decide)];generalize (S1.flush kt).2=S2 at *;by_cases h2:S2.D.may=false
    ·rw[if_pos h2];exact hf.kill true
    rw[if_neg h2];refine⟨hf.cnt,hf.c0,hf.cn,hf.may,hf.Sy,fun i hi hn=>?_,hf.txt,?_⟩
    ·have h3:=hf.at_ i hi hn;have h4:¬gJ S1.T i:=fun q=>hn ⟨by rw[f1];exact q.1,by rw[f2];exact q.2.1,by rw[f3];exact q.2.2⟩
     have h5:=hout i hi h4;have h6:0≤S2.T.aB i:=by
      rcases hf.may i hi with h7 | h7
      ·exact absurd h7 hn
      exact h7.2.1
     show S2.T.off i<((if (S2.T.aB i).toNat=z then 0 else S2.D.au.cnt (S2.T.aB i).toNat:Nat):Int)
     rw[if_neg (by rw[f1] at h6 ⊢;omega),bK];exact h3
    show S2.D.au.ws.length≤1
    rw[qX];exact hf.ws
   rw[if_pos h1];exact hf
  rw[if_pos h0];exact hmv.le (by omega)
theorem Vs.ok.write {S:Vs} {n:Int} (h:S.ok n) (kb kt:ByteArray) (i:Int) (t:ByteArray):(S.write kb kt i t).2.ok (n+1):=by
 have h':=h.le (m:=n+1) (by omega);unfold Vs.write;split
 ·exact h'
 split
 ·exact h'
 rename_i hi
 split
 ·exact h'
 rename_i ht
 split
 ·exact h'
 split
 ·exact h'.clear _
 split
 ·split
  ·exact h.ae kb kt
  exact(h.ae kb kt).put kb i.toNat (by omega) (-1) t (by omega)
 exact h'.put kb i.toNat (by omega) (-1) t (by omega)
theorem DL (D:Dv) (hw:D.ws.length≤1):(fresh D 0).ok 0 where
 cnt:=rfl
 c0:=by show (0:Int)≤0;omega
 cn:=by show (0:Int)≤0;omega
 may i hi:=Or.inl ⟨rfl,rfl,rfl⟩
 Sy i j hi hj hij hn:=absurd ⟨rfl,rfl,rfl⟩ hn
 at_ i hi hn:=absurd ⟨rfl,rfl,rfl⟩ hn
 txt i:=by show 0≤80;omega
 ws:=hw
theorem textOf_size (kb s:ByteArray):(Sl.textOf kb s).size≤80:=by
 unfold Sl.textOf Sl.KC;rw[ByteArray.size_extract];omega
theorem KW (kb:ByteArray) (D:Dv) (T:Tb) (k i:Nat):(aI kb D T k i).size≤80:=by
 unfold aI;split
 ·split
  ·show 0≤80;omega
  exact textOf_size _ _
 show 0≤80;omega
theorem zT (kb kt:ByteArray) (D:Dv) (n:Int) (hw:D.ws.length≤1) (hn:0≤n) (h:whole kb kt D n):(opened kb D n n).ok n:=by
 obtain⟨⟨_,h2,_,h4⟩,h5⟩:=h;obtain⟨hm,hd⟩:=TK ((Tw.og _).1 h2).2;refine⟨h4,hn,Int.le_refl _,hm,hd,fun i hi hni=>?_,fun i=>KW _ _ _ _ _,hw⟩;rcases h5 i hi with h6 | h6
 ·exact absurd ((Bt (hm i hi)).1 h6) hni
 exact h6.1.2.2.2
end Vl
end Go.Proofs.YtmhcfaaggkidjaaGreatDoor
end
section
namespace Go.Proofs.YtmhcfaaggkidjaaGreatDoor
namespace Vl
open Go.RowKit
open Tw (Tb gJ may)
def tot (D:Dv):Nat:=D.cnt 0+D.cnt 1+D.cnt 2+D.cnt 3+D.cnt 4+D.cnt 5+D.cnt 6+D.cnt 7
def c16 (D:Dv):Prop:=∀z,z<8→D.cnt z≤16
theorem iR (n:Nat) (h:n≤16):Sp.lack (n:Int)=16-n:=by
 unfold Sp.lack;split<;>(try split)<;>omega
theorem a0s {S:Vs} (h:c16 S.D):S.free=128-(tot S.D:Int):=by
 unfold Vs.free tot;simp only[Sp.iB,Vs.kI];rw[iR _ (h 0 (by omega)),iR _ (h 1 (by omega)),iR _ (h 2 (by omega)),iR _ (h 3 (by omega)),iR _ (h 4 (by omega)),iR _ (h 5 (by omega)),iR _ (h 6 (by omega)),iR _ (h 7 (by omega))];omega
theorem Gw {S:Vs} (h:c16 S.D) (hf:tot S.D<128) (but:Int) (hb:but<0∨∃z:Nat,but=z∧z<8∧S.D.cnt z=16):∃z,room S.kI but=some z:=by
 cases hr:room S.kI but with
 | some z=>exact⟨z,rfl⟩
 | none=>
  exfalso;have hn:∀z,z<8→16≤S.D.cnt z:=fun z hz=>by
   rcases zR hr z hz with e | e
   ·rcases hb with hb | ⟨y,hy,_,h16⟩
    ·omega
    obtain rfl:y=z:=by omega
    omega
   unfold Vs.kI at e;omega
  have h0:=hn 0 (by omega);have h1:=hn 1 (by omega);have h2:=hn 2 (by omega);have h3:=hn 3 (by omega);have h4:=hn 4 (by omega);have h5:=hn 5 (by omega);have h6:=hn 6 (by omega);have h7:=hn 7 (by omega);unfold tot at hf;omega
theorem ku (D:Dv) (z:Nat) (s:ByteArray) (z':Nat):(D.app z s).cnt z'=if z'=z then D.cnt z+1 else D.cnt z':=rfl
theorem rC (D:Dv) (z:Nat) (s:ByteArray) (hz:z<8):tot (D.app z s)=tot D+1:=by
 unfold tot;simp only[ku];have:z=0∨z=1∨z=2∨z=3∨z=4∨z=5∨z=6∨z=7:=by omega
 rcases this with rfl | rfl | rfl | rfl | rfl | rfl | rfl | rfl<;>simp<;>omega
theorem TL {D:Dv} {z:Nat} {s:ByteArray} (h:c16 D) (hz:D.cnt z<16):c16 (D.app z s):=fun z' hz'=>by
 rw[ku];split
 ·omega
 exact h z' hz'
theorem jN {D:Dv} (h:D.fused=false):D.au=D:=by unfold Dv.au;rw[h];rfl
theorem oz {D:Dv} (h:D.fused=false):D.may=true:=by unfold Dv.may;rw[h];rfl
theorem oC (D:Dv) (z z':Nat):(D.reset z).cnt z'=if z'=z then 0 else D.cnt z':=rfl
theorem KX (D:Dv) (z:Nat) (hz:z<8):tot (D.reset z)+D.cnt z=tot D:=by
 unfold tot;simp only[oC];have:z=0∨z=1∨z=2∨z=3∨z=4∨z=5∨z=6∨z=7:=by omega
 rcases this with rfl | rfl | rfl | rfl | rfl | rfl | rfl | rfl<;>simp<;>omega
structure Vs.on (S:Vs):Prop where
 dead:S.dead=false
 fused:S.D.fused=false
 c16:c16 S.D
theorem tK {S:Vs} (h:S.on) (hf:tot S.D<128) (kb:ByteArray) (i:Nat) (but:Int) (hb:but<0∨∃z:Nat,but=z∧z<8∧S.D.cnt z=16) (t:ByteArray) :
  ∃z:Nat,room S.kI but=some z∧z<8∧S.D.cnt z<16∧(∀y,y<z→16≤S.D.cnt y)∧S.put kb i but t=(0,{ S with D:=S.D.app z (Sl.aS kb i t),T:=dz S.T i z (S.D.cnt z) ((Sl.aS kb i t).extract 0 16),X:=fq S.X i t }):=by
 obtain⟨z,hz⟩:=Gw h.c16 hf but hb;obtain⟨h8,_,h16⟩:=jk hz;refine⟨z,hz,h8,by unfold Vs.kI at h16;omega,fun y hy=>?_,?_⟩
 ·rcases xh hz y hy with e | e
  ·rcases hb with hb | ⟨x,hx,_,hx16⟩
   ·omega
   obtain rfl:x=y:=by omega
   omega
  unfold Vs.kI at e;omega
 unfold Vs.put;rw[hz];dsimp only;rw[if_neg (by rw[oz h.fused];decide),jN h.fused]
structure Vs.more (S S':Vs) (n:Nat):Prop where
 on:S'.on
 tot:tot S'.D=tot S.D+n
 cnt:∀z,S.D.cnt z≤S'.D.cnt z
 c:S'.c=S.c
 count:S'.T.count=S.T.count
theorem Vs.more.trans {S S1 S2:Vs} {n m:Nat} (h:S.more S1 n) (k:S1.more S2 m):S.more S2 (n+m):=
 ⟨k.on,by rw[k.tot,h.tot];omega,fun z=>Nat.le_trans (h.cnt z) (k.cnt z),k.c.trans h.c,k.count.trans h.count⟩
theorem xk {S:Vs} (h:S.on) (kb:ByteArray) (i z:Nat) (hz:z<8) (h16:S.D.cnt z<16) (t:ByteArray) :
  S.more { S with D:=S.D.app z (Sl.aS kb i t),T:=dz S.T i z (S.D.cnt z) ((Sl.aS kb i t).extract 0 16),X:=fq S.X i t } 1:=by
 refine⟨⟨h.dead,h.fused,TL h.c16 h16⟩,rC _ _ _ hz,fun y=>?_,rfl,rfl⟩;show S.D.cnt y≤(S.D.app z (Sl.aS kb i t)).cnt y
 rw[ku];split
 ·rename_i e;subst e;omega
 exact Nat.le_refl _
theorem zU (X:Nat→ByteArray) (i:Nat):fq X i (X i)=X:=by
 funext j
 unfold fq;split
 ·rename_i e;rw[e]
 rfl
theorem rD (kb:ByteArray) (z:Nat) (hz:z<8):∀(l:List Nat) (S:Vs),S.on→S.D.cnt z=16→tot S.D+l.length≤128→(S.moves kb z l).1=0∧S.more (S.moves kb z l).2 l.length∧(S.moves kb z l).2.X=S.X
 | [],S,h,h16,hl=>by
  rw[kW];exact⟨rfl,⟨h,rfl,fun _=>Nat.le_refl _,rfl,rfl⟩,rfl⟩
 | i::r,S,h,h16,hl=>by
  rw[List.length_cons] at hl;obtain⟨y,_,hy8,hy16,_,hp⟩:=tK h (by omega) kb i (z:Int) (Or.inr ⟨z,rfl,hz,h16⟩) (S.X i);have hm:=xk h kb i y hy8 hy16 (S.X i);rw[jM,hp];dsimp only;rw[if_pos rfl];have hx:fq S.X i (S.X i)=S.X:=zU S.X i;rw[hx] at hm ⊢;have hc:({ S with D:=S.D.app y (Sl.aS kb i (S.X i)),T:=dz S.T i y (S.D.cnt y) ((Sl.aS kb i (S.X i)).extract 0 16) }:Vs).D.cnt z=16:=by
   have h1:=hm.cnt z;have h2:=hm.on.c16 z hz;omega
  obtain⟨e1,e2,e3⟩:=rD kb z hz r _ hm.on hc (by have:=hm.tot;omega);refine⟨e1,?_,e3⟩;have:=hm.trans e2
  rwa [show (1:Nat)+r.length=(i::r).length by rw[List.length_cons];omega] at this
theorem rE {S:Vs} (h:S.on) (kt:ByteArray):S.flush kt=(0,{ S with D:=((S.D.synced).wrote (S.next.count % 2).toNat (Tw.text kt S.next)).synced,c:=S.T.count+1,T:=S.next }):=by
 have h1:S.D.synced.fused=false:=h.fused;have h2:(S.D.synced.wrote (S.next.count % 2).toNat (Tw.text kt S.next)).fused=false:=h.fused;unfold Vs.flush Vs.tell;rw[if_neg (by rw[h.dead];decide),if_neg (by rw[oz h.fused];decide),jN h.fused];simp only[jN h1,jN h2,oz h1,oz h2];simp
 rfl
theorem iC {S:Vs} (h:S.on) (kt:ByteArray):(S.flush kt).1=0∧(S.flush kt).2.on∧(S.flush kt).2.D.cnt=S.D.cnt∧(S.flush kt).2.c=S.T.count+1∧(S.flush kt).2.X=S.X∧(S.flush kt).2.T=S.next:=by
 rw[rE h];generalize Tw.text kt S.next=t;have hc:(((S.D.synced).wrote (S.next.count % 2).toNat t).synced).cnt=S.D.cnt:=by
  rw[dA];show S.D.synced.cnt=_
  rw[dA]
 refine⟨rfl,⟨h.dead,h.fused,fun z hz=>?_⟩,hc,rfl,rfl,rfl⟩;show (((S.D.synced).wrote (S.next.count % 2).toNat t).synced).cnt z≤16
 rw[hc];exact h.c16 z hz
theorem qc {S:Vs} (h:S.on) (kb kt:ByteArray) {z:Nat} (hv:dP S.kI S.live 8=some z) (hl:tot S.D+(Sp.bM S.T (z:Int) 24).length≤128) :
  z<8∧S.D.cnt z=16∧S.ae kb kt=((((Sp.bM S.T (z:Int) 24).length:Int),true,(0:Int)),{ ((S.moves kb z (Sp.bM S.T (z:Int) 24)).2.flush kt).2 with D:=((S.moves kb z (Sp.bM S.T (z:Int) 24)).2.flush kt).2.D.reset z }):=by
 obtain⟨wJ,KV,_⟩:=DJ hv;have h16:S.D.cnt z=16:=by
  have:=h.c16 z wJ;unfold Vs.kI at KV;omega
 obtain⟨e1,e2,e3⟩:=rD kb z wJ _ S h h16 hl;obtain⟨f1,f2,_⟩:=iC e2.on kt;refine⟨wJ,h16,?_⟩;unfold Vs.ae;rw[if_neg (by rw[h.dead];decide),hv];dsimp only;rw[if_neg (by rw[e1];decide),if_neg (by rw[f1];decide),if_neg (by rw[oz f2.fused];decide),jN f2.fused]
structure Vs.less (S S':Vs) (z n:Nat):Prop where
 on:S'.on
 tot:tot S'.D+16=tot S.D+n
 cnt:∀y,y≠z→S.D.cnt y≤S'.D.cnt y
 c:S'.c=S.T.count+1
 count:S'.T.count=S.T.count+1
 X:S'.X=S.X
theorem lS {S:Vs} (h:S.on) (kb kt:ByteArray) {z:Nat} (hv:dP S.kI S.live 8=some z) (hl:tot S.D+(Sp.bM S.T (z:Int) 24).length≤128):S.less (S.ae kb kt).2 z (Sp.bM S.T (z:Int) 24).length:=by
 obtain⟨wJ,h16,he⟩:=qc h kb kt hv hl;obtain⟨e1,e2,e3⟩:=rD kb z wJ _ S h h16 hl;obtain⟨f1,f2,f3,f4,f5,f6⟩:=iC e2.on kt;rw[he];generalize hS1:(S.moves kb z (Sp.bM S.T (z:Int) 24)).2=S1 at *;generalize hS2:(S1.flush kt).2=S2 at *;have hc1:S1.D.cnt z=16:=by have h1:=e2.cnt z;have h2:=e2.on.c16 z wJ;omega
 have ht:tot S2.D=tot S1.D:=by unfold tot;rw[f3]
 refine⟨⟨f2.dead,f2.fused,fun y hy=>?_⟩,?_,fun y hy=>?_,?_,?_,?_⟩
 ·show (S2.D.reset z).cnt y≤16
  rw[oC];split
  ·omega
  exact f2.c16 y hy
 ·have h1:=KX S2.D z wJ;rw[f3,hc1,ht,e2.tot] at h1;exact h1
 ·show S.D.cnt y≤(S2.D.reset z).cnt y
  rw[oC,if_neg hy,f3];exact e2.cnt y
 ·show S2.c=S.T.count+1
  rw[f4,e2.count]
 ·show S2.T.count=S.T.count+1
  rw[f6];show S1.T.count+1=_
  rw[e2.count]
 show S2.X=S.X
 rw[f5,e3]
theorem DN (T:Tb):∀k,(Sp.bM T 0 k).length+(Sp.bM T 1 k).length+(Sp.bM T 2 k).length+(Sp.bM T 3 k).length+(Sp.bM T 4 k).length+(Sp.bM T 5 k).length+(Sp.bM T 6 k).length+(Sp.bM T 7 k).length≤k
 | 0=>by simp[Sp.bM]
 | k+1=>by
  have ih:=DN T k;have hs:∀z:Int,(Sp.bM T z (k+1)).length=(Sp.bM T z k).length+(if ¬T.tag k=⟨#[]⟩∧T.aB k=z then 1 else 0):=fun z=>by
   unfold Sp.bM Sp.lies;rw[List.range_succ,List.filter_append,List.length_append]
   congr 1
   by_cases h1:T.tag k=⟨#[]⟩
   ·simp[h1]
   by_cases h2:T.aB k=z
   ·simp[h1,h2]
   simp[h1,h2]
  simp only[hs];by_cases h1:T.tag k=⟨#[]⟩
  ·simp[h1];omega
  simp only[h1,not_false_eq_true,true_and];have hz:T.aB k=0∨T.aB k=1∨T.aB k=2∨T.aB k=3∨T.aB k=4∨T.aB k=5∨T.aB k=6∨T.aB k=7∨(T.aB k<0∨7<T.aB k):=by omega
  rcases hz with h | h | h | h | h | h | h | h | h
  all_goals first | (rw[h];simp;omega) | (rw[if_neg (by omega),if_neg (by omega),if_neg (by omega),if_neg (by omega),if_neg (by omega),if_neg (by omega),if_neg (by omega),if_neg (by omega)];omega)
theorem JC {S:Vs} {z:Nat} (hv:dP S.kI S.live 8=some z) (v:Nat) (h:∀y,y<6→y≠v→S.D.cnt y=16):(Sp.bM S.T (z:Int) 24).length≤4:=by
 obtain⟨_,_,hm⟩:=DJ hv;have hs:(Sp.bM S.T ((0:Nat):Int) 24).length+(Sp.bM S.T ((1:Nat):Int) 24).length+(Sp.bM S.T ((2:Nat):Int) 24).length+(Sp.bM S.T ((3:Nat):Int) 24).length+(Sp.bM S.T ((4:Nat):Int) 24).length+(Sp.bM S.T ((5:Nat):Int) 24).length+(Sp.bM S.T ((6:Nat):Int) 24).length+(Sp.bM S.T ((7:Nat):Int) 24).length≤24:=DN S.T 24;have hle:∀y,y<6→y≠v→(Sp.bM S.T (z:Int) 24).length≤(Sp.bM S.T ((y:Nat):Int) 24).length:=fun y hy hyv=>by
  have:=hm y (by omega) (by unfold Vs.kI;rw[h y hy hyv];decide);unfold Vs.live at this;omega
 have k0:=hle 0 (by omega);have k1:=hle 1 (by omega);have k2:=hle 2 (by omega);have k3:=hle 3 (by omega);have k4:=hle 4 (by omega);have k5:=hle 5 (by omega);clear hle hm hv h;generalize (Sp.bM S.T ((0:Nat):Int) 24).length=l0 at *;generalize (Sp.bM S.T ((1:Nat):Int) 24).length=l1 at *;generalize (Sp.bM S.T ((2:Nat):Int) 24).length=l2 at *;generalize (Sp.bM S.T ((3:Nat):Int) 24).length=l3 at *;generalize (Sp.bM S.T ((4:Nat):Int) 24).length=l4 at *;generalize (Sp.bM S.T ((5:Nat):Int) 24).length=l5 at *;generalize (Sp.bM S.T ((6:Nat):Int) 24).length=l6 at *;generalize (Sp.bM S.T ((7:Nat):Int) 24).length=l7 at *;generalize (Sp.bM S.T (z:Int) 24).length=n at *;by_cases e0:0=v
 ·have:=k1 (by omega);have:=k2 (by omega);have:=k3 (by omega);have:=k4 (by omega);have:=k5 (by omega);omega
 have:=k0 e0;by_cases e1:1=v
 ·have:=k2 (by omega);have:=k3 (by omega);have:=k4 (by omega);have:=k5 (by omega);omega
 have:=k1 e1;by_cases e2:2=v
 ·have:=k3 (by omega);have:=k4 (by omega);have:=k5 (by omega);omega
 have:=k2 e2;by_cases e3:3=v
 ·have:=k4 (by omega);have:=k5 (by omega);omega
 have:=k3 e3;by_cases e4:4=v
 ·have:=k5 (by omega);omega
 have:=k4 e4;omega
end Vl
end Go.Proofs.YtmhcfaaggkidjaaGreatDoor
end
section
namespace Go.Proofs.YtmhcfaaggkidjaaGreatDoor
set_option maxRecDepth 100000
namespace Vl
open Go.RowKit
open Tw (Tb gJ may Same Rt)
def At (kb:ByteArray) (D:Dv) (lim:Nat→Nat) (T:Tb) (X:Nat→ByteArray) (i:Nat):Prop:=
 (gJ T i∧X i=⟨#[]⟩)∨(may T i∧T.off i<(lim (T.aB i).toNat:Int)∧T.tag i=(Sl.aS kb i (X i)).extract 0 16∧∀j,j<128→D.blk (T.aB i).toNat (T.off i).toNat j=sb (Sl.aS kb i (X i)) j)
def JD (kb:ByteArray) (D:Dv) (lim:Nat→Nat) (T:Tb) (X:Nat→ByteArray):Prop:=∀i,i<24→At kb D lim T X i
theorem rF {n:Nat} {f:Nat→UInt8} {s:ByteArray} (h:∀j,j<n→f j=sb s j) (a b:Nat) (hb:b≤s.size) (hn:b≤n):(txt n f).extract a b=s.extract a b:=by
 apply Tw.wS
 ·rw[Tw.ng _ _ _ (by rw[dG];exact hn),Tw.ng _ _ _ hb]
 intro j hj;rw[Tw.ng _ _ _ (by rw[dG];exact hn)] at hj;rw[Tw.lH _ _ _ j (by omega) (by rw[dG];exact hn),Tw.lH _ _ _ j (by omega) hb,vW _ _ _ (by omega),h _ (by omega)]
theorem At.there {kb:ByteArray} {D:Dv} {T:Tb} {X:Nat→ByteArray} {i:Nat} (h:At kb D D.cnt T X i):there kb D T i:=by
 rcases h with⟨hn,_⟩ | ⟨hm,ho,ht,hb⟩
 ·exact Or.inl hn.2.2
 refine Or.inr ⟨⟨hm.2.1,hm.2.2.1,hm.2.2.2.1,ho⟩,?_,?_⟩
 ·unfold ja Sl.mX;rw[rF hb 0 16 (by rw[Sl.gD];omega) (by omega),rF hb 16 109 (by rw[Sl.gD];omega) (by omega),Sl.Di,Sl.zO]
 unfold ja;rw[rF hb 0 16 (by rw[Sl.gD];omega) (by omega),ht]
theorem At.says {kb:ByteArray} {D:Dv} {T:Tb} {X:Nat→ByteArray} {i:Nat} (h:At kb D D.cnt T X i) (hi:i<24) (hx:(X i).size≤80):aI kb D T 24 i=X i:=by
 unfold aI;rw[if_pos hi];rcases h with⟨hn,h0⟩ | ⟨hm,ho,ht,hb⟩
 ·rw[if_pos hn.2.2,h0]
 have h16:=hm.1;rw[if_neg (fun e=>by rw[e] at h16;exact absurd h16 (by decide))];unfold ja Sl.textOf;rw[rF hb 16 28 (by rw[Sl.gD];omega) (by omega),rF hb 28 109 (by rw[Sl.gD];omega) (by omega)];exact(Sl.KG kb i (X i) hx).2
theorem At.same {kb:ByteArray} {D:Dv} {lim:Nat→Nat} {T U:Tb} {X:Nat→ByteArray} {i:Nat} (h:At kb D lim T X i) (hs:Same T U) (hi:i<24):At kb D lim U X i:=by
 obtain⟨a,b,c⟩:=hs.2 i hi;unfold At Tw.gJ Tw.may at *;rw[←a,←b,←c];exact h
def Slot (kt:ByteArray) (f:Nat→UInt8) (U:Tb):Prop:=∀j,j<500→f j=sb (Tw.text kt U) j
theorem Slot.is {kt:ByteArray} {f:Nat→UInt8} {U:Tb} (hr:Rt U) (h:Slot kt f U):txt 500 f=Tw.text kt U++txt 44 (fun _=>0):=by
 have hz:=Tw.jh (key:=kt) hr.2;apply Tw.wS
 ·rw[dG,ByteArray.size_append,hz,dG]
 intro j hj;rw[dG] at hj;rw[vW _ _ _ hj,h j hj];by_cases h1:j<456
 ·rw[Tw.mZ _ _ _ (by rw[hz];exact h1)]
 rw[show j=456+(j-456) by omega,Tw.lJ _ _ 456 _ hz,vW _ _ _ (by omega)];exact nY _ _ (by rw[hz];omega)
theorem Slot.rd {kt:ByteArray} {f:Nat→UInt8} {U:Tb} (hr:Rt U) (h:Slot kt f U):Same (Tw.rd (txt 500 f)) U:=by
 rw[h.is hr];exact Tw.Tn kt U _ hr
theorem OQ {kt:ByteArray} {D:Dv} {U:Tb} {n:Int} (hr:Rt U) (h:Slot kt (D.aJ (n % 2).toNat (fun _=>true)) U) (hc:U.count=n):JA kt D n:=by
 have hz:=Tw.jh (key:=kt) hr.2;have hs:=h.rd hr;have ht:=h.is hr;unfold JA bH;refine⟨fun j h1 h2=>?_,(Tw.og _).2 (hs.symm.rt hr),?_,hs.1.trans hc⟩
 ·rw[dG] at h2;rw[vW _ _ _ h2,h j h2];exact nY _ _ (by rw[hz];exact h1)
 rw[hs.text kt,ht,Sl.wR _ _ 456 hz]
theorem OT {kb kt:ByteArray} {D:Dv} {U:Tb} {X:Nat→ByteArray} {n:Int} (hr:Rt U) (h:Slot kt (D.aJ (n % 2).toNat (fun _=>true)) U) (hc:U.count=n) (hl:JD kb D D.cnt U X) (hx:∀i,(X i).size≤80) :
  whole kb kt D n∧Same (dh D n) U∧∀i,i<24→aI kb D (dh D n) 24 i=X i:=by
 have hs:Same (dh D n) U:=h.rd hr;exact⟨⟨OQ hr h hc,fun i hi=>((hl i hi).same hs.symm hi).there⟩,hs,fun i hi=>((hl i hi).same hs.symm hi).says hi (hx i)⟩
def low (D:Dv) (c:Int):Prop:=∀k,k<2→(Tw.rd (txt 500 (D.aJ k (fun _=>true)))).count≤c
theorem low.not {kb kt:ByteArray} {D:Dv} {c n:Int} (h:low D c) (hn:c<n):¬whole kb kt D n:=fun e=>by
 have h1:=h (n % 2).toNat (by omega);have h2:=e.1.2.2.2;unfold bH at h2;omega
theorem JE:(Tw.rd (txt 500 (fun _=>0))).count=0:=by kernel_rfl
theorem OU (c:Int) (hc:0≤c):low mr c:=fun k hk=>by
 have e:mr.aJ k (fun _=>true)=fun _=>0:=rfl
 rw[e,JE];exact hc
theorem Gx (D:Dv) (k:Nat) (t:ByteArray) (hw:D.ws=[]) (k':Nat) (kept:Nat→Bool):(D.wrote k t).aJ k' kept=if k=k'∧kept 0=true then sb t else D.slot k':=by
 have hws:(D.wrote k t).ws=[(k,t)]:=by show D.ws++[(k,t)]=_;rw[hw];rfl
 unfold Dv.aJ zP;rw[hws];have hd:dn [(k,t)] [(k,t)].length=[(0,k,t)]:=rfl;rw[hd];by_cases h:k=k'∧kept 0=true
 ·rw[if_pos h];have:hit k' kept (0,k,t)=true:=by unfold hit;simp[h.1,h.2]
  simp[List.find?,this]
 rw[if_neg h];have:hit k' kept (0,k,t)=false:=by
  unfold hit;by_cases h1:k=k'
  ·have:kept 0=false:=by
    cases hk:kept 0
    ·rfl
    exact absurd ⟨h1,hk⟩ h
   simp[this]
  simp[h1]
 simp only[List.find?,this]
 rfl
theorem qd (D:Dv) (hw:D.ws=[]) (k:Nat) (kept:Nat→Bool):D.aJ k kept=D.slot k:=by
 unfold Dv.aJ zP;rw[hw]
 rfl
theorem Bu (D:Dv) (kept:Nat→Bool) (k:Nat) (hk:k<2):(D.settled kept).slot k=D.aJ k kept:=by
 have:k=0∨k=1:=by omega
 rcases this with rfl | rfl<;>rfl
theorem uI (D:Dv) (k:Nat) (hk:k<2):D.synced.slot k=D.aJ k (fun _=>true):=by
 have h:=Bu (D.iA 8) (fun _=>true) k hk;exact h
theorem zV (D:Dv) (k:Nat) (t:ByteArray) (k':Nat) (hk:k'<2):((D.synced).wrote k t).synced.aJ k' (fun _=>true)=if k=k' then sb t else D.aJ k' (fun _=>true):=by
 rw[qd _ rfl,uI _ _ hk,Gx _ _ _ rfl,uI _ _ hk];simp
structure Good (kb kt:ByteArray) (S:Vs) (n:Int):Prop where
 on:S.on
 ok:S.ok n
 lie:JD kb S.D S.D.cnt S.T S.X
 low:low S.D S.c
theorem Good.le {kb kt:ByteArray} {S:Vs} {n m:Int} (h:Good kb kt S n) (hm:n≤m):Good kb kt S m:=⟨h.on,h.ok.le hm,h.lie,h.low⟩
theorem TM {kb:ByteArray} {D:Dv} {T:Tb} {X:Nat→ByteArray} (h:JD kb D D.cnt T X) (i z:Nat) (hi:i<24) (hz:z<8) (h16:D.cnt z<16) (t:ByteArray) :
  JD kb (D.app z (Sl.aS kb i t)) (D.app z (Sl.aS kb i t)).cnt (dz T i z (D.cnt z) ((Sl.aS kb i t).extract 0 16)) (fq X i t):=fun j hj=>by
 by_cases e:j=i
 ·subst e;obtain⟨a,b,c⟩:=lQ T j z (D.cnt z) ((Sl.aS kb j t).extract 0 16);have hx:fq X j t j=t:=by unfold fq;rw[if_pos rfl]
  refine Or.inr ⟨⟨?_,?_⟩,?_,?_,?_⟩
  ·rw[c,ByteArray.size_extract,Sl.gD];rfl
  ·rw[a,b];omega
  ·rw[a,b,ku,Int.toNat_natCast,if_pos rfl];omega
  ·rw[c,hx]
  intro m hm;rw[a,b,hx,Int.toNat_natCast,Int.toNat_natCast];show (if z=z∧D.cnt z=D.cnt z then _ else _)=_
  rw[if_pos ⟨rfl,rfl⟩]
 obtain⟨a,b,c⟩:=fM T i z (D.cnt z) ((Sl.aS kb i t).extract 0 16) e;have hx:fq X i t j=X j:=by unfold fq;rw[if_neg e]
 unfold At;rw[dI _ _ _ _ _ e,rz _ _ _ _ _ e,a,b,c,hx];rcases h j hj with h1 | ⟨h1,h2,h3,h4⟩
 ·exact Or.inl h1
 refine Or.inr ⟨h1,?_,h3,fun m hm=>?_⟩
 ·rw[ku];split
  ·rename_i e2;rw[e2] at h2;omega
  exact h2
 show (if (T.aB j).toNat=z∧(T.off j).toNat=D.cnt z then _ else D.blk _ _ _)=_
 rw[if_neg (fun q=>by
  have:=h1.2.2.2.1;rw[q.1] at h2;omega)]
 exact h4 m hm
theorem xm {kb kt:ByteArray} {S:Vs} {n:Int} (h:Good kb kt S n) (i z:Nat) (hi:i<24) (hz:z<8) (h16:S.D.cnt z<16) (but:Int) (t:ByteArray) (ht:t.size≤80)
  (he:S.put kb i but t=(0,{ S with D:=S.D.app z (Sl.aS kb i t),T:=dz S.T i z (S.D.cnt z) ((Sl.aS kb i t).extract 0 16),X:=fq S.X i t })) :
  Good kb kt (S.put kb i but t).2 n:=by
 have ho:=h.ok.put kb i hi but t ht;rw[he] at ho ⊢;exact⟨(xk h.on kb i z hz h16 t).on,ho,TM h.lie i z hi hz h16 t,h.low⟩
theorem xq {kb kt:ByteArray} {n:Int} (z:Nat) (hz:z<8):∀(l:List Nat) (S:Vs),Good kb kt S n→(∀i ∈ l,i<24)→S.D.cnt z=16→tot S.D+l.length≤128→Good kb kt (S.moves kb z l).2 n
 | [],S,h,_,h16,hl=>by rw[kW];exact h
 | i::r,S,h,hm,h16,hl=>by
  rw[List.length_cons] at hl;have hi:=hm i (by simp);obtain⟨y,_,hy8,hy16,_,hp⟩:=tK h.on (by omega) kb i (z:Int) (Or.inr ⟨z,rfl,hz,h16⟩) (S.X i);have hg:=xm h i y hi hy8 hy16 z (S.X i) (h.ok.txt i) hp;have hmo:=xk h.on kb i y hy8 hy16 (S.X i);rw[jM,if_pos (by rw[hp])];rw[hp] at hg ⊢;refine xq z hz r _ hg (fun j hj=>hm j (by simp[hj])) ?_ (by have:=hmo.tot;dsimp only at this ⊢;omega);have h1:=hmo.cnt z;have h2:=hmo.on.c16 z hz;dsimp only at h1 h2 ⊢;omega
theorem JD.dev {kb:ByteArray} {D D':Dv} {lim:Nat→Nat} {T:Tb} {X:Nat→ByteArray} (h:JD kb D lim T X) (hb:D'.blk=D.blk):JD kb D' lim T X:=fun i hi=>by
 have h1:=h i hi;unfold At at h1 ⊢;rw[hb];exact h1
theorem xu (D:Dv):D.synced.blk=D.blk:=rfl
theorem KY (D:Dv) (k:Nat) (t:ByteArray):(D.wrote k t).blk=D.blk:=rfl
theorem OV (D:Dv) (k:Nat) (t:ByteArray):((D.synced).wrote k t).synced.blk=D.blk:=by rw[xu,KY,xu]
theorem qg {kb kt:ByteArray} {S:Vs} {n:Int} (h:Good kb kt S n) (hn:n<1099511627776):Good kb kt (S.flush kt).2 (n+1)∧Slot kt ((S.flush kt).2.D.aJ ((S.flush kt).2.c % 2).toNat (fun _=>true)) (S.flush kt).2.T∧Rt (S.flush kt).2.T:=by
 have ho:=h.ok.flush kt;have hr:=h.ok.next hn;obtain⟨_,hon,hcnt,hc,hX,hT⟩:=iC h.on kt;have hD:(S.flush kt).2.D=((S.D.synced).wrote (S.next.count % 2).toNat (Tw.text kt S.next)).synced:=by rw[rE h.on kt]
 have hcc:S.next.count=S.T.count+1:=rfl;have hlow:=h.low;have hli:=h.lie;have hcn:=h.ok.cnt;generalize S.flush kt=F at *;have hsl:Slot kt (F.2.D.aJ (F.2.c % 2).toNat (fun _=>true)) F.2.T:=by
  rw[hT,hc,hD,zV _ _ _ _ (by omega),hcc,if_pos rfl];exact fun j _=>rfl
 refine⟨⟨hon,ho,?_,?_⟩,hsl,by rw[hT];exact hr⟩
 ·rw[hX,hT,hcnt,hD];have h1:JD kb S.D S.D.cnt S.next S.X:=fun i hi=>hli i hi
  exact h1.dev (OV _ _ _)
 intro k hk;rw[hc,hD,zV _ _ _ _ hk];by_cases e:(S.next.count % 2).toNat=k
 ·rw[if_pos e];have:Slot kt (sb (Tw.text kt S.next)) S.next:=fun j _=>rfl
  rw[(this.rd hr).1,hcc];exact Int.le_refl _
 rw[if_neg e];have h1:=hlow k hk;omega
def Told (kb kt:ByteArray) (D:Dv) (c:Int) (T:Tb) (X:Nat→ByteArray):Prop:=
 (c=0∧(∀i,i<24→X i=⟨#[]⟩))∨(c≠0∧Rt T∧T.count=c∧Slot kt (D.aJ (c % 2).toNat (fun _=>true)) T∧JD kb D D.cnt T X∧∀i,(X i).size≤80)
theorem tL {kb kt:ByteArray} {D:Dv} {c r:Int} {T:Tb} {X:Nat→ByteArray} {S:Vs} (ht:Told kb kt D c T X) (hl:low D c) (h:Br kb kt D c r S):r=0∧S.D=D∧S.c=c∧S.dead=false∧(c=0→S=fresh D c)∧(c≠0→Same S.T T∧whole kb kt D c∧S=opened kb D c c)∧∀i,i<24→S.X i=X i:=by
 have hnot:¬whole kb kt D (c+1):=hl.not (by omega);rcases ht with⟨h0,hx⟩ | ⟨h0,hr,hc,hs,hli,hx⟩
 ·rcases h with h | h | h | h
  ·exact absurd h.1 hnot
  ·obtain⟨_,_,rfl,rfl⟩:=h;exact⟨rfl,rfl,rfl,rfl,fun _=>rfl,fun e=>absurd h0 e,fun i hi=>(hx i hi).symm⟩
  ·exact absurd h0 h.2.1
  exact absurd h0 h.2.1
 obtain⟨hw,hsame,TN⟩:=OT hr hs hc hli hx;rcases h with h | h | h | h
 ·exact absurd h.1 hnot
 ·exact absurd h.2.1 h0
 ·obtain⟨_,_,_,rfl,rfl⟩:=h;exact⟨rfl,rfl,rfl,rfl,fun e=>absurd e h0,fun _=>⟨hsame,hw,rfl⟩,TN⟩
 exact absurd hw h.2.2.1
theorem KZ {kb:ByteArray} {D:Dv} {T:Tb} {X:Nat→ByteArray} (h:JD kb D D.cnt T X) (z:Nat) (hz:∀i,i<24→¬gJ T i→T.aB i≠z):JD kb (D.reset z) (D.reset z).cnt T X:=fun i hi=>by
 rcases h i hi with h1 | ⟨h1,h2,h3,h4⟩
 ·exact Or.inl h1
 have h16:=h1.1;have hzz:=hz i hi (fun q=>by rw[q.2.2] at h16;exact absurd h16 (by decide));have hne:¬(T.aB i).toNat=z:=by have:=h1.2.1;omega
 refine Or.inr ⟨h1,?_,h3,fun j hj=>?_⟩
 ·rw[oC,if_neg hne];exact h2
 show (if (T.aB i).toNat=z then 0 else D.blk _ _ _)=_
 rw[if_neg hne];exact h4 j hj
theorem Bw {kb kt:ByteArray} {S:Vs} {n:Int} (h:Good kb kt S n) (hn:n<1099511627776) {z:Nat} (hv:dP S.kI S.live 8=some z) (hl:tot S.D+(Sp.bM S.T (z:Int) 24).length≤128) :
  Good kb kt (S.ae kb kt).2 (n+1)∧Told kb kt (S.ae kb kt).2.D (S.ae kb kt).2.c (S.ae kb kt).2.T (S.ae kb kt).2.X:=by
 obtain⟨wJ,h16,he⟩:=qc h.on kb kt hv hl;have hls:=lS h.on kb kt hv hl;have ho:=h.ok.ae kb kt;have hm:∀i ∈ Sp.bM S.T (z:Int) 24,i<24:=fun i hi=>(rA.1 hi).1
 have hg1:=xq z wJ _ S h hm h16 hl;obtain⟨e1,e2,e3⟩:=rD kb z wJ _ S h.on h16 hl;have hout:=tJ kb z (Sp.bM S.T (z:Int) 24) S e1 hm (fun i hi hni ez=>rA.2 ⟨hi,fun q=>hni ((Bt (h.ok.may i hi)).1 q),ez⟩);obtain⟨hg2,hs2,hr2⟩:=qg hg1 hn;obtain⟨f1,f2,f3,f4,f5⟩:=JB (S.moves kb z (Sp.bM S.T (z:Int) 24)).2 kt;have hon:=hls.on;rw[he] at ho hon ⊢;generalize (S.moves kb z (Sp.bM S.T (z:Int) 24)).2=S1 at *;generalize (S1.flush kt).2=S2 at *;have TP:JD kb (S2.D.reset z) (S2.D.reset z).cnt S2.T S2.X:=KZ hg2.lie z (fun i hi hni=>by
  rw[f1];exact hout i hi (fun q=>hni ⟨by rw[f1];exact q.1,by rw[f2];exact q.2.1,by rw[f3];exact q.2.2⟩))
 refine⟨⟨hon,ho,TP,hg2.low⟩,Or.inr ⟨?_,hr2,hg2.ok.cnt,hs2,TP,hg2.ok.txt⟩⟩;have h1:=hr2.1.1;have h2:=hg2.ok.cnt;show S2.c≠0
 omega
end Vl
end Go.Proofs.YtmhcfaaggkidjaaGreatDoor
end
section
namespace Go.Proofs.YtmhcfaaggkidjaaGreatDoor
namespace Vl
open Go.RowKit
open Tw (Tb gJ may Same Rt)
def shape (D:Dv) (m:Nat):Prop:=∀z,z<8→D.cnt z=min 16 (m-16*z)
theorem shape.tot {D:Dv} {m:Nat} (h:shape D m) (hm:m≤128):tot D=m:=by
 have h0:=h 0 (by omega);have h1:=h 1 (by omega);have h2:=h 2 (by omega);have h3:=h 3 (by omega);have h4:=h 4 (by omega);have h5:=h 5 (by omega);have h6:=h 6 (by omega);have h7:=h 7 (by omega);unfold Vl.tot;omega
def five (D:Dv):Prop:=∃v:Nat,∀y,y<6→y≠v→D.cnt y=16
def Ph (S:Vs) (k:Nat):Prop:=(∃m,m≤k∧m≤108∧shape S.D m)∨(five S.D∧tot S.D+12≤k)∨tot S.D+24≤k
theorem Ph.le {S:Vs} {k k':Nat} (h:Ph S k) (hk:k≤k'):Ph S k':=by
 rcases h with⟨m,h1,h2,h3⟩ | ⟨h1,h2⟩ | h1
 ·exact Or.inl ⟨m,by omega,h2,h3⟩
 ·exact Or.inr (Or.inl ⟨h1,by omega⟩)
 exact Or.inr (Or.inr (by omega))
theorem Ph.cnt {S S':Vs} {k:Nat} (h:Ph S k) (hc:S'.D.cnt=S.D.cnt):Ph S' k:=by
 unfold Ph shape five tot at *;rw[hc];exact h
theorem Ph.most {S:Vs} {k:Nat} (h:Ph S k) (hk:k≤120):tot S.D≤108:=by
 rcases h with⟨m,h1,h2,h3⟩ | ⟨h1,h2⟩ | h1
 ·rw[h3.tot (by omega)];exact h2
 ·omega
 omega
theorem shape.app {D:Dv} {m z:Nat} (h:shape D m) (hm:m<128) (hz:z<8) (h16:D.cnt z<16) (hf:∀y,y<z→16≤D.cnt y) (s:ByteArray):shape (D.app z s) (m+1):=by
 have hz1:=h z hz;have hzl:z=0∨16*z≤m:=by
  by_cases e:z=0
  ·exact Or.inl e
  have h1:=hf (z-1) (by omega);have h2:=h (z-1) (by omega);omega
 intro y hy;rw[ku];have hy1:=h y hy;split
 ·rename_i e;subst e;omega
 rename_i e
 by_cases Zv:y<z
 ·have:=hf y Zv;omega
 omega
theorem five.app {D:Dv} (h:five D) (hc:c16 D) (z:Nat) (h16:D.cnt z<16) (s:ByteArray):five (D.app z s):=by
 obtain⟨v,hv⟩:=h;refine⟨v,fun y hy hyv=>?_⟩;rw[ku];have:=hv y hy hyv;split
 ·rename_i e;subst e;omega
 exact this
theorem OW {S:Vs} {k:Nat} (h:S.on) (hp:Ph S k) (ht:tot S.D<108) (kb:ByteArray) (i:Nat) (t:ByteArray):∃z:Nat,z<8∧S.D.cnt z<16∧S.put kb i (-1) t=(0,{ S with D:=S.D.app z (Sl.aS kb i t),T:=dz S.T i z (S.D.cnt z) ((Sl.aS kb i t).extract 0 16),X:=fq S.X i t })∧Ph (S.put kb i (-1) t).2 (k+1)∧tot (S.put kb i (-1) t).2.D=tot S.D+1:=by
 obtain⟨z,_,h8,h16,hf,he⟩:=tK h (by omega) kb i (-1) (Or.inl (by omega)) t;refine⟨z,h8,h16,he,?_,?_⟩
 ·rw[he];rcases hp with⟨m,h1,h2,h3⟩ | ⟨h1,h2⟩ | h1
  ·have:=h3.tot (by omega);exact Or.inl ⟨m+1,by omega,by omega,h3.app (by omega) h8 h16 hf _⟩
  ·exact Or.inr (Or.inl ⟨h1.app h.c16 z h16 _,by show tot (S.D.app z _)+12≤k+1;rw[rC _ _ _ h8];omega⟩)
  exact Or.inr (Or.inr (by show tot (S.D.app z _)+24≤k+1;rw[rC _ _ _ h8];omega))
 rw[he];exact rC _ _ _ h8
theorem Ph.few {S:Vs} {k z:Nat} (hp:Ph S k) (hk:k≤131) (ht:96≤tot S.D) (Zw:tot S.D+24≤k→False) (hv:dP S.kI S.live 8=some z):(Sp.bM S.T (z:Int) 24).length≤4:=by
 rcases hp with⟨m,h1,h2,h3⟩ | ⟨⟨v,h1⟩,h2⟩ | h1
 ·have hm:=h3.tot (by omega);exact JC hv 6 (fun y hy _=>by have:=h3 y (by omega);omega)
 ·exact JC hv v h1
 exact(Zw h1).elim
theorem lN (T:Tb) (z:Int):(Sp.bM T z 24).length≤24:=by
 unfold Sp.bM;refine Nat.le_trans (List.length_filter_le _ _) ?_;simp
theorem Ph.room {S:Vs} {k z:Nat} (hp:Ph S k) (hk:k≤120) (hv:dP S.kI S.live 8=some z):tot S.D+(Sp.bM S.T (z:Int) 24).length≤128:=by
 have h1:=hp.most hk;by_cases h:tot S.D≤104
 ·have:=lN S.T (z:Int);omega
 have:=hp.few (by omega) (by omega) (by omega) hv;omega
theorem Ph.vic {S:Vs} {k:Nat} (hp:Ph S k) (hk:k<120) (ht:108≤tot S.D):∃z,dP S.kI S.live 8=some z:=by
 cases hv:dP S.kI S.live 8 with
 | some z=>exact⟨z,rfl⟩
 | none=>
  exfalso;have h0:=OP hv 0 (by omega);unfold Vs.kI at h0;rcases hp with⟨m,h1,h2,h3⟩ | ⟨h1,h2⟩ | h1
  ·have hm:=h3.tot (by omega);have:=h3 0 (by omega);omega
  ·omega
  omega
theorem Gy {S:Vs} {k:Nat} (h:S.on) (hp:Ph S k) (hk:k<120) (ht:108≤tot S.D) (kb kt:ByteArray):∃z,dP S.kI S.live 8=some z∧tot S.D+(Sp.bM S.T (z:Int) 24).length≤128∧five (S.ae kb kt).2.D∧tot (S.ae kb kt).2.D+12≤108∧108≤k:=by
 obtain⟨z,hv⟩:=hp.vic hk ht;have hl:=hp.room (by omega) hv;have hls:=lS h kb kt hv hl;have a5D:=hp.few (by omega) (by omega) (by omega) hv;have htt:=hls.tot;have Zw:=hp.most (by omega);refine⟨z,hv,hl,⟨z,fun y hy Zv=>?_⟩,by omega,?_⟩
 ·rcases hp with⟨m,h1,h2,h3⟩ | ⟨h1,h2⟩ | h1
  ·have hm:=h3.tot (by omega);have h4:=h3 y (by omega);have h5:=hls.cnt y Zv;have h6:=hls.on.c16 y (by omega);omega
  ·omega
  omega
 rcases hp with⟨m,h1,h2,h3⟩ | ⟨h1,h2⟩ | h1
 ·have hm:=h3.tot (by omega);omega
 ·omega
 omega
theorem Gz {kb kt:ByteArray} {S:Vs} {n:Int} (h:Good kb kt S n) (i:Nat):Good kb kt (S.set i 0 0 ⟨#[]⟩ ⟨#[]⟩) n:=by
 refine⟨⟨h.on.dead,h.on.fused,h.on.c16⟩,h.ok.clear i,fun j hj=>?_,h.low⟩;show At kb S.D S.D.cnt (dz S.T i 0 0 ⟨#[]⟩) (fq S.X i ⟨#[]⟩) j
 by_cases e:j=i
 ·subst e;obtain⟨a,b,c⟩:=lQ S.T j 0 0 ⟨#[]⟩;exact Or.inl ⟨⟨a,b,c⟩,by unfold fq;rw[if_pos rfl]⟩
 obtain⟨a,b,c⟩:=fM S.T i 0 0 ⟨#[]⟩ e;have hx:fq S.X i ⟨#[]⟩ j=S.X j:=by unfold fq;rw[if_neg e]
 unfold At;rw[dI _ _ _ _ _ e,rz _ _ _ _ _ e,a,b,c,hx];exact h.lie j hj
theorem qh {kb kt:ByteArray} {S:Vs} {n:Int} {k:Nat} (h:Good kb kt S n) (hn:n<1000000000) (hp:Ph S k) (hk:k<120) (i:Nat) (hi:i<24) (t:ByteArray) (ht:t.size≤80) :
  (S.write kb kt i t).1=0∧Good kb kt (S.write kb kt i t).2 (n+1)∧Ph (S.write kb kt i t).2 (k+1)∧(S.write kb kt i t).2.X=fq S.X i t∧S.c≤(S.write kb kt i t).2.c:=by
 have hw:S.write kb kt i t=if t=S.X i then (0,S) else if t=⟨#[]⟩ then (0,S.set i 0 0 ⟨#[]⟩ ⟨#[]⟩) else if S.free≤20 then (if (S.ae kb kt).1.2.2≠0 then ((S.ae kb kt).1.2.2,(S.ae kb kt).2) else (S.ae kb kt).2.put kb i (-1) t) else S.put kb i (-1) t:=by
  unfold Vs.write;rw[if_neg (by rw[h.on.dead];decide),if_neg (by omega),if_neg (by omega),Int.toNat_natCast]
 rw[hw];by_cases h1:t=S.X i
 ·rw[if_pos h1];exact⟨rfl,h.le (by omega),hp.le (by omega),by rw[h1,zU],Int.le_refl _⟩
 rw[if_neg h1];by_cases h2:t=⟨#[]⟩
 ·rw[if_pos h2];exact⟨rfl,(Gz h i).le (by omega),(hp.cnt rfl).le (by omega),by rw[h2];rfl,Int.le_refl _⟩
 rw[if_neg h2,a0s h.on.c16];by_cases h3:(128:Int)-(tot S.D:Int)≤20
 ·rw[if_pos h3];obtain⟨z,hv,hl,h5,htt,hk8⟩:=Gy h.on hp hk (by omega) kb kt;obtain⟨hg,_⟩:=Bw h (by omega) hv hl;have hls:=lS h.on kb kt hv hl;have hr:=(qc h.on kb kt hv hl).2.2;rw[if_neg (by rw[hr];simp)];generalize (S.ae kb kt).2=S1 at *;have hp1:Ph S1 k:=Or.inr (Or.inl ⟨h5,by omega⟩);obtain⟨y,hy8,hy16,he,hph,_⟩:=OW hg.on hp1 (by omega) kb i t;refine⟨by rw[he],xm hg i y hi hy8 hy16 (-1) t ht he,hph,by rw[he];show fq S1.X i t=_;rw[hls.X],?_⟩;rw[he];show S.c≤S1.c
  have:=hls.c;have:=h.ok.cnt;omega
 rw[if_neg h3];obtain⟨y,hy8,hy16,he,hph,_⟩:=OW h.on hp (by omega) kb i t;exact⟨by rw[he],(xm h i y hi hy8 hy16 (-1) t ht he).le (by omega),hph,by rw[he],by rw[he];exact Int.le_refl _⟩
theorem OX {kb kt:ByteArray} {S:Vs} {n:Int} {k:Nat} (h:Good kb kt S n) (hn:n<1000000000) (hp:Ph S k) :
  (S.flush kt).1=0∧Good kb kt (S.flush kt).2 (n+1)∧Ph (S.flush kt).2 k∧(S.flush kt).2.X=S.X∧(S.flush kt).2.c=S.c+1∧Told kb kt (S.flush kt).2.D (S.flush kt).2.c (S.flush kt).2.T (S.flush kt).2.X:=by
 obtain⟨h1,h2,h3,h4,h5,h6⟩:=iC h.on kt;obtain⟨hg,hs,hr⟩:=qg h (by omega);have hc:(S.flush kt).2.c=S.c+1:=by rw[h4,h.ok.cnt]
 refine⟨h1,hg,hp.cnt h3,h5,hc,Or.inr ⟨?_,hr,hg.ok.cnt,hs,hg.lie,hg.ok.txt⟩⟩;have:=h.ok.c0;omega
theorem qi (kb kt:ByteArray):Good kb kt (fresh mr 0) 0∧Ph (fresh mr 0) 0∧Told kb kt mr 0 Tb.zero (fun _=>⟨#[]⟩):=by
 refine⟨⟨⟨rfl,rfl,fun z hz=>by show 0≤16;omega⟩,DL mr (by show 0≤1;omega),fun i hi=>Or.inl ⟨⟨rfl,rfl,rfl⟩,rfl⟩,OU 0 (by omega)⟩,Or.inl ⟨0,by omega,by omega,fun z hz=>?_⟩,Or.inl ⟨rfl,fun _ _=>rfl⟩⟩;show 0=min 16 (0-16*z)
 omega
end Vl
end Go.Proofs.YtmhcfaaggkidjaaGreatDoor
end
