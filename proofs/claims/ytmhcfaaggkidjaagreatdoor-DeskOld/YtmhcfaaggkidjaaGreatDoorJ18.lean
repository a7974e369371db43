import Derived.BigQuiet
import Derived.Test.YtmhcfaaggkidjaaGreatDoorJ12
set_option linter.unusedSimpArgs false
set_option linter.unusedVariables false
section
namespace Go.Proofs.YtmhcfaaggkidjaaGreatDoor
set_option maxRecDepth 100000
namespace Sp
open Go.RowKit
def Ls (w:World) (b:Nat) (v:Value) (n:Nat) (f:Nat→Int):Prop:=∃(a:Option Addr) (c:Nat),v=.slice a n c∧n≤c∧(0<n→∃k o,a=some ⟨k,o,none⟩∧k<b∧∀j,j<n→w.cell? ⟨k,o+j,none⟩=some (.int .i64 (f j)))
theorem Ls.since {w w':World} {b:Nat} {v:Value} {n:Nat} {f:Nat→Int} (h:Ls w b v n f) (hs:Since w w'):Ls w' b v n f:=by
 obtain⟨a,c,hv,hc,h⟩:=h;refine⟨a,c,hv,hc,fun hn=>?_⟩;obtain⟨k,o,ha,hk,hc⟩:=h hn;exact⟨k,o,ha,hk,fun j hj=>(hs.cell (p:=⟨k,o+j,none⟩) (World.block_lt_of_cell? w _ (hc j hj))).trans (hc j hj)⟩
def lack (x:Int):Int:=if x<0 then 16 else if x<16 then 16-x else 0
def iB (f:Nat→Int):Nat→Int
 | 0=>0
 | k+1=>iB f k+lack (f k)
theorem Gu (x:Int):0≤lack x∧lack x≤16:=by unfold lack;split<;>(try split)<;>omega
theorem lM (f:Nat→Int) (k:Nat):0≤iB f k∧iB f k≤16*k:=by
 induction k with
 | zero=>simp[iB]
 | succ k ih=>
  have:=Gu (f k);unfold iB;omega
def nu (n:Nat) (f:Nat→Int) (but:Int) (z:Int) (ok:Bool):Prop:=
 (ok=true∧∃i:Nat,i<n∧z=i∧(i:Int)≠but∧f i<16∧∀j,j<i→(j:Int)=but∨16≤f j)∨(ok=false∧z=0∧∀j,j<n→(j:Int)=but∨16≤f j)
theorem nu.one {n:Nat} {f:Nat→Int} {but z z':Int} {ok ok':Bool} (h:nu n f but z ok) (h':nu n f but z' ok'):z=z'∧ok=ok':=by
 rcases h with⟨rfl,i,hi,rfl,hb,hf,hl⟩ | ⟨rfl,rfl,hl⟩<;>rcases h' with⟨rfl,i',hi',rfl,hb',hf',hl'⟩ | ⟨rfl,rfl,hl'⟩
 ·refine⟨?_,rfl⟩;by_cases h1:i<i'
  ·rcases hl' i h1 with h2 | h2<;>omega
  by_cases h2:i'<i
  ·rcases hl i' h2 with h3 | h3<;>omega
  omega
 ·rcases hl' i hi with h2 | h2<;>omega
 ·rcases hl i' hi' with h2 | h2<;>omega
 exact⟨rfl,rfl⟩
end Sp
end Go.Proofs.YtmhcfaaggkidjaaGreatDoor
end
section
namespace Go.Proofs.YtmhcfaaggkidjaaGreatDoor
set_option maxRecDepth 100000
namespace Sp
open Go.RowKit
def TE (n m:Nat) (f:Nat→Int) (i:Nat):Prop:=i<n∧i<m∧16≤f i
def TF (n m:Nat) (f g:Nat→Int) (k:Nat) (z:Int) (ok:Bool):Prop:=
 (ok=true∧∃v:Nat,z=v∧k≤v∧TE n m f v∧∀i,k≤i→TE n m f i→g v<g i∨(g v=g i∧v≤i))∨(ok=false∧z=0∧∀i,k≤i→¬TE n m f i)
def ru (n m:Nat) (f g:Nat→Int) (z:Int) (ok:Bool):Prop:=TF n m f g 0 z ok
theorem ru.one {n m:Nat} {f g:Nat→Int} {z z':Int} {ok ok':Bool} (h:ru n m f g z ok) (h':ru n m f g z' ok'):z=z'∧ok=ok':=by
 rcases h with⟨rfl,v,rfl,_,hv,hl⟩ | ⟨rfl,rfl,hl⟩<;>rcases h' with⟨rfl,v',rfl,_,hv',hl'⟩ | ⟨rfl,rfl,hl'⟩
 ·refine⟨?_,rfl⟩;have h1:=hl v' (by omega) hv';have h2:=hl' v (by omega) hv;omega
 ·exact absurd hv (hl' v (by omega))
 ·exact absurd hv' (hl v' (by omega))
 exact⟨rfl,rfl⟩
end Sp
end Go.Proofs.YtmhcfaaggkidjaaGreatDoor
end
section
namespace Go.Proofs.YtmhcfaaggkidjaaGreatDoor
set_option maxRecDepth 100000
namespace Sp
open Go.RowKit
set_option maxHeartbeats 1000000 in
theorem kV (v:Value) (n b:Nat) (f:Nat→Int) (w:World) (h:Ls w b v n f) (hn:n≤1000) :
  Calls Tryz.prog 209 #[v] w fun e w'=>e=.returned (.int .i64 (iB f n))∧w'=w:=by
 obtain⟨a,c,rfl,hc,h'⟩:=h;have HL:Hid (0<n→∃k o,a=some ⟨k,o,none⟩∧k<b∧∀j,j<n→w.cell? ⟨k,o+j,none⟩=some (.int .i64 (f j))):=h';clear h';go_enter Tryz.func209,Tryz.ntmps209
 go_wp2_with fail
 go_loopw [8,3,5] (fun i s _ wr=>∃k:Nat,k≤n∧i=.int .i64 k∧s=.int .i64 (iB f k)∧wr=w) (fun i _ _ _=>n-(intOf i).toNat)
 case atStart=>exact⟨0,by omega,rfl,rfl,rfl⟩
 obtain⟨k,hk,rfl,rfl,rfl⟩:=hrel;by_cases hlt:k<n
 ·have hlt2:(k:Int)<n:=by omega
  obtain⟨lk,lo,rfl,_,hcell⟩:=HL.out (by omega);have q:=hcell k hlt;clear hcell;have hr:=lM f k;have hr2:=lM f (k+1);have hs:iB f (k+1)=iB f k+lack (f k):=rfl;have HS:Hid (iB f (k+1)=iB f k+lack (f k)):=hs;by_cases h0:f k<0
  ·have hl:lack (f k)=16:=by unfold lack;rw[if_pos h0]
   rw[hl] at HS;clear hs hl;go_wp2_with fail
   go_roundw
   case rel=>exact⟨k+1,by omega,by go_num,by rw[HS.out],trivial⟩
   case measure=>simp[intOf];omega
  by_cases h16:f k<16
  ·have hl:lack (f k)=16-f k:=by unfold lack;rw[if_neg h0,if_pos h16]
   rw[hl] at HS;clear hs hl;go_wp2_with fail
   go_roundw
   case rel=>exact⟨k+1,by omega,by go_num,by rw[HS.out],trivial⟩
   case measure=>simp[intOf];omega
  have hl:lack (f k)=0:=by unfold lack;rw[if_neg h0,if_neg h16]
  rw[hl] at HS;clear hs hl;go_wp2_with fail
  go_roundw
  case rel=>exact⟨k+1,by omega,by go_num,by rw[HS.out,Int.add_zero];congr 1;split<;>omega,trivial⟩
  case measure=>simp[intOf];omega
 have hke:k=n:=by omega
 subst hke;go_wp2_with fail
 go_ret;exact⟨rfl,rfl⟩
set_option maxHeartbeats 1000000 in
theorem a0l (v:Value) (n b:Nat) (f:Nat→Int) (but:Int) (w:World) (h:Ls w b v n f) (hn:n≤1000) :
  Calls Tryz.prog 228 #[v,.int .i64 but] w fun e w'=>(∃z ok,e=.returned (.tuple #[.int .i64 z,.bool ok])∧nu n f but z ok)∧w'=w:=by
 obtain⟨a,c,rfl,hc,h'⟩:=h;have HL:Hid (0<n→∃k o,a=some ⟨k,o,none⟩∧k<b∧∀j,j<n→w.cell? ⟨k,o+j,none⟩=some (.int .i64 (f j))):=h';clear h';go_enter Tryz.func228,Tryz.ntmps228
 go_wp2_with fail
 go_loopw [10,6,7] (fun i _ _ wr=>∃k:Nat,k≤n∧i=.int .i64 k∧(∀j,j<k→(j:Int)=but∨16≤f j)∧wr=w) (fun i _ _ _=>n-(intOf i).toNat)
 case atStart=>exact⟨0,by omega,rfl,fun j hj=>by omega,rfl⟩
 obtain⟨k,hk,rfl,hall,rfl⟩:=hrel;have HA:Hid (∀j,j<k→(j:Int)=but∨16≤f j):=hall;clear hall;by_cases hlt:k<n
 ·have hlt2:(k:Int)<n:=by omega
  obtain⟨lk,lo,rfl,_,hcell⟩:=HL.out (by omega);have q:=hcell k hlt;clear hcell;by_cases h16:f k<16
  ·by_cases hb:(k:Int)=but
   ·have HA2:Hid (∀j,j<k+1→(j:Int)=but∨16≤f j):=fun j hj=>by
     by_cases e:j=k
     ·subst e;exact Or.inl hb
     exact HA.out j (by omega)
    subst hb;go_wp2_with fail
    go_roundw
    case rel=>exact⟨k+1,by omega,by go_num,HA2.out,trivial⟩
    case measure=>simp[intOf];omega
   go_wp2_with fail
   go_ret2;exact⟨⟨(k:Int),true,rfl,Or.inl ⟨rfl,k,hlt,rfl,hb,h16,HA.out⟩⟩,rfl⟩
  have HA2:Hid (∀j,j<k+1→(j:Int)=but∨16≤f j):=fun j hj=>by
   by_cases e:j=k
   ·subst e;exact Or.inr (by omega)
   exact HA.out j (by omega)
  go_wp2_with fail
  go_roundw
  case rel=>exact⟨k+1,by omega,by go_num,HA2.out,trivial⟩
  case measure=>simp[intOf];omega
 have hke:k=n:=by omega
 subst hke;go_wp2_with fail
 go_ret2;exact⟨⟨0,false,rfl,Or.inr ⟨rfl,rfl,HA.out⟩⟩,rfl⟩
def cz (f g:Nat→Int) (k:Nat) (z:Int) (ok:Bool):Prop:=
 (ok=true∧∃v:Nat,z=v∧v<k∧16≤f v∧∀i,i<k→16≤f i→g v<g i∨(g v=g i∧v≤i))∨(ok=false∧z=0∧∀i,i<k→¬16≤f i)
theorem cz.is {n m:Nat} {f g:Nat→Int} {k:Nat} {z:Int} {ok:Bool} (h:cz f g k z ok) (h1:k≤n) (h2:k≤m) (h3:n≤k∨m≤k):ru n m f g z ok:=by
 have hi:∀i,TE n m f i→i<k:=fun i hc=>by have:=hc.1;have:=hc.2.1;omega
 rcases h with⟨rfl,v,rfl,hv,hf,hl⟩ | ⟨rfl,rfl,hl⟩
 ·exact Or.inl ⟨rfl,v,rfl,by omega,⟨by omega,by omega,hf⟩,fun i _ hc=>hl i (hi i hc) hc.2.2⟩
 exact Or.inr ⟨rfl,rfl,fun i _ hc=>hl i (hi i hc) hc.2.2⟩
theorem cz.zero (f g:Nat→Int):cz f g 0 0 false:=Or.inr ⟨rfl,rfl,fun i hi=>by omega⟩
theorem cz.skip {f g:Nat→Int} {k:Nat} {z:Int} {ok:Bool} (h:cz f g k z ok) (hc:¬16≤f k):cz f g (k+1) z ok:=by
 have hi:∀i,i<k+1→16≤f i→i<k:=fun i h1 h2=>by
  by_cases e:i=k
  ·subst e;exact absurd h2 hc
  omega
 rcases h with⟨rfl,v,rfl,hv,hf,hl⟩ | ⟨rfl,rfl,hl⟩
 ·exact Or.inl ⟨rfl,v,rfl,by omega,hf,fun i a b=>hl i (hi i a b) b⟩
 exact Or.inr ⟨rfl,rfl,fun i a b=>hl i (hi i a b) b⟩
theorem cz.first {f g:Nat→Int} {k:Nat} {z:Int} (h:cz f g k z false) (hc:16≤f k):cz f g (k+1) k true:=by
 rcases h with⟨h0,_⟩ | ⟨_,rfl,hl⟩
 ·cases h0
 refine Or.inl ⟨rfl,k,rfl,by omega,hc,fun i a b=>?_⟩;by_cases e:i=k
 ·subst e;exact Or.inr ⟨rfl,by omega⟩
 exact absurd b (hl i (by omega))
theorem cz.take {f g:Nat→Int} {k v:Nat} (h:cz f g k v true) (hc:16≤f k) (hlt:g k<g v):cz f g (k+1) k true:=by
 rcases h with⟨_,v',hv,h1,h2,h3⟩ | ⟨h0,_⟩
 ·have hvv:v'=v:=by omega
  subst hvv;refine Or.inl ⟨rfl,k,rfl,by omega,hc,fun i a b=>?_⟩;by_cases e:i=k
  ·subst e;exact Or.inr ⟨rfl,by omega⟩
  rcases h3 i (by omega) b with h4 | h4<;>exact Or.inl (by omega)
 cases h0
theorem cz.keep {f g:Nat→Int} {k v:Nat} (h:cz f g k v true) (hle:¬g k<g v):cz f g (k+1) v true:=by
 rcases h with⟨_,v',hv,h1,h2,h3⟩ | ⟨h0,_⟩
 ·have hvv:v'=v:=by omega
  subst hvv;refine Or.inl ⟨rfl,v',rfl,by omega,h2,fun i a b=>?_⟩;by_cases e:i=k
  ·subst e;by_cases e2:g v'<g i
   ·exact Or.inl e2
   exact Or.inr ⟨by omega,by omega⟩
  exact h3 i (by omega) b
 cases h0
theorem cz.lt {f g:Nat→Int} {k:Nat} {z:Int} (h:cz f g k z true):∃v:Nat,z=v∧v<k:=by
 rcases h with⟨_,v,hv,h2,_⟩ | ⟨h0,_⟩
 ·exact⟨v,hv,h2⟩
 cases h0
set_option maxHeartbeats 4000000 in
theorem Gv (v u:Value) (n m b:Nat) (f g:Nat→Int) (w:World) (h:Ls w b v n f) (h2:Ls w b u m g) (hn:n≤1000) (hm:m≤1000) :
  Calls Tryz.prog 204 #[v,u] w fun e w'=>(∃z ok,e=.returned (.tuple #[.int .i64 z,.bool ok])∧ru n m f g z ok)∧Since w w':=by
 obtain⟨a,c,rfl,hc,h'⟩:=h;obtain⟨a2,c2,rfl,hc2,h2'⟩:=h2;have HL:Hid (0<n→∃k o,a=some ⟨k,o,none⟩∧k<b∧∀j,j<n→w.cell? ⟨k,o+j,none⟩=some (.int .i64 (f j))):=h';have HM:Hid (0<m→∃k o,a2=some ⟨k,o,none⟩∧k<b∧∀j,j<m→w.cell? ⟨k,o+j,none⟩=some (.int .i64 (g j))):=h2';clear h' h2';have HN:Hid (∀k:Nat,k<min n m→(k:Int)<n):=fun k hk=>by omega
 have HO:Hid (∀k:Nat,k<min n m→(k:Int)<m):=fun k hk=>by omega
 have HI:Hid (∀(z:Int) (ok:Bool),cz f g (min n m) z ok→ru n m f g z ok):=fun z ok h=>h.is (by omega) (by omega) (by omega)
 have h20:=hn;have h21:=hm;obtain⟨t,hmin,ht,htn,htm⟩:∃t:Nat,min n m=t∧(t=n∧¬(m:Int)<n∨t=m∧(m:Int)<n)∧t≤n∧t≤m:=⟨min n m,rfl,by omega,by omega,by omega⟩
 rw[hmin] at HN HO HI;clear hmin;have HL2:Hid (∀k,k<t→∃lk lo,a=some ⟨lk,lo,none⟩∧w.cell? ⟨lk,lo+k,none⟩=some (.int .i64 (f k))):=fun k hk=>by
  obtain⟨lk,lo,h1,_,h2⟩:=HL.out (by omega);exact⟨lk,lo,h1,h2 k (by omega)⟩
 have OE:Hid (∀k,k<t→∃lk lo,a2=some ⟨lk,lo,none⟩∧∀j,j<t→w.cell? ⟨lk,lo+j,none⟩=some (.int .i64 (g j))):=fun k hk=>by
  obtain⟨lk,lo,h1,_,h2⟩:=HM.out (by omega);exact⟨lk,lo,h1,fun j hj=>h2 j (by omega)⟩
 clear HL HM;rcases ht with⟨rfl,ht⟩ | ⟨rfl,ht⟩<;>(
  go_enter Tryz.func204,Tryz.ntmps204
  go_wp2_with fail
  clear ht;go_loopw [14,6,7,8] (fun i z ok _ wr=>∃(k:Nat) (zz:Int) (o:Bool),k≤t∧i=.int .i64 (k:Int)∧z=.int .i64 zz∧ok=.bool o∧cz f g k zz o∧Since w wr) (fun i _ _ _ _=>t-(intOf i).toNat)
  case atStart=>exact⟨0,0,false,by omega,rfl,rfl,rfl,cz.zero f g,Since.refl _⟩
  obtain⟨k,zz,o,hk,rfl,rfl,rfl,hv,hs⟩:=hrel;have HV:Hid (cz f g k zz o):=hv;have HS:Hid (Since w wr):=hs;clear hv hs;by_cases hkt:k<t
  ·have a2t:(k:Int)<t:=by omega
   have hk1:=HN.out k hkt;have hk2:=HO.out k hkt;obtain⟨lk,lo,rfl,hcell⟩:=HL2.out k hkt;obtain⟨mk,mo,rfl,hcell2⟩:=OE.out k hkt;have q:=(HS.out.cell (p:=⟨lk,lo+k,none⟩) (World.block_lt_of_cell? w _ hcell)).trans hcell;have q2:=(HS.out.cell (p:=⟨mk,mo+k,none⟩) (World.block_lt_of_cell? w _ (hcell2 k hkt))).trans (hcell2 k hkt);by_cases h16:f k<16
   ·have Jy:Hid (cz f g (k+1) zz o):=HV.out.skip (by omega);clear hcell hcell2 q2;go_wp2_with fail
    go_roundw
    case rel=>exact⟨k+1,zz,o,by omega,by go_num,rfl,rfl,Jy.out,HS.out⟩
    case measure=>simp[intOf];omega
   have hge:16≤f k:=by omega
   cases o with
   | false=>
    have Jy:Hid (cz f g (k+1) k true):=HV.out.first hge;clear hcell hcell2 hge;go_wp2_with fail
    go_quiet (fail)
    go_wp2_with fail
    go_roundw
    case rel=>exact⟨k+1,k,true,by omega,by go_num,rfl,rfl,Jy.out,HS.out.drewN _⟩
    case measure=>simp[intOf];omega
   | true=>
    obtain⟨vv,rfl,hvk⟩:=HV.out.lt;have q3:=(HS.out.cell (p:=⟨mk,mo+vv,none⟩) (World.block_lt_of_cell? w _ (hcell2 vv (by omega)))).trans (hcell2 vv (by omega));have a5A:=HO.out vv (by omega);by_cases hle:g k<g vv
    ·have a2u:decide (g k<g vv)=true:=by simp;omega
     have Jy:Hid (cz f g (k+1) k true):=HV.out.take hge hle;clear hcell hcell2 hge hle;go_wp2_with fail
     go_quiet (fail)
     go_wp2_with fail
     go_roundw
     case rel=>exact⟨k+1,k,true,by omega,by go_num,rfl,rfl,Jy.out,HS.out.drewN _⟩
     case measure=>simp[intOf];omega
    have a2u:decide (g k<g vv)=false:=by simp;omega
    have Jy:Hid (cz f g (k+1) vv true):=HV.out.keep hle;clear hcell hcell2 hge hle;go_wp2_with fail
    go_quiet (fail)
    go_wp2_with fail
    go_roundw
    case rel=>exact⟨k+1,vv,true,by omega,by go_num,rfl,rfl,Jy.out,HS.out.drewN _⟩
    case measure=>simp[intOf];omega
  have hke:k=t:=by omega
  have Jy:Hid (ru _ _ f g zz o):=HI.out zz o (hke▸HV.out);have a2t:¬(k:Int)<t:=by omega
  clear hke;cases o with
  | false=>
   go_wp2_with fail
   go_ret2;exact⟨⟨zz,Or.inl ⟨rfl,Jy.out⟩⟩,HS.out⟩
  | true=>
   go_wp2_with fail
   go_ret2;exact⟨⟨zz,Or.inr ⟨rfl,Jy.out⟩⟩,HS.out⟩)
end Sp
end Go.Proofs.YtmhcfaaggkidjaaGreatDoor
end
