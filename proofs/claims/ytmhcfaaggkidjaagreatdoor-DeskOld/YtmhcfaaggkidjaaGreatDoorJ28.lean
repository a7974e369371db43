import Derived.Test.YtmhcfaaggkidjaaGreatDoorJ04
import Derived.Test.YtmhcfaaggkidjaaGreatDoorJ17
set_option linter.unusedSimpArgs false
set_option linter.unusedVariables false
section
namespace Go.Proofs.YtmhcfaaggkidjaaGreatDoor
open Go.RowKit
end Go.Proofs.YtmhcfaaggkidjaaGreatDoor
end
section
namespace Go.Proofs.YtmhcfaaggkidjaaGreatDoor
open Go.RowKit
set_option maxHeartbeats 1000000 in
theorem a0U (b n:Nat) (v1 v2:Value) (l1 l2:Nat→ByteArray) (w:World) (h1:Sl w b v1 n (fun j=>.string (l1 j))) (h2:Sl w b v2 n (fun j=>.string (l2 j))) (he:∀j,j<n→l1 j=l2 j) (hn:n≤1000) :
  Calls Tryz.prog 27 #[v1,v2] w fun e w'=>e=.returned (.bool true)∧∃m,w'=w.drewN m:=by
 obtain⟨a1,c1,rfl,hs1⟩:=h1;obtain⟨a2,c2,rfl,hs2⟩:=h2;have bY:Hid _:=hs1;have HS2:Hid _:=hs2;have HE:Hid _:=he;clear hs1 hs2 he;go_enter Tryz.func27,Tryz.ntmps27
 go_wp2_with fail
 go_loopw [13] (fun i wr=>∃k:Nat,k≤n∧i=.int .i64 k∧∃m,wr=w.drewN m) (fun i _=>n-(intOf i).toNat)
 case atStart=>exact⟨0,by omega,rfl,0,rfl⟩
 obtain⟨k,hk,rfl,mm,hmm⟩:=hrel;have hS:Since w wr:=by rw[hmm];exact(Since.refl w).drewN mm
 have SL:Hid (wr=w.drewN mm):=hmm;clear hmm;by_cases hlt:k<n
 ·have hlt2:(k:Int)<n:=by omega
  obtain⟨XR,ko1,rfl,_,hc1⟩:=bY.out (by omega);obtain⟨kb2,ko2,rfl,_,hc2⟩:=HS2.out (by omega);have q1:wr.cell? ⟨XR,ko1+k,none⟩=some (.string (l1 k)):=(hS.cell (p:=⟨XR,ko1+k,none⟩) (World.block_lt_of_cell? w _ (hc1 k hlt))).trans (hc1 k hlt);have q2:wr.cell? ⟨kb2,ko2+k,none⟩=some (.string (l2 k)):=(hS.cell (p:=⟨kb2,ko2+k,none⟩) (World.block_lt_of_cell? w _ (hc2 k hlt))).trans (hc2 k hlt);rw[←HE.out k hlt] at q2;clear hc1 hc2 hS;go_wp2_with fail
  go_quiet (fail)
  go_wp2_with fail
  go_roundw
  case rel=>exact⟨k+1,by omega,by go_num,_,by rw[SL.out,World.drewN_drewN]⟩
  case measure=>simp[intOf];omega
 have hke:k=n:=by omega
 subst hke;clear hS;go_wp2_with fail
 go_ret;exact⟨rfl,mm,SL.out⟩
theorem a1G (b n:Nat) (v1 v2:Value) (l1 l2:Nat→ByteArray) (w:World) (h1:Sl w b v1 n (fun j=>.string (l1 j))) (h2:Sl w b v2 n (fun j=>.string (l2 j))) (he:∀j,j<n→l1 j=l2 j) (hn:n≤1000) :
  Calls Tryz.prog 27 #[v1,v2] w fun e w'=>e=.returned (.bool true)∧Since w w':=by
 refine(a0U b n v1 v2 l1 l2 w h1 h2 he hn).mono ?_;rintro e w' ⟨rfl,m,rfl⟩;exact⟨rfl,(Since.refl w).drewN m⟩
end Go.Proofs.YtmhcfaaggkidjaaGreatDoor
end
section
namespace Go.Proofs.YtmhcfaaggkidjaaGreatDoor
open Go.RowKit
end Go.Proofs.YtmhcfaaggkidjaaGreatDoor
end
section
namespace Go.Proofs.YtmhcfaaggkidjaaGreatDoor
open Go.RowKit
theorem oz {D:Dv} (h:D.fused=false):D.may=true:=by unfold Dv.may;rw[h];rfl
end Go.Proofs.YtmhcfaaggkidjaaGreatDoor
end
section
namespace Go.Proofs.YtmhcfaaggkidjaaGreatDoor
open Go.RowKit
theorem uJ (E:Dv) (nk:Nat) (ks:Nat→Int) (ns:Nat) (sl:Nat→Bool) (z:Nat) (hz:z<8):(E.bG nk ks ns sl).cnt z=dC (E.cnt z) (E.sure z) (fV nk ks z):=by
 show (if z<8 then _ else _)=_
 rw[if_pos hz]
theorem DX (E:Dv) (nk:Nat) (ks:Nat→Int) (ns:Nat) (sl:Nat→Bool) (z j:Nat) (hj:j<dC (E.cnt z) (E.sure z) (fV nk ks z)):(E.bG nk ks ns sl).blk z j=E.blk z j:=by
 funext i
 show (if z<8∧_ then _ else _)=_
 rw[if_neg (by omega)]
theorem BC (E:Dv) (nk:Nat) (ks:Nat→Int) (ns:Nat) (sl:Nat→Bool) (hw:E.ws=[]):(E.bG nk ks ns sl).slot 0=E.slot 0∧(E.bG nk ks ns sl).slot 1=E.slot 1:=by
 have h:∀k,(E.bZ (fV nk ks) 8).aJ k (wX ns sl)=E.slot k:=fun k=>by
  unfold Dv.aJ zP;rw[show (E.bZ (fV nk ks) 8).ws=[] from hw]
  rfl
 exact⟨h 0,h 1⟩
theorem pq (E:Dv) (nk:Nat) (ks:Nat→Int) (ns:Nat) (sl:Nat→Bool):(E.bG nk ks ns sl).fused=false∧(E.bG nk ks ns sl).ws=[]:=⟨rfl,rfl⟩
theorem rG (D:Dv):D.synced.fused=D.fused∧D.synced.ws=[]∧D.synced.cnt=D.cnt∧D.synced.blk=D.blk∧∀z,z<8→D.synced.sure z=D.cnt z:=
 ⟨rfl,rfl,rfl,rfl,fun z hz=>by show (if z<8 then _ else _)=_;rw[if_pos hz]⟩
theorem Pp (c s:Nat) (x:Int):s≤dC c s x:=by unfold dC;omega
theorem tX {w:World} {base:Nat} {e:TypeId} {iv:Nat→Value} {n:Nat→Nat} {xs:Nat→List Value} (h:∀z,z<8→w.ownsRow base e 1 (iv z) (n z) (xs z)) (s0 s1:ByteArray):∀j,j<10→(az iv s0 s1 j).oneCell'=true:=fun j hj=>by
 unfold az;by_cases h8:j<8
 ·rw[if_pos h8];rcases (h j h8).2 with⟨e,_⟩ | ⟨g,cap,cur,e,_⟩<;>rw[e]<;>rfl
 rw[if_neg h8];split<;>rfl
end Go.Proofs.YtmhcfaaggkidjaaGreatDoor
end
section
namespace Go.Proofs.YtmhcfaaggkidjaaGreatDoor
set_option maxRecDepth 100000
open Go.RowKit
namespace Vl
open Go.RowKit
end Vl
end Go.Proofs.YtmhcfaaggkidjaaGreatDoor
end
