import Derived.Test.YtmhcfaaggkidjaaGreatDoorJ03
import Derived.Test.YtmhcfaaggkidjaaGreatDoorJ16
set_option linter.unusedSimpArgs false
set_option linter.unusedVariables false
section
namespace Go.Proofs.YtmhcfaaggkidjaaGreatDoor
open Go.RowKit
end Go.Proofs.YtmhcfaaggkidjaaGreatDoor
end
section
namespace Go.Proofs.YtmhcfaaggkidjaaGreatDoor
open Go.RowKit
end Go.Proofs.YtmhcfaaggkidjaaGreatDoor
end
section
namespace Go.Proofs.YtmhcfaaggkidjaaGreatDoor
open Go.RowKit
end Go.Proofs.YtmhcfaaggkidjaaGreatDoor
end
section
namespace Go.Proofs.YtmhcfaaggkidjaaGreatDoor
open Go.RowKit
theorem oz {D:Dv} (h:D.fused=false):D.may=true:=by unfold Dv.may;rw[h];rfl
end Go.Proofs.YtmhcfaaggkidjaaGreatDoor
end
section
namespace Go.Proofs.YtmhcfaaggkidjaaGreatDoor
open Go.RowKit
theorem uJ (E:Dv) (nk:Nat) (ks:Nat→Int) (ns:Nat) (sl:Nat→Bool) (z:Nat) (hz:z<8):(E.bG nk ks ns sl).cnt z=dC (E.cnt z) (E.sure z) (fV nk ks z):=by
 show (if z<8 then _ else _)=_
 rw[if_pos hz]
theorem DX (E:Dv) (nk:Nat) (ks:Nat→Int) (ns:Nat) (sl:Nat→Bool) (z j:Nat) (hj:j<dC (E.cnt z) (E.sure z) (fV nk ks z)):(E.bG nk ks ns sl).blk z j=E.blk z j:=by
 funext i
 show (if z<8∧_ then _ else _)=_
 rw[if_neg (by omega)]
theorem BC (E:Dv) (nk:Nat) (ks:Nat→Int) (ns:Nat) (sl:Nat→Bool) (hw:E.ws=[]):(E.bG nk ks ns sl).slot 0=E.slot 0∧(E.bG nk ks ns sl).slot 1=E.slot 1:=by
 have h:∀k,(E.bZ (fV nk ks) 8).aJ k (wX ns sl)=E.slot k:=fun k=>by
  unfold Dv.aJ zP;rw[show (E.bZ (fV nk ks) 8).ws=[] from hw]
  rfl
 exact⟨h 0,h 1⟩
theorem pq (E:Dv) (nk:Nat) (ks:Nat→Int) (ns:Nat) (sl:Nat→Bool):(E.bG nk ks ns sl).fused=false∧(E.bG nk ks ns sl).ws=[]:=⟨rfl,rfl⟩
theorem rG (D:Dv):D.synced.fused=D.fused∧D.synced.ws=[]∧D.synced.cnt=D.cnt∧D.synced.blk=D.blk∧∀z,z<8→D.synced.sure z=D.cnt z:=
 ⟨rfl,rfl,rfl,rfl,fun z hz=>by show (if z<8 then _ else _)=_;rw[if_pos hz]⟩
theorem Pp (c s:Nat) (x:Int):s≤dC c s x:=by unfold dC;omega
theorem tX {w:World} {base:Nat} {e:TypeId} {iv:Nat→Value} {n:Nat→Nat} {xs:Nat→List Value} (h:∀z,z<8→w.ownsRow base e 1 (iv z) (n z) (xs z)) (s0 s1:ByteArray):∀j,j<10→(az iv s0 s1 j).oneCell'=true:=fun j hj=>by
 unfold az;by_cases h8:j<8
 ·rw[if_pos h8];rcases (h j h8).2 with⟨e,_⟩ | ⟨g,cap,cur,e,_⟩<;>rw[e]<;>rfl
 rw[if_neg h8];split<;>rfl
end Go.Proofs.YtmhcfaaggkidjaaGreatDoor
end
section
namespace Go.Proofs.YtmhcfaaggkidjaaGreatDoor
set_option maxRecDepth 100000
open Go.RowKit
namespace Vl
open Go.RowKit
end Vl
end Go.Proofs.YtmhcfaaggkidjaaGreatDoor
end
