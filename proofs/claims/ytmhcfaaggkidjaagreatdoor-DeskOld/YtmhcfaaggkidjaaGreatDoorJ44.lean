import Derived.Deep.RegionHeld3
import Derived.Test.YtmhcfaaggkidjaaGreatDoorJ06
import Derived.Test.YtmhcfaaggkidjaaGreatDoorJ07
set_option linter.unusedSimpArgs false
set_option linter.unusedVariables false
namespace Go.Proofs.YtmhcfaaggkidjaaGreatDoor
set_option maxRecDepth 100000
namespace Sm
open Go.RowKit
def uq (n:Int):Int:=if n<10 then 48+n else 87+n
theorem WE (w:World) (k:IntKind) (n:Int) (h0:0≤n) (h1:n<16) :
  (Instr.index 9 (.string ⟨#[48,49,50,51,52,53,54,55,56,57,97,98,99,100,101,102]⟩) (.int k n)).run Tryz.prog w=.ok (.int .u8 (uq n)) w:=by
 obtain⟨m,rfl⟩:=Int.eq_ofNat_of_zero_le h0;have hm:m<16:=by omega
 clear h0 h1;rcases m with _ | _ | _ | _ | _ | _ | _ | _ | _ | _ | _ | _ | _ | _ | _ | _ | m
 all_goals first | (exfalso;omega) | skip
 all_goals (show _=_)
 all_goals kernel_rfl
def uV (s:ByteArray) (j:Nat):Int:=if j % 2=0 then uq ((s.data.toList.getD (j / 2) 0).toNat / 16:Nat) else uq ((s.data.toList.getD (j / 2) 0).toNat % 16:Nat)
theorem Qr (s:ByteArray) (k j:Nat) (hk:k<s.size) :
  aZ (aZ (fun j=>if j<2*k then .int .u8 (uV s j) else .int .u8 0) (2*k) (.int .u8 (uq (s[k].toNat / 16)))) (2*k+1) (.int .u8 (uq (s[k].toNat % 16))) j=if j<2*(k+1) then .int .u8 (uV s j) else .int .u8 0:=by
 have e:s.data.toList.getD k 0=s[k]:=by rw[List.getD_eq_getElem?_getD,List.getElem?_eq_getElem (by simpa using hk)];rfl
 unfold aZ;by_cases e1:j=2*k+1
 ·subst e1;rw[if_pos rfl,if_pos (by omega)];unfold uV;rw[if_neg (by omega),show (2*k+1) / 2=k by omega,e];rfl
 rw[if_neg e1];by_cases e2:j=2*k
 ·subst e2;rw[if_pos rfl,if_pos (by omega)];unfold uV;rw[if_pos (by omega),show 2*k / 2=k by omega,e];rfl
 rw[if_neg e2];show (if j<2*k then _ else _)=_
 by_cases h:j<2*k
 ·rw[if_pos h,if_pos (by omega)]
 rw[if_neg h,if_neg (by omega)]
set_option maxHeartbeats 1000000 in
theorem Cb (s:ByteArray) (w:World) (hs:s.size≤100000) :
  Calls Tryz.prog 94 #[.string s] w fun e w'=>e=.returned (.string (strOfNums ((List.range (2*s.size)).map (uV s))))∧Since w w':=by
 obtain⟨ti,hti,hz,hb1,hs1⟩:∃i,Tryz.prog.info? 5=some i∧i.zero=some (.int .u8 0)∧i.bytes=1∧i.size=1:=⟨_,rfl,by kernel_rfl,by kernel_rfl,by kernel_rfl⟩
 have hmk:=run_make (P:=Tryz.prog) w 38 5 ti _ Tryz.underlying38 hti hz .i64 .i64 0 (2*(s.size:Int)) (by omega) (by omega) (by rw[hb1];omega) (by omega);rw[hs1] at hmk;clear hti hz hb1 hs1;go_enter Tryz.func94,Tryz.ntmps94
 go_wp2_with fail
 clear hmk;go_loopw [11,3] (fun i o wr=>∃k:Nat,k≤s.size∧i=.int .i64 k∧o=.slice (some ⟨w.heap.size,0,none⟩) (2*k) (2*s.size)∧ak wr w.heap.size (2*s.size) (fun j=>if j<2*k then .int .u8 (uV s j) else .int .u8 0)∧Since w wr) (fun i _ _=>s.size-(intOf i).toNat)
 case atStart=>exact⟨0,by omega,rfl,rfl,ak.new w (2*s.size) _ _ _ (fun j hj=>by simp[madeCells,hj,Nat.mod_one]) _ rfl,(Since.refl w).alloc _⟩
 obtain⟨k,hk,rfl,rfl,hC,hS⟩:=hrel;by_cases hlt:k<s.size
 ·have hlw:=hC.lt (by omega);have a1:=hC.cell (2*k) (by omega);have a2:=hC.cell (2*k+1) (by omega);have f1:=hC.frozen (2*k) (by omega);have f2:=hC.frozen (2*k+1) (by omega);rw[if_neg (by omega)] at a1 a2;have z0:(0:Int)≤k:=by omega
  have z1:(k:Int)<s.size:=by omega
  have z2:2*k+2≤2*s.size:=by omega
  have hbl:s[k].toNat<256:=s[k].toNat_lt;have q2:((s[k].toNat:Int) / 16)<16:=by omega
  have q1:(0:Int)≤((s[k].toNat:Int) / 16):=by omega
  have q3:=u8_and15 (x:=(s[k].toNat:Int)) (by omega) (by omega);have q4:(0:Int)≤((s[k].toNat:Int) % 16):=by omega
  have q5:((s[k].toNat:Int) % 16)<16:=by omega
  have x1:=fun w=>WE w .u8 _ q1 q2
  have x2:=fun w=>WE w .u8 _ q4 q5
  go_wp2_with fail
  go_region_held3 (fun _=>True) (trivial) (fail)
  all_goals
   have hC2:=(hC.set (2*k) (by omega) (.int .u8 (uq (s[k].toNat / 16)))).set (2*k+1) (by omega) (.int .u8 (uq (s[k].toNat % 16)));have hS2:=(hS.setCell (p:=⟨w.heap.size,2*k,none⟩) (Nat.le_refl _) (.int .u8 (uq (s[k].toNat / 16)))).setCell (p:=⟨w.heap.size,2*k+1,none⟩) (Nat.le_refl _) (.int .u8 (uq (s[k].toNat % 16)));have fT:=hC2.since (((Since.refl _).alloc (.cells #[.int .u8 (uq (s[k].toNat / 16)),.int .u8 (uq (s[k].toNat % 16))] 5)).drew);have fu:=(hS2.alloc (.cells #[.int .u8 (uq (s[k].toNat / 16)),.int .u8 (uq (s[k].toNat % 16))] 5)).drew;clear a1 a2 f1 f2 x1 x2 q1 q2 q3 q4 q5;go_wp2_with fail
   go_roundw
   case rel=>
    exact⟨k+1,by omega,by go_num,by rfl,fT.congr (fun j hj=>Qr s k j hlt),fu⟩
   case measure=>simp[intOf];omega
 have hke:k=s.size:=by omega
 subst hke;have hcv:=jG wr ((List.range (2*s.size)).map (uV s)) w.heap.size (2*s.size) (2*s.size) (by simp) (fun i hi=>by
  have hi':i<2*s.size:=by simpa using hi
  rw[hC.cell i hi',if_pos hi'];simp[hi'])
 go_wp2_with fail
 go_ret;exact⟨rfl,hS⟩
end Sm
end Go.Proofs.YtmhcfaaggkidjaaGreatDoor
