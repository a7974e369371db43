import Derived.Lib.ConvBytes
import Derived.Test.YtlgbfkcpdelcbaaGreatDoorJ41
set_option linter.unusedSimpArgs false
set_option linter.unusedVariables false
set_option maxHeartbeats 8000000
set_option maxRecDepth 100000
namespace Go.Proofs.YtlgbfkcpdelcbaaGreatDoor
namespace Sm.Sr
open Go.RowKit
attribute [local go_sem ↓] fo
theorem Uy (w:World)(s:ByteArray):aA (Lib.bytesWorld w 5 s) w.heap.size s.size (fun j=>.int .u8 ((aT s j).toNat:Int)) where
 cell j hj:=Lib.bytesWorld_cell w 5 s j hj
 frozen j hj:=by
  have hge:=grownCap_ge w s.size 0 5;have hsz:(Lib.bytesCells w 5 s).size=grownCap w s.size 0 5:=by
   have:s.data.size=s.size:=rfl;simp[Lib.bytesCells];omega
  simp only[World.frozen?,Lib.bytesWorld_at_new];simp;omega
theorem qJ (w:World)(s:ByteArray):Since w (Lib.bytesWorld w 5 s):=
 ⟨rfl,rfl,rfl,by rw[Lib.bytesWorld_size];omega,fun k hk=>Lib.bytesWorld_at_old w 5 s k hk⟩
theorem xg (w:World)(s:ByteArray):(convert 9 159 (.string s)).run Tryz.prog w=.ok (.slice (some ⟨w.heap.size,0,none⟩) s.size (grownCap w s.size 0 5)) (Lib.bytesWorld w 5 s):=
 Lib.run_convert_string_bytes w 9 159 5 s Tryz.underlying9 Tryz.underlying159 Tryz.underlying5
def ve (key ah:ByteArray)(i:Nat):Int:=byteOf (mh (dx key ah (BitVec.ofNat 32 (1+i / 64)))) (i % 64)
def iK (key ah:ByteArray)(t:Nat):List Int:=(List.range (64*t)).map (ve key ah)
theorem JZ (key ah:ByteArray)(t:Nat):(iK key ah t).length=64*t:=by simp[iK]
theorem Ff (key ah:ByteArray)(t:Nat):iK key ah (t+1)=iK key ah t++iP key (BitVec.ofInt 32 (1+(t:Int))) ah:=by
 have e:BitVec.ofInt 32 (1+(t:Int))=BitVec.ofNat 32 (1+t):=by
  rw[show (1+(t:Int))=((1+t:Nat):Int) by omega,BitVec.ofInt_natCast]
 unfold iK iP bytesOf;rw[e,show 64*(t+1)=64*t+64 by omega,List.range_add,List.map_append,List.map_map];have h2:(List.range 64).map (ve key ah ∘ fun x=>64*t+x)=(List.range 64).map (byteOf (mh (dx key ah (BitVec.ofNat 32 (1+t))))):=by
  refine List.map_congr_left (fun i hi=>?_);have hi':i<64:=List.mem_range.1 hi;show ve key ah (64*t+i)=_
  unfold ve;rw[show (64*t+i) / 64=t by omega,show (64*t+i) % 64=i by omega]
 rw[h2]
theorem a0P (key ah:ByteArray)(t i:Nat)(hi:i<64*t)(h:i<(strOfNums (iK key ah t)).size):((strOfNums (iK key ah t))[i].toNat:Int)=ve key ah i:=by
 have e:(strOfNums (iK key ah t))[i]=UInt8.ofNat (ve key ah i).toNat:=by
  show (strOfNums (iK key ah t)).data[i]=_
  simp[strOfNums,iK]
 rw[e,UInt8.toNat_ofNat'];have hb:∃y:Nat,y<256∧ve key ah i=(y:Int):=⟨_,Nat.mod_lt _ (by decide),rfl⟩
 obtain⟨y,h1,h2⟩:=hb;rw[h2];simp;omega
def zy (key ah s:ByteArray)(m:Nat):Nat→Value:=fun j=>.int .u8 (if j<m then iY key ah s j else ((aT s j).toNat:Int))
theorem PW (key ah s:ByteArray)(m j:Nat):aJ (zy key ah s m) m (.int .u8 (iY key ah s m)) j=zy key ah s (m+1) j:=by
 unfold aJ zy;by_cases e:j=m
 ·subst e;rw[if_pos rfl,if_pos (by omega)]
 rw[if_neg e];by_cases h:j<m
 ·rw[if_pos h,if_pos (by omega)]
 rw[if_neg h,if_neg (by omega)]
theorem nA (key ah s:ByteArray)(w:World)(hk:key.size=32)(hn:ah.size=12)(hz:s.size≤1000) :
  Calls Tryz.prog 197 #[.string key,.string ah,.string s] w fun e w'=>e=.returned (.tuple #[.string (strOfNums (bR key ah s)),.int .i64 0])∧Since w w':=by
 go_enter Tryz.func197,Tryz.ntmps197
 go_wp2_with fail
 go_loopw [9,8] (fun i a wr=>∃t:Nat,t≤s.size / 64+1∧i=.int .i64 (1+t)∧a=.string (strOfNums (iK key ah t))∧Since w wr) (fun i _ _=>s.size+10-(intOf i).toNat)
 case atStart=>exact⟨0,by omega,rfl,rfl,Since.refl w⟩
 obtain⟨t,ht,rfl,rfl,hS⟩:=hrel;have hla:(strOfNums (iK key ah t)).size=64*t:=by rw[strOfNums_size,JZ]
 by_cases hgo:64*t<s.size∨t=0
 ·have HO:=(show Hid _ from Ff key ah t)
  have hlb:(strOfNums (iP key (BitVec.ofInt 32 (1+(t:Int))) ah)).size=64:=by rw[strOfNums_size,wO]
  have q1:IntKind.i64.wrap (1+(t:Int)+1)=1+t+1:=by simp[IntKind.wrap,IntKind.bits,IntKind.signed];omega
  by_cases hlt:64*t<s.size
  ·have z1:(64*(t:Int))<s.size:=by omega
   generalize iK key ah t=l at *;go_wp2_with fail
   refine(sN key ah _ _ hk hn (by omega) (by omega)).mono ?_;rintro e w1 ⟨rfl,h1⟩;generalize iP key (BitVec.ofInt 32 (1+(t:Int))) ah=B at *;go_wp2_with fail
   refine⟨⟨t+1,by omega,by congr 1<;>omega,by rw[HO.o],hS.trans h1⟩,by simp[intOf];omega⟩
  have ht0:t=0:=by omega
  subst ht0;have hs0:s.size=0:=by omega
  have hl0:(strOfNums (iK key ah 0)).size=0:=hla;have e01:(1+((0:Nat):Int))=1:=rfl;rw[e01] at hlb;have Cb:=(show Hid (iK key ah 1=iK key ah 0++iP key (BitVec.ofInt 32 1) ah) from Ff key ah 0)
  clear HO e01;generalize iK key ah 0=l at *;go_wp2_with fail
  refine(sN key ah _ _ hk hn (by omega) (by omega)).mono ?_;rintro e w1 ⟨rfl,h1⟩;generalize iP key (BitVec.ofInt 32 1) ah=B at *;go_wp2_with fail
  refine⟨⟨1,by omega,by rfl,by rw[Cb.o],hS.trans h1⟩,by simp[intOf]⟩
 have hlt:¬64*t<s.size:=fun h=>hgo (Or.inl h)
 have ht1:¬t=0:=fun h=>hgo (Or.inr h)
 have z1:¬(64*(t:Int))<s.size:=by omega
 have z2:¬(1+(t:Int))=1:=by omega
 have z3:((1+(t:Int))==1)=false:=by simp;omega
 have HAt:=(show Hid (∀i,i<64*t→∀h:i<(strOfNums (iK key ah t)).size,((strOfNums (iK key ah t))[i].toNat:Int)=ve key ah i) from fun i hi h=>a0P key ah t i hi h)
 generalize strOfNums (iK key ah t)=A at *;have hcv:=xg wr s;go_wp2_with fail
 clear hcv;generalize hcap:grownCap wr s.size 0 5=cap at *;have hC0:aA (Lib.bytesWorld wr 5 s) wr.heap.size s.size (zy key ah s 0):=(Uy wr s).congr (fun j _=>by unfold zy;rw[if_neg (by omega)]);have hS0:Since w (Lib.bytesWorld wr 5 s):=hS.trans (qJ wr s);have hwB:=hS.size;generalize wr.heap.size=b at *;go_loopw [42] (fun i wr=>∃m:Nat,m≤s.size∧i=.int .i64 m∧aA wr b s.size (zy key ah s m)∧Since w wr) (fun i _=>s.size-(intOf i).toNat)
 case atStart=>exact⟨0,by omega,rfl,hC0,hS0⟩
 clear hC0 hS0;obtain⟨m,hm,rfl,hC,hSr⟩:=hrel;by_cases Qt:m<s.size
 ·have c1:=hC.cell m Qt;have f1:=hC.frozen m Qt;have e1:zy key ah s m m=.int .u8 ((aT s m).toNat:Int):=by unfold zy;rw[if_neg (by omega)]
  rw[e1] at c1;clear e1;have y1:(m:Int)<s.size:=by omega
  have y2:(m:Int)<A.size:=by omega
  have y3:m<A.size:=by omega
  have y4:(m:Int)<64*t:=by omega
  have HX:=(show Hid (iY key ah s m=bits BinOp.xor IntKind.u8 ((aT s m).toNat:Int) (A[m].toNat:Int)) from by
   show iY key ah s m=_
   rw[HAt.o m (by omega) y3];rfl)
  have HC:=(show Hid (aA wr b s.size (zy key ah s m)) from hC)
  have HS:=(show Hid (Since w wr) from hSr)
  clear hC hSr;go_wp2_with fail
  go_region
  all_goals
   have h3:=(HC.o.set m Qt (.int .u8 (iY key ah s m))).congr (fun j _=>PW key ah s m j);rw[HX.o] at h3;clear c1 f1;go_wp2_with fail
   go_roundw
   case rel=>first | exact⟨m+1,by omega,by go_num,h3.since (Since.refl _).drew,(HS.o.setCell hwB _).drew⟩ | ((repeat apply Exists.intro);exact⟨⟨m+1,by omega,by go_num,h3.since (Since.refl _).drew,(HS.o.setCell hwB _).drew⟩,rfl⟩)
   case measure=>simp[intOf];omega
 have hme:m=s.size:=by omega
 subst hme;have hcv:=dV wr (bR key ah s) b s.size cap (by simp[bR]) (fun i hi=>by
  have hi':i<s.size:=by simpa [bR] using hi
  rw[hC.cell i hi'];simp[zy,bR,hi'])
 go_wp2_with fail
 go_ret2;exact⟨rfl,hSr⟩
end Sm.Sr
end Go.Proofs.YtlgbfkcpdelcbaaGreatDoor
