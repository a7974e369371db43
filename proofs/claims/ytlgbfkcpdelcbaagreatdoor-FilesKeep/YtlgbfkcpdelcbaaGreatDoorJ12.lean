import Derived.Test.YtlgbfkcpdelcbaaGreatDoorJ04
import Derived.Test.YtlgbfkcpdelcbaaGreatDoorJ07
import Derived.Test.YtlgbfkcpdelcbaaGreatDoorJ08
import Derived.Test.YtlgbfkcpdelcbaaGreatDoorJ10
import Derived.Test.YtlgbfkcpdelcbaaGreatDoorJ11
set_option linter.unusedSimpArgs false
set_option linter.unusedVariables false
set_option maxHeartbeats 8000000
set_option maxRecDepth 100000
namespace Go.Proofs.YtlgbfkcpdelcbaaGreatDoor
section
namespace Sm
open Go.RowKit
attribute [local go_sem] gQ eF iB iC lq iD iE iG dU eG cZ dG bu fe dC
def H0:St:=⟨1779033703,3144134277,1013904242,2773480762,1359893119,2600822924,528734635,1541459225⟩
def kz (s:ByteArray):ByteArray:=s.extract 0 (s.size-s.size % 64)
def tH (s:ByteArray):ByteArray:=s.extract (s.size-s.size % 64) s.size++strOfNums (pad s.size)
def Mo (s:ByteArray):St:=dI H0 (kz s) ((kz s).size / 64)
def iQ (s:ByteArray):St:=dI (Mo s) (tH s) ((tH s).size / 64)
structure qD (w:World)(b:Nat)(t:St):Prop where
 arr:aN w b 0 8 t.fn
 c0:w.cell? ⟨b,0,none⟩=some (U t.a)
 c1:w.cell? ⟨b,1,none⟩=some (U t.b)
 c2:w.cell? ⟨b,2,none⟩=some (U t.c)
 c3:w.cell? ⟨b,3,none⟩=some (U t.d)
 c4:w.cell? ⟨b,4,none⟩=some (U t.e)
 c5:w.cell? ⟨b,5,none⟩=some (U t.f)
 c6:w.cell? ⟨b,6,none⟩=some (U t.g)
 c7:w.cell? ⟨b,7,none⟩=some (U t.h)
 f0:w.frozen? ⟨b,0,none⟩=false
 f1:w.frozen? ⟨b,1,none⟩=false
 f2:w.frozen? ⟨b,2,none⟩=false
 f3:w.frozen? ⟨b,3,none⟩=false
 f4:w.frozen? ⟨b,4,none⟩=false
 f5:w.frozen? ⟨b,5,none⟩=false
 f6:w.frozen? ⟨b,6,none⟩=false
 f7:w.frozen? ⟨b,7,none⟩=false
theorem qD.of {w:World}{b:Nat}{t:St}(h:aN w b 0 8 t.fn):qD w b t:=
 ⟨h,h.cell 0 (by omega),h.cell 1 (by omega),h.cell 2 (by omega),h.cell 3 (by omega),h.cell 4 (by omega),h.cell 5 (by omega),h.cell 6 (by omega),h.cell 7 (by omega),
  h.frozen 0 (by omega),h.frozen 1 (by omega),h.frozen 2 (by omega),h.frozen 3 (by omega),h.frozen 4 (by omega),h.frozen 5 (by omega),h.frozen 6 (by omega),h.frozen 7 (by omega)⟩
theorem qD.since {w w':World}{b:Nat}{t:St}(h:qD w b t)(hs:Since w w'):qD w' b t:=.of (h.arr.since hs)
theorem Mq (s:ByteArray)(w:World)(hs:s.size≤100000)(hT:kM w) :
  Calls Tryz.prog 221 #[.string s] w fun e w'=>e=.returned (.string (strOfNums (iQ s).bytes))∧Since w w':=by
 go_enter Tryz.func221,Tryz.ntmps221
 go_wp2_with fail
 have hA:qD (w.alloc (.cells #[.int .u32 1779033703,.int .u32 3144134277,.int .u32 1013904242,.int .u32 2773480762,.int .u32 1359893119,.int .u32 2600822924,.int .u32 528734635,.int .u32 1541459225] 82)) w.heap.size H0:=.of (aN.new w 8 H0.fn _ _ (by rfl) _ rfl);have hS:Since w (w.alloc (.cells #[.int .u32 1779033703,.int .u32 3144134277,.int .u32 1013904242,.int .u32 2773480762,.int .u32 1359893119,.int .u32 2600822924,.int .u32 528734635,.int .u32 1541459225] 82)):=(Since.refl w).alloc _;generalize w.alloc _=w1 at hA hS ⊢;have hT1:=hT.since hS;obtain⟨NJ,c0,c1,c2,c3,c4,c5,c6,c7,_,_,_,_,_,_,_,_⟩:=hA;obtain⟨W,hW⟩:∃W:Nat,(s.size:Int)-s.size % 64=W:=⟨s.size-s.size % 64,by omega⟩
 have W1:(0:Int)≤W:=by omega
 have W2:(W:Int)≤s.size:=by omega
 have W3:W≤s.size:=by omega
 have hWe:W=s.size-s.size % 64:=by omega
 rw[hW];have HW:=hid hWe;clear hW hWe;have hh:s.extract 0 W=kz s:=by unfold kz;rw[←HW.o]
 have Hh:=hid hh;have hsz:(s.extract 0 W).size≤1000000:=by simp[ByteArray.size_extract];omega
 clear hh;go_region_with (first | (go_at_call 267;refine(wQ H0 (s.extract 0 W) _ hsz ?_).mono ?_;(exact hT1.since (Since.refl _).drew);rintro e w' ⟨rfl,hS'⟩;generalize hm:dI _ _ _=q;have Hm:=hid hm;clear hm;simp only[St.val];obtain⟨YF,d0,d1,d2,d3,d4,d5,d6,d7,_,_,_,_,_,_,_,_⟩:=(qD.of NJ).since ((Since.refl _).drew.trans hS')))
 all_goals
  generalize hw3:World.setCell _ _ _=w3;have hA3:qD w3 w.heap.size q:=.of (by rw[←hw3];exact YF.Bl q);have bQ:Since w w3:=by rw[←hw3];exact(hS.trans ((Since.refl _).drew.trans hS')).Bl (by omega) q
  have hT3:=hT.since bQ;clear hw3 d0 d1 d2 d3 d4 d5 d6 d7 c0 c1 c2 c3 c4 c5 c6 c7 hT1 hS NJ YF hS';obtain⟨NJ,c0,c1,c2,c3,c4,c5,c6,c7,_,_,_,_,_,_,_,_⟩:=hA3
 have b2T:s.size-W+(strOfNums (pad s.size)).size≤9223372036854775807:=by rw[strOfNums_size,mi];omega
 have hsz2:(s.extract W s.size++strOfNums (pad s.size)).size≤1000000:=by
  rw[ByteArray.size_append,strOfNums_size,mi];simp[ByteArray.size_extract];omega
 go_wp2_with fail
 go_region_with (first | (go_at_call 268;refine(Ia s.size _ (by omega)).mono ?_;rintro e w4 ⟨rfl,h4⟩;obtain⟨YG,e0,e1,e2,e3,e4,e5,e6,e7,_,_,_,_,_,_,_,_⟩:=(qD.of NJ).since ((Since.refl _).drew.trans h4)) | (go_at_call 267;refine(wQ q (s.extract W s.size++strOfNums (pad s.size)) _ hsz2 ?_).mono ?_;(exact hT3.since ((Since.refl _).drew.trans h4));rintro e w5 ⟨rfl,h5⟩;generalize hm2:dI _ _ _=q2;have Hm2:=hid hm2;clear hm2;simp only[St.val];obtain⟨YH,d0,d1,d2,d3,d4,d5,d6,d7,_,_,_,_,_,_,_,_⟩:=(qD.of YG).since h5))
 all_goals
  generalize hw3:World.setCell _ _ _=w6;have tJ:qD w6 w.heap.size q2:=.of (by rw[←hw3];exact YH.Bl q2);have gH:Since w w6:=by rw[←hw3];exact((bQ.trans ((Since.refl _).drew.trans h4)).trans h5).Bl (by omega) q2
  clear hw3 d0 d1 d2 d3 d4 d5 d6 d7 c0 c1 c2 c3 c4 c5 c6 c7 hT3 NJ YG YH;obtain⟨NJ,c0,c1,c2,c3,c4,c5,c6,c7,_,_,_,_,_,_,_,_⟩:=tJ;go_wp2_with fail
  refine(rD q2 _).mono ?_;rintro e w7 ⟨rfl,h7⟩;go_wp2_with fail
  go_ret;refine⟨?_,gH.trans h7⟩;have e1:q2=iQ s:=by
   rw[←Hm2.o,←Hm.o,Hh.o];unfold iQ Mo tH;rw[←HW.o]
  rw[e1];rfl
end Sm
end
section
namespace Sm
open Go.RowKit
theorem bO {w:World}{k:Nat}{o:Obj}(h:w.heap[k]?=some o):k<w.heap.size:=by
 rcases Nat.lt_or_ge k w.heap.size with h1 | h1
 ·exact h1
 rw[Array.getElem?_eq_none h1] at h;cases h
theorem fC {B b:Nat}{p:Value}{bs:List Value}{w w':World}(h:Lib.BuilderAtF 161 5 B b p bs w)(hs:Since w w'):Lib.BuilderAtF 161 5 B b p bs w':=by
 obtain⟨h1,v,hb,hown,hne⟩:=h;refine⟨h1,v,by rw[Below.block hs b (bO hb)];exact hb,?_,hne⟩;obtain⟨o1,o2⟩:=hown;refine⟨o1,?_⟩;rcases o2 with o2 | ⟨g,cap,cur,o2⟩
 ·exact Or.inl o2
 obtain⟨fz,hv,hg,hh,r⟩:=o2;exact Or.inr ⟨g,cap,cur,fz,hv,hg,by rw[Below.block hs g (bO hh)];exact hh,r⟩
theorem bW {B b:Nat}{bs:List Value}{w w':World}(h:Lib.IsBuilderF 161 5 B b bs w)(hs:Since w w'):Lib.IsBuilderF 161 5 B b bs w':=by
 rcases h with h | h
 ·exact Or.inl (fC h hs)
 exact Or.inr (fC h hs)
def df (kd:UInt8)(ps:Nat→ByteArray):Nat→List UInt8
 | 0=>[kd]
 | n+1=>df kd ps n++(strOfNums (lZ (ps n).size)).data.toList++(ps n).data.toList
theorem vL (kd:UInt8)(ps:Nat→ByteArray)(m:Nat)(hp:∀j,j<m→(ps j).size≤900):∀n,n≤m→(df kd ps n).length≤1+908*n:=by
 intro n;induction n with
 | zero=>intro _;simp[df]
 | succ n ih=>
  intro hn;have h1:=ih (by omega);have h2:=hp n (by omega);have h3:(ps n).data.size≤900:=h2;simp[df,strOfNums_data,lZ];omega
def bT (s:ByteArray):ByteArray:=(strOfNums (iQ s).bytes).extract 0 16
theorem lF (kd:UInt8)(pb po m cap:Nat)(ps:Nat→ByteArray)(w:World)(hm:m≤10)(hp:∀j,j<m→(ps j).size≤900)(hT:kM w)(hc:∀j,j<m→w.cell? ⟨pb,po+j,none⟩=some (.string (ps j))) :
  Calls Tryz.prog 222 #[.int .u8 kd.toNat,.slice (some ⟨pb,po,none⟩) m cap] w fun e w'=>e=.returned (.string (bT ⟨(df kd ps m).toArray⟩))∧Since w w':=by
 have h0:Lib.IsBuilderF 161 5 w.heap.size w.heap.size [] (w.alloc (.cells #[.pointer none,.slice none 0 0] 161)):=Lib.IsBuilderF.of (Lib.fresh_isBuilder 161 5 w);have b0:Since w (w.alloc (.cells #[.pointer none,.slice none 0 0] 161)):=(Since.refl w).alloc _;go_enter Tryz.func222,Tryz.ntmps222
 go_wp2_with fail
 refine(zk w.heap.size w.heap.size [] kd.toNat _ h0 (by decide) b0.size).mono ?_;rintro e w1 ⟨rfl,h1,b1,_⟩;have s1:Since w w1:=Below.trans b0 b1;clear h0 b0 b1;go_wp2_with fail
 go_loopw [12] (fun i wr=>∃k:Nat,k≤m∧i=.int .i64 k∧Lib.IsBuilderF 161 5 w.heap.size w.heap.size (Lib.byteCells (df kd ps k)) wr∧Since w wr) (fun i _=>m-(intOf i).toNat)
 case atStart=>exact⟨0,by omega,rfl,Or.inr h1,s1⟩
 obtain⟨k,hk,rfl,hB,hS⟩:=hrel;by_cases hlt:k<m
 ·have hck:wr.cell? ⟨pb,po+k,none⟩=some (.string (ps k)):=by
   have h:=hc k hlt;rw[hS.cell (p:=⟨pb,po+k,none⟩) (World.block_lt_of_cell? w _ h)];exact h
  have hpk:=hp k hlt;have hl:=vL kd ps m hp k (by omega);go_wp2_with fail
  refine(pE _ _).mono ?_;rintro e w2 ⟨rfl,h2⟩;rw[Int.emod_eq_of_lt (by omega) (by omega)];have hB2:=bW hB h2;have hS2:=hS.trans h2;go_wp2_with fail
  refine(bP w.heap.size w.heap.size _ (strOfNums (lZ (ps k).size)) _ hB2 (by rw[Lib.byteCells_length,strOfNums_size];simp[lZ];omega) hS2.size).mono ?_;rintro e w3 ⟨rfl,h3,b3,_⟩;have bQ:Since w w3:=Below.trans hS2 b3;go_wp2_with fail
  refine(bP w.heap.size w.heap.size _ (ps k) _ (Or.inr h3) (by rw[List.length_append,Lib.strCells_length,Lib.byteCells_length,strOfNums_size];simp[lZ];omega) bQ.size).mono ?_;rintro e w4 ⟨rfl,h4,b4,_⟩;have cz:Since w w4:=Below.trans bQ b4;have hB4:Lib.IsBuilderF 161 5 w.heap.size w.heap.size (Lib.byteCells (df kd ps (k+1))) w4:=by
   refine Or.inr ?_;rw[Lib.strCells_eq,Lib.strCells_eq] at h4
   simpa [Lib.byteCells,df] using h4
  clear h3 h4 hB hB2 hl;go_wp2_with fail
  go_roundw
  case rel=>exact⟨k+1,by omega,by go_num,hB4,cz⟩
  case measure=>simp[intOf];omega
 have Zu:k=m:=by omega
 subst Zu;have hl:=vL kd ps k hp k (Nat.le_refl _);go_wp2_with fail
 refine(qz w.heap.size w.heap.size _ _ hB hS.size).mono ?_;rintro e w2 ⟨rfl,_,b2,_⟩;have hS2:Since w w2:=Below.trans hS b2;clear hB b2;go_wp2_with fail
 refine(Mq _ _ (by rw[show (⟨(df kd ps k).toArray⟩:ByteArray).size=(df kd ps k).length by simp[ByteArray.size]];omega) (hT.since hS2)).mono ?_;rintro e w3 ⟨rfl,h3⟩;generalize hS:iQ _=q;have HS:=hid hS;clear hS;have hsz:(strOfNums q.bytes).size=32:=by rw[strOfNums_size];rfl
 go_wp2_with fail
 go_ret;exact⟨by unfold bT;rw[HS.o];rfl,hS2.trans h3⟩
end Sm
end
section
namespace Sl
open Go.RowKit
open Sm (kM lF pE bT df lZ iQ)
def three (a b c:ByteArray):Nat→ByteArray:=fun j=>if j=0 then a else if j=1 then b else c
def nW (n:Int):ByteArray:=strOfNums (lZ (n % 18446744073709551616))
theorem zI (n:Int):(nW n).size=8:=by unfold nW;rw[strOfNums_size];rfl
def mk (kd:UInt8)(key:ByteArray)(cell:Int)(t:ByteArray):ByteArray:=bT ⟨(df kd (three key (nW cell) t) 3).toArray⟩
theorem jB (kd:UInt8)(key:ByteArray)(cell:Int)(t:ByteArray):(mk kd key cell t).size=16:=by
 unfold mk bT;generalize (⟨(df kd (three key (nW cell) t) 3).toArray⟩:ByteArray)=s;have h:(strOfNums (iQ s).bytes).size=32:=by rw[strOfNums_size];rfl
 simp[ByteArray.size_extract,h]
theorem uF (w:World)(a b c:ByteArray)(t:TypeId)(j:Nat)(hj:j<3):(w.alloc (.cells #[.string a,.string b,.string c] t)).cell? ⟨w.heap.size,0+j,none⟩=some (.string (three a b c j)):=by
 rw[Nat.zero_add,World.cell?_alloc_new]
 match j,hj with
 | 0,_=>rfl
 | 1,_=>rfl
 | 2,_=>rfl
theorem wS (a b c:ByteArray)(ha:a.size≤900)(hb:b.size≤900)(hc:c.size≤900)(j:Nat):(three a b c j).size≤900:=by
 unfold three;split
 ·assumption
 split<;>assumption
theorem pG (kd:UInt8)(key:ByteArray)(cell:Int)(t:ByteArray)(w:World)(hk:key.size≤900)(ht:t.size≤900)(hT:kM w) :
  Calls Tryz.prog 255 #[.int .u8 kd.toNat,.string key,.int .i64 cell,.string t] w fun e w'=>e=.returned (.string (mk kd key cell t))∧Since w w':=by
 go_enter Tryz.func255,Tryz.ntmps255
 go_wp2_with fail
 refine(pE cell _).mono ?_;rintro e w1 ⟨rfl,h1⟩;have hn8:=zI cell;have HN:strOfNums (lZ (cell % 18446744073709551616))=nW cell:=rfl;rw[HN];clear HN;have HM:Hid (bT ⟨(df kd (three key (nW cell) t) 3).toArray⟩=mk kd key cell t):=by
  show bT _=mk kd key cell t
  unfold mk
  rfl
 generalize hN:nW cell=N at *;go_wp2_with fail
 have hm:=lF kd w1.heap.size 0 3 3 (three key N t) (w1.alloc (.cells #[.string key,.string N,.string t] 364)) (by omega) (fun j _=>wS key N t hk (by omega) ht j) (hT.since (h1.alloc _)) (fun j hj=>uF w1 key N t 364 j hj);refine hm.mono ?_;clear hm;rintro e w2 ⟨rfl,h2⟩;rw[HM.o];generalize hq:mk kd key cell t=q at *;have HQ:=hid hq;clear hq;go_wp2_with fail
 go_ret;exact⟨by rw[HQ.o];rfl,(h1.alloc _).trans h2⟩
theorem qE (s:ByteArray)(w:World)(hs:s.size≤80) :
  Calls Tryz.prog 257 #[.string s] w fun e w'=>e=.returned (.string (fill s))∧Since w w':=by
 have hz:∀j,j<81→(Tryz.zeroCells370.setIfInBounds 0 (Value.int IntKind.u8 (s.size:Int)))[j]?=some (if j=0 then .int .u8 (s.size:Int) else bv 0):=by
  intro j hj;have hsz:Tryz.zeroCells370.size=81:=by kernel_rfl
  have he:Tryz.zeroCells370=(List.replicate 81 (Value.int .u8 0)).toArray:=by kernel_rfl
  by_cases e:j=0
  ·subst e;rw[if_pos rfl,Array.getElem?_setIfInBounds_self_of_lt (by rw[hsz];omega)]
  rw[if_neg e,Array.getElem?_setIfInBounds_ne (fun h=>e h.symm),he];rw[List.getElem?_toArray,List.getElem?_replicate,if_pos hj];rfl
 have hC:aA (w.alloc (.cells (Tryz.zeroCells370.setIfInBounds 0 (Value.int IntKind.u8 (s.size:Int))) 370)) w.heap.size 81 (fun j=>if j=0 then .int .u8 (s.size:Int) else bv 0):=aA.new w 81 _ _ _ hz _ rfl;have hcp:=gT _ 3 w.heap.size 1 80 80 81 _ s hC (by omega);rw[show min s.size 80=s.size by omega] at hcp;have hC2:=hC.setRow 1 s.size (by omega) (fun i=>bv (sb s i));have hS2:Since w ((w.alloc (.cells (Tryz.zeroCells370.setIfInBounds 0 (Value.int IntKind.u8 (s.size:Int))) 370)).setCells w.heap.size 1 (ak s.size (fun i=>bv (sb s i)))):=((Since.refl w).alloc _).setCells (Nat.le_refl _) _ _;have gW:aA ((w.alloc (.cells (Tryz.zeroCells370.setIfInBounds 0 (Value.int IntKind.u8 (s.size:Int))) 370)).setCells w.heap.size 1 (ak s.size (fun i=>bv (sb s i)))) w.heap.size 81 (fun j=>bv (qg s j)):=by
  refine hC2.congr (fun j hj=>?_);unfold fP qg;by_cases e:j=0
  ·subst e;rw[if_neg (by omega)];dsimp only;rw[if_pos rfl,if_pos rfl];unfold bv;rw[UInt8.toNat_ofNat']
   congr 1
   omega
  rw[if_neg e];by_cases h:j<1+s.size
  ·rw[if_pos ⟨by omega,h⟩]
  rw[if_neg (by omega)];dsimp only;rw[if_neg e,kS s (j-1) (by omega)]
 have jR:=hid gW;have HS2:=hid hS2;clear hC2 hC hz gW hS2;go_enter Tryz.func257,Tryz.ntmps257
 go_wp2_with fail
 clear hcp;generalize World.setCells _ _ _ _=w2 at *;have hcv:=jI w2 w.heap.size 0 81 81 (qg s) (fun i hi=>by rw[Nat.zero_add];exact jR.o.cell i hi);have HF:Hid (txt 81 (qg s)=fill s):=show _=_ from rfl
 rw[HF.o] at hcv;generalize hq:fill s=q at *;have HQ:=hid hq;clear hq HF;rw[hcv];go_simp
 go_wp2_with fail
 go_ret;exact⟨by rw[HQ.o];rfl,HS2.o⟩
theorem sb0 (s:ByteArray)(h:0<s.size):s[0]=sb s 0:=by
 have hsz:s.data.size=s.size:=rfl;unfold sb;rw[Array.getElem?_eq_getElem (by omega)]
 rfl
theorem CZ (s:ByteArray)(w:World)(hs:s.size=81) :
  Calls Tryz.prog 305 #[.string s] w fun e w'=>e=.returned (.string (s.extract 1 (1+min (sb s 0).toNat 80)))∧w'=w:=by
 have h0:0<s.size:=by omega
 have hI:(s.size:Int)=81:=by omega
 have hb:=sb0 s h0;generalize sb s 0=y at *;have hy:=y.toNat_lt;by_cases h:y.toNat≤80
 ·rw[Nat.min_eq_left h];have hI2:min (y.toNat:Int) 80=y.toNat:=by omega
  go_enter Tryz.func305,Tryz.ntmps305
  go_wp2_with fail
  go_ret;exact⟨rfl,rfl⟩
 rw[Nat.min_eq_right (by omega)];have hI2:min (y.toNat:Int) 80=80:=by omega
 go_enter Tryz.func305,Tryz.ntmps305
 go_wp2_with fail
 go_ret;exact⟨rfl,rfl⟩
end Sl
end
section
namespace Sl
open Go.RowKit
open Sm (kM)
open Sm.Sr (Br bR)
def gD (key:ByteArray)(cell:Int)(t:ByteArray):ByteArray:=(mk 110 key cell t).extract 0 12
def mD (key:ByteArray)(cell:Int)(t:ByteArray):ByteArray:=strOfNums (bR key (gD key cell t) (fill t))
def fK (key:ByteArray)(cell:Int)(t:ByteArray):ByteArray:=gD key cell t++mD key cell t
def bL (key:ByteArray)(cell:Int)(t:ByteArray):ByteArray:=mk 103 key cell (fK key cell t)++fK key cell t
theorem kC (key:ByteArray)(cell:Int)(t:ByteArray):(gD key cell t).size=12:=by
 unfold gD;rw[ByteArray.size_extract,jB]
 rfl
theorem jK (key ah s:ByteArray):(strOfNums (bR key ah s)).size=s.size:=by
 rw[strOfNums_size];simp[bR]
theorem lG (key:ByteArray)(cell:Int)(t:ByteArray):(mD key cell t).size=81:=by
 unfold mD;rw[jK,pz]
theorem zJ (key:ByteArray)(cell:Int)(t:ByteArray):(fK key cell t).size=93:=by
 unfold fK;rw[ByteArray.size_append,kC,lG]
theorem iH (key:ByteArray)(cell:Int)(t:ByteArray):(bL key cell t).size=109:=by
 unfold bL;rw[ByteArray.size_append,jB,zJ]
theorem Zv (key:ByteArray)(cell:Int)(t:ByteArray)(w:World)(h:key.size=32)(h0:0≤cell)(h1:cell<24)(ht:80<t.size) :
  Calls Tryz.prog 201 #[.string key,.int .i64 cell,.string t] w fun e w'=>e=.returned (.tuple #[.string ⟨#[]⟩,.iface 32 (.int .i64 4)])∧w'=w:=by
 have e1:(key.size:Int)=32:=by omega
 have e2:¬cell<0:=by omega
 have e3:¬24≤cell:=by omega
 have e4:(80:Int)<t.size:=by omega
 go_enter Tryz.func201,Tryz.ntmps201
 go_wp2_with fail
 go_ret2;exact⟨rfl,rfl⟩
theorem VY (key:ByteArray)(cell:Int)(t:ByteArray)(w:World)(h:key.size=32)(h0:0≤cell)(h1:cell<24)(ht:t.size≤80)(hT:kM w) :
  Calls Tryz.prog 201 #[.string key,.int .i64 cell,.string t] w fun e w'=>e=.returned (.tuple #[.string (bL key cell t),.nilIface])∧Since w w':=by
 have e1:(key.size:Int)=32:=by omega
 have e2:¬cell<0:=by omega
 have e3:¬24≤cell:=by omega
 have e4:¬(80:Int)<t.size:=by omega
 go_enter Tryz.func201,Tryz.ntmps201
 go_wp2_with fail
 have hm:=pG 110 key cell t w (by omega) (by omega) hT;rw[show ((110:UInt8).toNat:Int)=110 from rfl] at hm;refine hm.mono ?_;clear hm;rintro e w1 ⟨rfl,h1⟩;have m1:=jB 110 key cell t;have HN:Hid ((mk 110 key cell t).extract 0 12=gD key cell t):=show _=gD key cell t from rfl
 have n1:=kC key cell t;generalize hmk:mk 110 key cell t=M at *;clear hmk;go_wp2_with fail
 rw[HN.o];generalize hn:gD key cell t=nn at *;have VZ:=hid hn;clear hn HN;refine(qE t _ ht).mono ?_;rintro e w2 ⟨rfl,h2⟩;have f1:=pz t;generalize hf:fill t=F at *;have HF:=hid hf;clear hf;go_wp2_with fail
 refine(Br key nn F _ h n1 (by omega)).mono ?_;rintro e w3 ⟨rfl,h3⟩;have x1:(strOfNums (bR key nn F)).size=81:=by rw[jK,f1]
 generalize hB:strOfNums (bR key nn F)=B at *;have HB:=hid hB;clear hB;go_wp2_with fail
 have dZ:=hid (h1.trans (h2.trans h3));clear h1 h2 h3;have r1:(nn++B).size=93:=by rw[ByteArray.size_append];omega
 generalize hR:nn++B=R at *;have HR:=hid hR;clear hR;have hm:=pG 103 key cell R w3 (by omega) (by omega) (hT.since dZ.o);rw[show ((103:UInt8).toNat:Int)=103 from rfl] at hm;refine hm.mono ?_;clear hm;rintro e w4 ⟨rfl,h4⟩;have m2:=jB 103 key cell R;generalize hT2:mk 103 key cell R=T at *;have HT2:=hid hT2;clear hT2;go_wp2_with fail
 go_ret2;refine⟨?_,dZ.o.trans h4⟩;unfold bL fK mD;rw[VZ.o,HF.o,HB.o,HR.o,HT2.o]
 rfl
theorem fD {a b:ByteArray}(h:¬a=b):(a.toList==b.toList)=false:=by
 rw[ByteArray.toList_eq,ByteArray.toList_eq];rw[beq_eq_false_iff_ne];exact fun e=>h (ByteArray.ext (Array.toList_inj.1 e))
def kT (key:ByteArray)(cell:Int)(s:ByteArray):ByteArray:=mk 103 key cell (s.extract 16 109)
def Da (b:ByteArray):ByteArray:=b.extract 1 (1+min (sb b 0).toNat 80)
def textOf (key s:ByteArray):ByteArray:=Da (strOfNums (bR key (s.extract 16 28) (s.extract 28 109)))
theorem Zw (key:ByteArray)(cell:Int)(s:ByteArray)(w:World)(h:key.size=32)(hs:s.size<109) :
  Calls Tryz.prog 274 #[.string key,.int .i64 cell,.string s] w fun e w'=>e=.returned (.tuple #[.string ⟨#[]⟩,.string ⟨#[]⟩,.iface 32 (.int .i64 15)])∧w'=w:=by
 have e1:(key.size:Int)=32:=by omega
 have e2:(s.size:Int)<109:=by omega
 go_enter Tryz.func274,Tryz.ntmps274
 go_wp2_with fail
 go_ret3;exact⟨rfl,rfl⟩
theorem Ra (key:ByteArray)(cell:Int)(s:ByteArray)(w:World)(h:key.size=32)(hs:109≤s.size)(hz:s.size≤900)(hb:s.extract 0 16≠kT key cell s)(hT:kM w) :
  Calls Tryz.prog 274 #[.string key,.int .i64 cell,.string s] w fun e w'=>e=.returned (.tuple #[.string ⟨#[]⟩,.string ⟨#[]⟩,.iface 32 (.int .i64 15)])∧Since w w':=by
 have e1:(key.size:Int)=32:=by omega
 have e2:¬(s.size:Int)<109:=by omega
 have e3:(109:Int)≤s.size:=by omega
 have e4:(16:Int)≤s.size:=by omega
 have z1:(s.extract 16 109).size=93:=by rw[ByteArray.size_extract];omega
 have HB:=hid hb;clear hb;go_enter Tryz.func274,Tryz.ntmps274
 go_wp2_with fail
 have hm:=pG 103 key cell (s.extract 16 109) w (by omega) (by omega) hT;rw[show ((103:UInt8).toNat:Int)=103 from rfl] at hm;refine hm.mono ?_;clear hm;rintro e w1 ⟨rfl,h1⟩;have hb2:¬s.extract 0 16=mk 103 key cell (s.extract 16 109):=HB.o;have hb3:=fD hb2;clear hb2;generalize mk 103 key cell (s.extract 16 109)=T at *;go_wp2_with fail
 go_ret3;exact⟨rfl,h1⟩
theorem Mr (key:ByteArray)(cell:Int)(s:ByteArray)(w:World)(h:key.size=32)(hs:109≤s.size)(hz:s.size≤900)(hb:s.extract 0 16=kT key cell s)(hT:kM w) :
  Calls Tryz.prog 274 #[.string key,.int .i64 cell,.string s] w fun e w'=>e=.returned (.tuple #[.string (s.extract 0 16),.string (textOf key s),.nilIface])∧Since w w':=by
 have e1:(key.size:Int)=32:=by omega
 have e2:¬(s.size:Int)<109:=by omega
 have e3:(109:Int)≤s.size:=by omega
 have e4:(16:Int)≤s.size:=by omega
 have z1:(s.extract 16 109).size=93:=by rw[ByteArray.size_extract];omega
 have z2:(s.extract 16 28).size=12:=by rw[ByteArray.size_extract];omega
 have z3:(s.extract 28 109).size=81:=by rw[ByteArray.size_extract];omega
 have HB:=hid hb;clear hb;go_enter Tryz.func274,Tryz.ntmps274
 go_wp2_with fail
 have hm:=pG 103 key cell (s.extract 16 109) w (by omega) (by omega) hT;rw[show ((103:UInt8).toNat:Int)=103 from rfl] at hm;refine hm.mono ?_;clear hm;rintro e w1 ⟨rfl,h1⟩;have hb2:mk 103 key cell (s.extract 16 109)=s.extract 0 16:=HB.o.symm;rw[hb2];clear hb2;have x1:(strOfNums (bR key (s.extract 16 28) (s.extract 28 109))).size=81:=by rw[jK,z3]
 have hx:=fun w=>Br key (s.extract 16 28) (s.extract 28 109) w h z2 (by omega)
 have HX:Hid (Da (strOfNums (bR key (s.extract 16 28) (s.extract 28 109)))=textOf key s):=by
  show Da _=textOf key s
  unfold textOf
  rfl
 generalize hB:strOfNums (bR key (s.extract 16 28) (s.extract 28 109))=B at *;clear hB;generalize hq:textOf key s=q at *;have HQ:=hid hq;clear hq;have HXc:=hid hx;clear hx;go_wp2_with fail
 go_region_with (go_at_call 256;refine(HXc.o _).mono ?_;rintro e w2 ⟨rfl,h2⟩;dsimp only)
 all_goals
  have HS2:Hid (Since w w2):=h1.trans ((Since.refl _).drew.trans h2);clear h1 h2 HXc;go_wp2_with fail
  refine(CZ B _ x1).mono ?_;rintro e w3 ⟨rfl,rfl⟩;have hX:B.extract 1 (1+min (sb B 0).toNat 80)=q:=HX.o;rw[hX];clear hX HX;go_wp2_with fail
  go_ret3;exact⟨by rw[HQ.o];rfl,HS2.o⟩
end Sl
end
section
namespace Tw
open Go.RowKit
open Sl (gT jI)
def Bt (z o:Int)(t:ByteArray):Bool:=decide (z=0∧o=0∧t=⟨#[]⟩)
def pX (z o:Int)(t:ByteArray):Bool:=decide (t.size=16∧0≤z∧z<8∧0≤o∧o<16)
def fV (z o:Int)(t:ByteArray):List UInt8:=if z=0∧o=0∧t=⟨#[]⟩ then 255::List.replicate 17 0 else UInt8.ofNat z.toNat::UInt8.ofNat o.toNat::t.data.toList
theorem wT (w:World)(z o:Int)(t:ByteArray):(binOp .eql 69 (.agg #[.int .i64 z,.int .i64 o,.string t]) (.agg #[.int .i64 0,.int .i64 0,.string ⟨#[]⟩])).run Tryz.prog w=.ok (.bool (Bt z o t)) w:=by
 have h1:t.toList=[]↔t=⟨#[]⟩:=by
  rw[ByteArray.toList_eq];exact⟨fun e=>ByteArray.ext (Array.toList_inj.1 e),fun e=>by rw[e]⟩
 unfold Bt;go_simp
 by_cases a:z=0<;>by_cases b:o=0<;>by_cases c:t=⟨#[]⟩<;>simp[a,b,c,h1]
attribute [local go_sem ↓] wT
theorem vM (z o:Int)(t:ByteArray)(w:World):Calls Tryz.prog 283 #[.agg #[.int .i64 z,.int .i64 o,.string t]] w fun e w'=>e=.returned (.bool (pX z o t))∧Since w w':=by
 have hS:Since w (w.alloc (.cells #[.int .i64 z,.int .i64 o,.string t] 69)):=(Since.refl w).alloc _;have HS:=hid hS;clear hS;by_cases h1:t.size=16
 ·have e1:(t.size:Int)=16:=by omega
  by_cases h2:0≤z
  ·by_cases h3:z<8
   ·by_cases h4:0≤o
    ·by_cases h5:o<16
     ·have hb:pX z o t=true:=by unfold pX;simp;omega
      rw[hb];go_enter Tryz.func283,Tryz.ntmps283
      go_wp2_with fail
      go_ret;exact⟨rfl,HS.o⟩
     have hb:pX z o t=false:=by unfold pX;simp;omega
     rw[hb];go_enter Tryz.func283,Tryz.ntmps283
     go_wp2_with fail
     go_ret;exact⟨rfl,HS.o⟩
    have hb:pX z o t=false:=by unfold pX;simp;omega
    rw[hb];go_enter Tryz.func283,Tryz.ntmps283
    go_wp2_with fail
    go_ret;exact⟨rfl,HS.o⟩
   have hb:pX z o t=false:=by unfold pX;simp;omega
   rw[hb];go_enter Tryz.func283,Tryz.ntmps283
   go_wp2_with fail
   go_ret;exact⟨rfl,HS.o⟩
  have hb:pX z o t=false:=by unfold pX;simp;omega
  rw[hb];go_enter Tryz.func283,Tryz.ntmps283
  go_wp2_with fail
  go_ret;exact⟨rfl,HS.o⟩
 have e1:¬(t.size:Int)=16:=by omega
 have hb:pX z o t=false:=by unfold pX;simp;omega
 rw[hb];go_enter Tryz.func283,Tryz.ntmps283
 go_wp2_with fail
 go_ret;exact⟨rfl,HS.o⟩
theorem zK {T:Tb}{i:Nat}(h:ig T i):Bt (T.az i) (T.off i) (T.tag i)=true:=decide_eq_true h
theorem qF {T:Tb}{i:Nat}(h:¬ig T i):Bt (T.az i) (T.off i) (T.tag i)=false:=decide_eq_false h
theorem zL {T:Tb}{i:Nat}(h:may T i):pX (T.az i) (T.off i) (T.tag i)=true:=decide_eq_true h
theorem Ie {T:Tb}{i:Nat}(h:¬may T i):pX (T.az i) (T.off i) (T.tag i)=false:=decide_eq_false h
theorem Ig (s:ByteArray)(w:World)(hs:s.size≤100000):Calls Tryz.prog 271 #[.string s] w fun e w'=>e=.returned (.bool (decide (∀j,j<s.size→sb s j=0)))∧w'=w:=by
 go_enter Tryz.func271,Tryz.ntmps271
 go_wp2_with fail
 go_loopw [6,3] (fun i _ wr=>∃k:Nat,k≤s.size∧i=.int .i64 k∧wr=w∧∀j,j<k→sb s j=0) (fun i _ _=>s.size-(intOf i).toNat)
 case atStart=>exact⟨0,by omega,rfl,rfl,fun j hj=>by omega⟩
 obtain⟨k,hk,rfl,rfl,h0⟩:=hrel;have H0:=hid h0;clear h0;by_cases hlt:k<s.size
 ·have hlt2:(k:Int)<s.size:=by omega
  have hb:s[k]=sb s k:=by
   have hsz:s.data.size=s.size:=rfl;unfold sb;rw[Array.getElem?_eq_getElem (by omega)]
   rfl
  by_cases hz:sb s k=0
  ·have hu:((s[k]:UInt8).toNat:Int)=0:=by rw[hb,hz];rfl
   have HZ:=hid hz;clear hb hz;go_wp2_with fail
   go_roundw
   case rel=>exact⟨k+1,by omega,by go_num,trivial,fun j hj=>by
    by_cases e:j=k
    ·subst e;exact HZ.o
    exact H0.o j (by omega)⟩
   case measure=>simp[intOf];omega
  have hu:¬((s[k]:UInt8).toNat:Int)=0:=by
   rw[hb];intro e;exact hz (UInt8.toNat_inj.1 (by rw[show (0:UInt8).toNat=0 from rfl];omega))
  have HD:Hid (decide (∀j,j<s.size→sb s j=0)=false):=decide_eq_false (fun h=>hz (h k hlt));clear hb hz;go_wp2_with fail
  go_ret;exact⟨by rw[HD.o];rfl,rfl⟩
 have hke:k=s.size:=by omega
 have HD:Hid (decide (∀j,j<s.size→sb s j=0)=true):=decide_eq_true (fun j hj=>H0.o j (by omega));subst hke;go_wp2_with fail
 go_ret;exact⟨by rw[HD.o];rfl,rfl⟩
theorem tK (s:ByteArray)(k:Nat)(h:k<s.size):s[k]=sb s k:=by
 have hsz:s.data.size=s.size:=rfl;unfold sb;rw[Array.getElem?_eq_getElem (by omega)]
 rfl
theorem Wd (n b:Nat)(hn:n*256+b<18446744073709551616)(hb:b<256):bits .or .u64 (IntKind.u64.wrap ((n:Int)*256)) (IntKind.u64.wrap (b:Int))=((n*256+b:Nat):Int):=by
 have w1:∀x:Int,IntKind.u64.wrap x=x % 18446744073709551616:=fun x=>by simp[IntKind.wrap,IntKind.bits,IntKind.signed]
 rw[w1,w1,Int.emod_eq_of_lt (by omega) (by omega),Int.emod_eq_of_lt (by omega) (by omega)];have e:(n:Int)*256=((n*256:Nat):Int):=by omega
 rw[e,u64_or_nat (n*256) b (by omega) (by omega)];have:=Nat.two_pow_add_eq_or_of_lt (i:=8) (b:=b) (by omega) n
 congr 1
 rw[show (2:Nat) ^ 8=256 from rfl,Nat.mul_comm] at this;exact this.symm
theorem Ih (s:ByteArray)(w:World)(hs:s.size=8):Calls Tryz.prog 303 #[.string s] w fun e w'=>e=.returned (.int .i64 (wrap64 (bU s 0 8:Int)))∧w'=w:=by
 go_enter Tryz.func303,Tryz.ntmps303
 go_wp2_with fail
 go_loopw [5,3] (fun i n wr=>∃k:Nat,k≤8∧i=.int .i64 k∧n=.int .u64 (bU s 0 k:Int)∧wr=w) (fun i _ _=>8-(intOf i).toNat)
 case atStart=>exact⟨0,by omega,rfl,rfl,rfl⟩
 obtain⟨k,hk,rfl,rfl,rfl⟩:=hrel;by_cases hlt:k<8
 ·have hlt2:(k:Int)<8:=by omega
  have hlt3:k<s.size:=by omega
  have hb:s[k]=sb s k:=tK s k hlt3;have Rc:=CJ s 0 (k+1);have hle:256 ^ (k+1)≤256 ^ 8:=Nat.pow_le_pow_right (by omega) (by omega);have HO:Hid (bits .or .u64 (IntKind.u64.wrap ((bU s 0 k:Int)*256)) (IntKind.u64.wrap ((sb s k).toNat:Int))=((bU s 0 (k+1):Nat):Int)):=by
   have h2:bU s 0 (k+1)=bU s 0 k*256+(sb s k).toNat:=by rw[bU,Nat.zero_add]
   rw[h2] at Rc ⊢;exact Wd _ _ (by omega) ((sb s k).toNat_lt)
  clear Rc hle;go_wp2_with fail
  go_roundw
  case rel=>exact⟨k+1,by omega,by go_num,by rw[HO.o],trivial⟩
  case measure=>simp[intOf];omega
 have hke:k=8:=by omega
 subst hke;go_wp2_with fail
 go_ret;exact⟨rfl,rfl⟩
def Db (s:ByteArray):Int:=if sb s 0=255 then 0 else ((sb s 0).toNat:Int)
def Re (s:ByteArray):Int:=if sb s 0=255 then 0 else ((sb s 1).toNat:Int)
def Rf (s:ByteArray):ByteArray:=if sb s 0=255 then ⟨#[]⟩ else s.extract 2 18
theorem Ms (x:UInt8):IntKind.i64.wrap (x.toNat:Int)=x.toNat:=by
 have:=x.toNat_lt;simp[IntKind.wrap,IntKind.bits,IntKind.signed];omega
def nX (a b c:Value)(j:Nat):Value:=if j=0 then a else if j=1 then b else c
theorem Rh (w:World)(a b c:Value)(ty:TypeId):aA (w.alloc (.cells #[a,b,c] ty)) w.heap.size 3 (nX a b c):=aA.new w 3 _ _ _ (fun j hj=>by
 match j,hj with
 | 0,_=>rfl
 | 1,_=>rfl
 | 2,_=>rfl) _ rfl
theorem Bu {w:World}{b:Nat}{x y z:Value}(h:aA w b 3 (nX x y z)):w.rangeAt b 0 [x,y,z]:=by
 have:=h.range 0 3 (by omega);exact this
theorem Ri (s:ByteArray)(w:World)(hs:s.size=18):Calls Tryz.prog 304 #[.string s] w fun e w'=>e=.returned (.agg #[.int .i64 (Db s),.int .i64 (Re s),.string (Rf s)])∧Since w w':=by
 have h0:0<s.size:=by omega
 have h1:1<s.size:=by omega
 have hI:(s.size:Int)=18:=by omega
 have hb:=tK s 0 h0;have hb1:=tK s 1 h1;by_cases h:sb s 0=255
 ·have hu:((s[0]:UInt8).toNat:Int)=255:=by rw[hb,h];rfl
  have hS:Since w (w.alloc (.cells #[.int .i64 0,.int .i64 0,.string ⟨#[]⟩] 69)):=(Since.refl w).alloc _;unfold Db Re Rf;rw[if_pos h,if_pos h,if_pos h];clear hb hb1;go_enter Tryz.func304,Tryz.ntmps304
  go_wp2_with fail
  exact bodyPost_ret (bz Tryz.results304 _ _ _ w.heap.size _ _ (by rfl) (Bu (Rh w _ _ _ _)) Tryz.underlying69 (by rfl) (by kernel_rfl)) rfl ⟨rfl,hS⟩
 have hu:¬((sb s 0).toNat:Int)=255:=by
  intro e;exact h (UInt8.toNat_inj.1 (by rw[show (255:UInt8).toNat=255 from rfl];omega))
 unfold Db Re Rf;rw[if_neg h,if_neg h,if_neg h];have z1:(s.extract 2 18).size=16:=by rw[ByteArray.size_extract];omega
 have hw0:IntKind.i64.wrap ((sb s 0).toNat:Int)=(sb s 0).toNat:=Ms _;have hw1:IntKind.i64.wrap ((sb s 1).toNat:Int)=(sb s 1).toNat:=Ms _;have hcl:=fun w=>fI (s.extract 2 18) w (by omega)
 have HC:=hid hcl;clear hcl;go_enter Tryz.func304,Tryz.ntmps304
 go_wp2_with fail
 have hC:=(Rh w (.int .i64 0) (.int .i64 0) (.string ⟨#[]⟩) 69).since (Since.refl _).drew;have HL:=hid hC;clear hC;go_region_held3 (fun _=>True) (trivial) (first
  | (go_simp;go_at_call 49;refine(HC.o _).mono ?_;rintro e w1 ⟨rfl,h2⟩;have q0:=(HL.o.since h2).cell 0 (by omega);have q1:=(HL.o.since h2).cell 1 (by omega);have q2:=(HL.o.since h2).cell 2 (by omega);have f0:=(HL.o.since h2).frozen 0 (by omega);have f1:=(HL.o.since h2).frozen 1 (by omega);have f2:=(HL.o.since h2).frozen 2 (by omega);dsimp only))
 all_goals
  have gW:=(((HL.o.since h2).set 0 (by omega) (.int .i64 ((sb s 0).toNat:Int))).set 1 (by omega) (.int .i64 ((sb s 1).toNat:Int))).set 2 (by omega) (.string (s.extract 2 18));have tF:=gW.congr (g:=nX (.int .i64 ((sb s 0).toNat:Int)) (.int .i64 ((sb s 1).toNat:Int)) (.string (s.extract 2 18))) (fun j hj=>by
   match j,hj with
   | 0,_=>rfl
   | 1,_=>rfl
   | 2,_=>rfl)
  have qZ:=hid tF;have bQ:=((((((Since.refl w).alloc (.cells #[.int .i64 0,.int .i64 0,.string ⟨#[]⟩] 69)).drew).trans h2).setCell (p:=⟨w.heap.size,0,none⟩) (Nat.le_refl _) (.int .i64 ((sb s 0).toNat:Int))).setCell (p:=⟨w.heap.size,1,none⟩) (Nat.le_refl _) (.int .i64 ((sb s 1).toNat:Int))).setCell (p:=⟨w.heap.size,2,none⟩) (Nat.le_refl _) (.string (s.extract 2 18));have dZ:=hid bQ;clear gW tF bQ q0 q1 q2 f0 f1 f2 hb hb1 HL h2;go_wp2_with fail
  exact bodyPost_ret (bz Tryz.results304 _ _ _ w.heap.size _ _ (by rfl) (Bu qZ.o) Tryz.underlying69 (by rfl) (by kernel_rfl)) rfl ⟨rfl,dZ.o⟩
end Tw
end
section
namespace Tw
open Go.RowKit
open Sl (gT jI)
attribute [local go_sem ↓] wT
def Rj (z o:Int)(t:ByteArray)(j:Nat):UInt8:=if j=0 then UInt8.ofNat z.toNat else if j=1 then UInt8.ofNat o.toNat else sb t (j-2)
theorem a3A (w:World)(cs:Array Value)(f:Nat→UInt8)(h:cs=(ak 18 (fun j=>bv (f j))).toArray)(b:Nat)(hb:b=w.heap.size):aA (w.alloc (.cells cs 359)) b 18 (fun j=>bv (f j)):=aA.new w 18 _ _ _ (fun j hj=>by rw[h,List.getElem?_toArray,bM _ _ _ hj]) _ hb
theorem Dc (w:World):Calls Tryz.prog 251 #[.agg #[.int .i64 0,.int .i64 0,.string ⟨#[]⟩]] w fun e w'=>e=.returned (.string (txt 18 (fun j=>if j=0 then 255 else 0)))∧Since w w':=by
 have hn:Bt 0 0 ⟨#[]⟩=true:=rfl;have hC:=a3A (w.alloc (.cells #[.int .i64 0,.int .i64 0,.string ⟨#[]⟩] 69)) #[.int .u8 255,.int .u8 0,.int .u8 0,.int .u8 0,.int .u8 0,.int .u8 0,.int .u8 0,.int .u8 0,.int .u8 0,.int .u8 0,.int .u8 0,.int .u8 0,.int .u8 0,.int .u8 0,.int .u8 0,.int .u8 0,.int .u8 0,.int .u8 0] (fun j=>if j=0 then 255 else 0) (by rfl) (w.heap.size+1) (by simp);have hcv:=jI _ (w.heap.size+1) 0 18 18 (fun j=>if j=0 then 255 else 0) (fun i hi=>by rw[Nat.zero_add];exact hC.cell i hi);have HS:Hid (Since w ((w.alloc (.cells #[.int .i64 0,.int .i64 0,.string ⟨#[]⟩] 69)).alloc (.cells #[.int .u8 255,.int .u8 0,.int .u8 0,.int .u8 0,.int .u8 0,.int .u8 0,.int .u8 0,.int .u8 0,.int .u8 0,.int .u8 0,.int .u8 0,.int .u8 0,.int .u8 0,.int .u8 0,.int .u8 0,.int .u8 0,.int .u8 0,.int .u8 0] 359))):=((Since.refl w).alloc _).alloc _;clear hC
 generalize hq:txt 18 (fun j=>if j=0 then 255 else 0)=q at *;have HQ:=hid hq;clear hq;go_enter Tryz.func251,Tryz.ntmps251
 go_wp2_with fail
 go_ret;exact⟨rfl,HS.o⟩
theorem De (z o:Nat)(t:ByteArray)(w:World)(hn:Bt z o t=false)(hz:z<8)(ho:o<16)(ht:t.size=16):Calls Tryz.prog 251 #[.agg #[.int .i64 (z:Int),.int .i64 (o:Int),.string t]] w fun e w'=>e=.returned (.string (txt 18 (Rj z o t)))∧Since w w':=by
 have hwz:IntKind.u8.wrap (z:Int)=z:=by simp[IntKind.wrap,IntKind.bits,IntKind.signed];omega
 have hwo:IntKind.u8.wrap (o:Int)=o:=by simp[IntKind.wrap,IntKind.bits,IntKind.signed];omega
 go_enter Tryz.func251,Tryz.ntmps251
 go_wp2_with fail
 go_region
 have hC:=aA.new (w.alloc (.cells #[.int .i64 (z:Int),.int .i64 (o:Int),.string t] 69)) 18 (fun j=>if j=0 then .int .u8 (z:Int) else if j=1 then .int .u8 (o:Int) else bv 0) 359 (ak 18 (fun j=>if j=0 then .int .u8 (z:Int) else if j=1 then .int .u8 (o:Int) else bv 0)).toArray (fun j hj=>by rw[List.getElem?_toArray,bM _ _ _ hj]) (w.heap.size+1) (by simp);have hC2:=(hC.since (Since.refl _).drew).since (Since.refl _).drew;have hT:=(((Rh w (.int .i64 (z:Int)) (.int .i64 (o:Int)) (.string t) 69).since ((Since.refl _).alloc (.cells (ak 18 (fun j=>if j=0 then .int .u8 (z:Int) else if j=1 then .int .u8 (o:Int) else bv 0)).toArray 359))).since (Since.refl _).drew).since (Since.refl _).drew;have q2:=hT.cell 2 (by omega);rw[show nX (.int .i64 (z:Int)) (.int .i64 (o:Int)) (.string t) 2=.string t from rfl] at q2
 have hS:Since w ((w.alloc (.cells #[.int .i64 (z:Int),.int .i64 (o:Int),.string t] 69)).alloc (.cells (ak 18 (fun j=>if j=0 then .int .u8 (z:Int) else if j=1 then .int .u8 (o:Int) else bv 0)).toArray 359)).drew:=(((Since.refl w).alloc _).alloc _).drew;generalize hw2:((w.alloc (.cells #[.int .i64 (z:Int),.int .i64 (o:Int),.string t] 69)).alloc (.cells (ak 18 (fun j=>if j=0 then .int .u8 (z:Int) else if j=1 then .int .u8 (o:Int) else bv 0)).toArray 359)).drew=w2 at *;refine(congrArg (fun W=>Exit.then _ _ Exit.normal _ W) hw2).mpr ?_;clear hC hT hw2;have hcp:=gT _ 3 (w.heap.size+1) 2 16 16 18 _ t hC2 (by omega);rw[show min t.size 16=16 by omega] at hcp;have gW:=hC2.setRow 2 16 (by omega) (fun i=>bv (sb t i));have tF:aA (w2.drew.setCells (w.heap.size+1) 2 (ak 16 (fun i=>bv (sb t i)))) (w.heap.size+1) 18 (fun j=>bv (Rj z o t j)):=by
  refine gW.congr (fun j hj=>?_);unfold fP Rj;by_cases e:j=0
  ·subst e;rw[if_neg (by omega)];simp only[if_true,bv,UInt8.toNat_ofNat',Int.toNat_natCast]
   congr 1
   omega
  by_cases e1:j=1
  ·subst e1;rw[if_neg (by omega)];simp only[if_true,if_false,Nat.one_ne_zero,bv,UInt8.toNat_ofNat',Int.toNat_natCast]
   congr 1
   omega
  rw[if_pos (by omega),if_neg e,if_neg e1]
 have cz:Since w (w2.drew.setCells (w.heap.size+1) 2 (ak 16 (fun i=>bv (sb t i)))):=hS.drew.setCells (by omega) _ _;have qZ:=hid tF;have fO:=hid cz;clear hC2 gW tF hS cz hwz hwo hn;go_wp2_with fail
 go_region
 clear hcp q2;generalize w2.drew.setCells (w.heap.size+1) 2 (ak 16 (fun i=>bv (sb t i)))=w3 at *;have hcv:=jI w3 (w.heap.size+1) 0 18 18 (Rj z o t) (fun i hi=>by rw[Nat.zero_add];exact qZ.o.cell i hi);generalize hq:txt 18 (Rj z o t)=q at *;have HQ:=hid hq;clear hq;go_wp2_with fail
 go_ret;exact⟨by rw[HQ.o];rfl,fO.o⟩
theorem Rk (z o:Nat)(t:ByteArray)(ht:t.size=16):txt 18 (Rj z o t)=⟨(UInt8.ofNat z::UInt8.ofNat o::t.data.toList).toArray⟩:=by
 have hsz:t.data.size=16:=ht;apply ByteArray.ext
 apply Array.ext_getElem?
 intro i;have e1:(txt 18 (Rj z o t)).data[i]?=((List.range 18).map (Rj z o t))[i]?:=by unfold txt;exact List.getElem?_toArray ..
 rw[e1,List.getElem?_map,List.getElem?_toArray]
 match i with
 | 0=>simp[Rj]
 | 1=>simp[Rj]
 | i+2=>
  rw[List.getElem?_cons_succ,List.getElem?_cons_succ,show t.data.toList[i]?=t.data[i]? from Array.getElem?_toList];by_cases h:i<16
  ·rw[List.getElem?_range (by omega),Array.getElem?_eq_getElem (by omega)];simp only[Option.map_some,Rj];rw[if_neg (by omega),if_neg (by omega),show i+2-2=i by omega];unfold sb;rw[Array.getElem?_eq_getElem (by omega)]
   rfl
  rw[List.getElem?_eq_none (by simp;omega),Array.getElem?_eq_none (by omega)]
  rfl
theorem nV (T:Tb)(i:Nat)(w:World)(h:ig T i∨may T i):Calls Tryz.prog 251 #[.agg #[.int .i64 (T.az i),.int .i64 (T.off i),.string (T.tag i)]] w fun e w'=>e=.returned (.string ⟨(cellL T i).toArray⟩)∧Since w w':=by
 by_cases hn:ig T i
 ·have hl:cellL T i=255::List.replicate 17 0:=by unfold cellL;rw[if_pos hn]
  rw[hl];obtain⟨h1,h2,h3⟩:=hn;rw[h1,h2,h3];exact Dc w
 have hm:may T i:=h.resolve_left hn;have hl:cellL T i=UInt8.ofNat (T.az i).toNat::UInt8.ofNat (T.off i).toNat::(T.tag i).data.toList:=by unfold cellL;rw[if_neg hn]
 rw[hl];have hnb:=qF hn;obtain⟨m1,m2,m3,m4,m5⟩:=hm;obtain⟨z,hz⟩:∃z:Nat,T.az i=z:=⟨(T.az i).toNat,by omega⟩
 obtain⟨o,ho⟩:∃o:Nat,T.off i=o:=⟨(T.off i).toNat,by omega⟩
 rw[hz,ho] at hnb ⊢;have:=De z o (T.tag i) w hnb (by omega) (by omega) m1;rw[Rk z o (T.tag i) m1] at this;exact this
end Tw
end
section
namespace Tw
open Go.RowKit
attribute [local go_sem ↓] wT
def Rl (T:Tb)(k:Nat)(z o:Int):Bool:=(List.range k).any fun i=>!Bt (T.az i) (T.off i) (T.tag i)&&decide (T.az i=z)&&decide (T.off i=o)
theorem wU (T:Tb)(k:Nat)(z o:Int):Rl T k z o=true↔hit T k z o:=by
 unfold Rl hit;rw[List.any_eq_true];constructor
 ·rintro ⟨i,hi,h⟩;simp only[Bool.and_eq_true,Bool.not_eq_true',decide_eq_true_eq] at h;exact⟨i,List.mem_range.1 hi,fun hn=>by rw[zK hn] at h;exact Bool.noConfusion h.1.1,h.1.2,h.2⟩
 rintro ⟨i,hi,hn,h1,h2⟩;exact⟨i,List.mem_range.2 hi,by rw[qF hn,decide_eq_true h1,decide_eq_true h2];rfl⟩
def uG (T:Tb):Bool:=decide (1≤T.count∧T.count≤1099511627776)&&(List.range 24).all fun i=>Bt (T.az i) (T.off i) (T.tag i)||(pX (T.az i) (T.off i) (T.tag i)&&!Rl T i (T.az i) (T.off i))
theorem mF (T:Tb):uG T=true↔Rt T:=by
 unfold uG Rt fine;rw[Bool.and_eq_true,decide_eq_true_eq,List.all_eq_true];refine and_congr Iff.rfl ⟨fun h i hi=>?_,fun h i hi=>?_⟩
 ·have:=h i (List.mem_range.2 hi);rw[Bool.or_eq_true,Bool.and_eq_true,Bool.not_eq_true'] at this;rcases this with h1 | ⟨h1,h2⟩
  ·exact Or.inl (of_decide_eq_true h1)
  exact Or.inr ⟨of_decide_eq_true h1,fun hh=>by rw[(wU _ _ _ _).2 hh] at h2;exact Bool.noConfusion h2⟩
 rw[Bool.or_eq_true,Bool.and_eq_true,Bool.not_eq_true'];rcases h i (List.mem_range.1 hi) with h1 | ⟨h1,h2⟩
 ·exact Or.inl (zK h1)
 exact Or.inr ⟨zL h1,by
  cases hq:Rl T i (T.az i) (T.off i) with
  | false=>rfl
  | true=>exact absurd ((wU _ _ _ _).1 hq) h2⟩
theorem rE {T:Tb}(h:Rt T):uG T=true:=(mF T).2 h
theorem gF {T:Tb}(h:¬Rt T):uG T=false:=by
 cases hq:uG T with
 | false=>rfl
 | true=>exact absurd ((mF T).1 hq) h
def tL (T:Tb)(k j:Nat):Bool:=Rl T k ((j / 16:Nat):Int) ((j % 16:Nat):Int)
theorem lH (T:Tb)(k j:Nat):tL T k j=true↔hit T k ((j / 16:Nat):Int) ((j % 16:Nat):Int):=wU _ _ _ _
theorem Df {x y:Bool}(h:x=true↔y=true):x=y:=by
 cases x<;>cases y<;>simp_all
theorem NK (T:Tb)(j:Nat):tL T 0 j=false:=by
 cases hq:tL T 0 j with
 | false=>rfl
 | true=>exact absurd ((lH _ _ _).1 hq) (QK _ _ _)
theorem Rm {T:Tb}{k:Nat}(hn:ig T k)(j:Nat):tL T (k+1) j=tL T k j:=
 Df (by rw[lH,lH];exact VS hn _ _)
theorem Mv (T:Tb)(k z o:Nat)(ho:o<16):tL T k (z*16+o)=true↔hit T k (z:Int) (o:Int):=by
 rw[lH,show (z*16+o) / 16=z by omega,show (z*16+o) % 16=o by omega]
theorem Rn {T:Tb}{k:Nat}(hn:¬ig T k)(z o:Nat)(hz:T.az k=z)(ho:T.off k=o)(ho2:o<16)(j:Nat):(if j=z*16+o then true else tL T k j)=tL T (k+1) j:=by
 by_cases e:j=z*16+o
 ·subst e;rw[if_pos rfl]
  symm
  rw[Mv T (k+1) z o ho2,Mi hn];exact Or.inr ⟨hz,ho⟩
 rw[if_neg e];have:hit T (k+1) ((j / 16:Nat):Int) ((j % 16:Nat):Int)↔hit T k ((j / 16:Nat):Int) ((j % 16:Nat):Int):=by
  rw[Mi hn,hz,ho];constructor
  ·rintro (h | ⟨h1,h2⟩)
   ·exact h
   exact absurd (show j=z*16+o by omega) e
  exact Or.inl
 exact Df (by rw[lH,lH];exact this.symm)
theorem Dg (T:Tb)(w:World)(h:T.count<1∨1099511627776<T.count):Calls Tryz.prog 249 #[aY T] w fun e w'=>e=.returned (.bool false)∧Since w w':=by
 have hC:=dP T w;have q0:=hC.cell 0 (by omega);rw[show ae T 0=.int .i64 T.count from rfl] at q0;have hS:Since w (w.alloc (.cells (ak 73 (ae T)).toArray 72)):=(Since.refl w).alloc _;unfold aY;generalize (ak 73 (ae T)).toArray=cs at *;have HS:=hid hS;clear hS hC;by_cases h1:T.count<1
 ·go_enter Tryz.func249,Tryz.ntmps249
  go_wp2_with fail
  go_ret;exact⟨rfl,HS.o⟩
 have h2:1099511627776<T.count:=by omega
 go_enter Tryz.func249,Tryz.ntmps249
 go_wp2_with fail
 go_ret;exact⟨rfl,HS.o⟩
theorem Ii:∀j,j<128→Tryz.zeroCells356[j]?=some (.bool false):=by
 intro j hj;have he:Tryz.zeroCells356=(List.replicate 128 (Value.bool false)).toArray:=by kernel_rfl
 rw[he,List.getElem?_toArray,List.getElem?_replicate,if_pos hj]
theorem Ij (T:Tb)(w:World)(h1:1≤T.count)(h2:T.count≤1099511627776):Calls Tryz.prog 249 #[aY T] w fun e w'=>e=.returned (.bool (uG T))∧Since w w':=by
 have c1:¬T.count<1:=by omega
 have c2:¬1099511627776<T.count:=by omega
 have jS:=hid (an h1 h2);clear h1 h2;have hC:=dP T w;have q0:=hC.cell 0 (by omega);rw[show ae T 0=.int .i64 T.count from rfl] at q0;have hS:Since w (w.alloc (.cells (ak 73 (ae T)).toArray 72)):=(Since.refl w).alloc _;have hR:=fJ (hC.since ((Since.refl _).alloc (.cells Tryz.zeroCells356 356)));unfold aY;generalize (ak 73 (ae T)).toArray=cs0 at *;have HS:Hid (Since w ((w.alloc (.cells cs0 72)).alloc (.cells Tryz.zeroCells356 356))):=hS.alloc _;have HT:Hid (aA ((w.alloc (.cells cs0 72)).alloc (.cells Tryz.zeroCells356 356)) (w.heap.size+1) 128 (fun j=>.bool (tL T 0 j))):=(aA.new (w.alloc (.cells cs0 72)) 128 (fun _=>.bool false) 356 Tryz.zeroCells356 Ii (w.heap.size+1) (by simp)).congr (fun j hj=>by rw[NK]);clear hS hC;have hL:(ak 72 (aU T)).length=72:=ax _ _;have hix:=fun (k:Nat) (hk:k<24) (w:World)=>gX T k hk w
 have NL:=hid hix;clear hix;generalize hcs:ak 72 (aU T)=cs at *;clear hcs;go_enter Tryz.func249,Tryz.ntmps249
 go_wp2_with (refine wpList_load_mid (by rfl) 70 _ (by rfl) w.heap.size 1 (by rfl) _ _ hR Tryz.underlying70 (by rfl) (by rw[hL];kernel_rfl) ?_)
 clear hR hL q0 c1 c2;generalize (w.alloc (.cells cs0 72)).alloc (.cells Tryz.zeroCells356 356)=w0 at *;go_loopw [16] (fun i wr=>∃k:Nat,k≤24∧i=.int .i64 k∧fine T k∧aA wr (w.heap.size+1) 128 (fun j=>.bool (tL T k j))∧Since w wr) (fun i _=>24-(intOf i).toNat)
 case atStart=>exact⟨0,by omega,rfl,zC T,HT.o,HS.o⟩
 obtain⟨k,hk,rfl,hf,ht,hs⟩:=hrel;have HF:=hid hf;have HTK:=hid ht;have ed:=hid hs;clear hf ht hs;by_cases hlt:k<24
 ·have hlt2:(k:Int)<24:=by omega
  have hix:=NL.o k hlt;by_cases hn:ig T k
  ·have HN:=hid hn;obtain⟨z0,o0,t0⟩:=hn;rw[z0,o0,t0] at hix;clear z0 o0 t0;have hnb:Bt 0 0 ⟨#[]⟩=true:=rfl;go_wp2_with fail
   go_roundw
   case rel=>exact⟨k+1,by omega,by go_num,CF HF.o HN.o,(HTK.o.since ((Since.refl _).alloc _)).congr (fun j hj=>by rw[Rm HN.o]),ed.o.alloc _⟩
   case measure=>simp[intOf];omega
  have hnb:=qF hn;have HN:=hid hn;clear hn;by_cases hm:may T k
  ·have hmb:=zL hm;obtain⟨m1,m2,m3,m4,m5⟩:=hm;have HM:Hid (may T k):=⟨m1,m2,m3,m4,m5⟩
   obtain⟨z,hz⟩:∃z:Nat,T.az k=z:=⟨(T.az k).toNat,by omega⟩
   obtain⟨o,ho⟩:∃o:Nat,T.off k=o:=⟨(T.off k).toNat,by omega⟩
   rw[hz,ho] at hix hnb hmb;rw[hz] at m2 m3;rw[ho] at m4 m5;have HZ:=hid hz;have HO:=hid ho;clear hz ho m1;generalize T.tag k=t at *;have Ro:z<8:=by omega
   have a3B:o<16:=by omega
   clear m2 m4;obtain⟨x,hx⟩:∃x,tL T k (z*16+o)=x:=⟨_,rfl⟩
   have HX:=hid hx;clear hx;go_wp2_with fail
   have jR:Hid (aA (wr.alloc (.cells #[.int .i64 (z:Int),.int .i64 (o:Int),.string t] 69)).drew wr.heap.size 3 (nX (.int .i64 (z:Int)) (.int .i64 (o:Int)) (.string t))):=(Rh wr _ _ _ _).since (Since.refl _).drew;have YI:Hid (aA (wr.alloc (.cells #[.int .i64 (z:Int),.int .i64 (o:Int),.string t] 69)).drew (w.heap.size+1) 128 (fun j=>.bool (tL T k j))):=(HTK.o.since ((Since.refl _).alloc _)).since (Since.refl _).drew;have cz:(fun W:World=>W.cell? ⟨wr.heap.size,0,none⟩=some (.int .i64 (z:Int))∧W.cell? ⟨wr.heap.size,1,none⟩=some (.int .i64 (o:Int))∧W.cell? ⟨wr.heap.size,2,none⟩=some (.string t)∧W.cell? ⟨w.heap.size+1,z*16+o,none⟩=some (.bool x)) (wr.alloc (.cells #[.int .i64 (z:Int),.int .i64 (o:Int),.string t] 69)).drew:=⟨jR.o.cell 0 (by omega),jR.o.cell 1 (by omega),jR.o.cell 2 (by omega),by rw[YI.o.cell (z*16+o) (by omega),HX.o]⟩
   refine wp_region_held (S:=fun W:World=>W.cell? ⟨wr.heap.size,0,none⟩=some (.int .i64 (z:Int))∧W.cell? ⟨wr.heap.size,1,none⟩=some (.int .i64 (o:Int))∧W.cell? ⟨wr.heap.size,2,none⟩=some (.string t)∧W.cell? ⟨w.heap.size+1,z*16+o,none⟩=some (.bool x)) (by kernel_rfl) ?_;refine Tw.tk 0 22 cz ?_;refine Tw.ry 1 (fun K hK=>?_);go_simp
   refine(vM _ _ _ _).mono ?_;rintro e w1 ⟨rfl,hS1⟩;rw[hmb];simp only[];have hS5:(fun W:World=>W.cell? ⟨wr.heap.size,0,none⟩=some (.int .i64 (z:Int))∧W.cell? ⟨wr.heap.size,1,none⟩=some (.int .i64 (o:Int))∧W.cell? ⟨wr.heap.size,2,none⟩=some (.string t)∧W.cell? ⟨w.heap.size+1,z*16+o,none⟩=some (.bool x)) w1:=⟨(jR.o.since hS1).cell 0 (by omega),(jR.o.since hS1).cell 1 (by omega),(jR.o.since hS1).cell 2 (by omega),by rw[(YI.o.since hS1).cell (z*16+o) (by omega),HX.o]⟩
   refine hK.out _ _ hS5 (fun _=>?_);clear hK K
   (try simp only[Act.put,List.setIfInBounds_toArray,List.set_cons_zero,List.set_cons_succ])
   refine Tw.tk 2 24 hS5 ?_;refine Tw.tk 3 25 hS5 ?_;refine Tw.tk 4 26 hS5 ?_;refine Tw.tk 5 27 hS5 ?_;refine Tw.tk 6 28 hS5 ?_;refine Tw.tk 7 29 hS5 ?_;refine Tw.tk 8 30 hS5 ?_;refine Tw.tk 9 31 hS5 ?_;refine Tw.tk 10 32 hS5 ?_;refine Tw.tk 11 33 hS5 ?_;refine wpAnyH_done (by kernel_rfl) ?_ _;have jX:Hid (Since w w1):=(ed.o.alloc _).drew.trans hS1;have iM:=hid (jR.o.since hS1);have We:=hid (YI.o.since hS1);clear cz hS5 hS1 jR YI hix hnb hmb;have hhit:=Mv T k z o a3B;rw[HX.o] at hhit;cases x with
   | true=>
    have HB:Hid (uG T=false):=gF (fun h=>kw HN.o (Or.inr (by rw[HZ.o,HO.o];exact hhit.1 rfl)) hlt h.2);clear hhit;go_wp2_with fail
    go_ret;exact⟨by rw[HB.o];rfl,jX.o⟩
   | false=>
    have HH:Hid (¬hit T k (z:Int) (o:Int)):=fun h=>Bool.noConfusion (hhit.2 h)
    clear hhit;have hq0:=(iM.o.since (Since.refl _).drew).cell 0 (by omega);have hq1:=(iM.o.since (Since.refl _).drew).cell 1 (by omega);rw[show nX (.int .i64 (z:Int)) (.int .i64 (o:Int)) (.string t) 0=.int .i64 (z:Int) from rfl] at hq0;rw[show nX (.int .i64 (z:Int)) (.int .i64 (o:Int)) (.string t) 1=.int .i64 (o:Int) from rfl] at hq1;have hq2:=(We.o.since (Since.refl _).drew).cell (z*16+o) (by omega);have hq3:=(We.o.since (Since.refl _).drew).frozen (z*16+o) (by omega);have vN:Hid (aA (w1.drew.setCell ⟨w.heap.size+1,z*16+o,none⟩ (.bool true)) (w.heap.size+1) 128 (fun j=>.bool (tL T (k+1) j))):=((We.o.since (Since.refl _).drew).set (z*16+o) (by omega) (.bool true)).congr (fun j hj=>by
     unfold aJ;have:=Rn HN.o z o HZ.o HO.o a3B j;by_cases e:j=z*16+o
     ·rw[if_pos e];rw[if_pos e] at this;rw[←this]
     rw[if_neg e];rw[if_neg e] at this;rw[←this])
    have iL:Hid (Since w (w1.drew.setCell ⟨w.heap.size+1,z*16+o,none⟩ (.bool true))):=jX.o.drew.setCell (by show w.heap.size≤w.heap.size+1;omega) _;have HF6:Hid (fine T (k+1)):=CG HF.o HM.o (by rw[HZ.o,HO.o];exact HH.o);go_wp2_with fail
    go_region
    clear hq0 hq1 hq2 hq3;go_wp2_with fail
    go_roundw
    case rel=>exact⟨k+1,by omega,by go_num,HF6.o,vN.o,iL.o⟩
    case measure=>simp[intOf];omega
  have hmb:=Ie hm;have HM:=hid hm;clear hm;generalize T.az k=z at *;generalize T.off k=o at *;generalize T.tag k=t at *;go_wp2_with fail
  have jR:Hid (aA (wr.alloc (.cells #[.int .i64 z,.int .i64 o,.string t] 69)).drew wr.heap.size 3 (nX (.int .i64 z) (.int .i64 o) (.string t))):=(Rh wr _ _ _ _).since (Since.refl _).drew;have cz:(fun W:World=>W.rangeAt wr.heap.size 0 [.int .i64 z,.int .i64 o,.string t]) (wr.alloc (.cells #[.int .i64 z,.int .i64 o,.string t] 69)).drew:=Bu jR.o;refine wp_region_held (S:=fun W:World=>W.rangeAt wr.heap.size 0 [.int .i64 z,.int .i64 o,.string t]) (by kernel_rfl) ?_;refine takeD (i:=0) (d:=22) (v:=.agg #[.int .i64 z,.int .i64 o,.string t]) rfl rfl (by kernel_rfl) (by kernel_rfl) (by kernel_rfl) (fun _ _ _ h=>h) (yieldsIf_load_mid (by rfl) 69 _ (by rfl) wr.heap.size 0 (by rfl) _ _ (fun w hSw=>hSw) Tryz.underlying69 (by rfl) (by kernel_rfl)) cz ?r0;simp only[Act.put,List.setIfInBounds_toArray,List.set_cons_zero,List.set_cons_succ];refine Tw.ry 1 (fun K hK=>?_);go_simp
  refine(vM _ _ _ _).mono ?_;rintro e w1 ⟨rfl,hS1⟩;rw[hmb];simp only[];have hS5:(fun W:World=>W.rangeAt wr.heap.size 0 [.int .i64 z,.int .i64 o,.string t]) w1:=Bu (jR.o.since hS1);refine hK.out _ _ hS5 (fun _=>?_);clear hK K
  (try simp only[Act.put,List.setIfInBounds_toArray,List.set_cons_zero,List.set_cons_succ])
  refine Tw.tk 2 24 hS5 ?_;refine Tw.tk 3 25 hS5 ?_;refine takeD (i:=4) (d:=26) (v:=undef) rfl rfl (by kernel_rfl) (by kernel_rfl) (by kernel_rfl) (fun _ _ _ h=>h) (Or.inr ⟨fU rfl rfl rfl rfl (by decide),rfl⟩) hS5 ?r4;simp only[Act.put,List.setIfInBounds_toArray,List.set_cons_zero,List.set_cons_succ];refine takeD (i:=5) (d:=27) (v:=undef) rfl rfl (by kernel_rfl) (by kernel_rfl) (by kernel_rfl) (fun _ _ _ h=>h) (Or.inr ⟨fU rfl rfl rfl rfl (by decide),rfl⟩) hS5 ?r5;simp only[Act.put,List.setIfInBounds_toArray,List.set_cons_zero,List.set_cons_succ];refine takeD (i:=6) (d:=28) (v:=undef) rfl rfl (by kernel_rfl) (by kernel_rfl) (by kernel_rfl) (fun _ _ _ h=>h) (Or.inr ⟨fU rfl rfl rfl rfl (by decide),rfl⟩) hS5 ?r6;simp only[Act.put,List.setIfInBounds_toArray,List.set_cons_zero,List.set_cons_succ]
  refine takeD (i:=7) (d:=29) (v:=undef) rfl rfl (by kernel_rfl) (by kernel_rfl) (by kernel_rfl) (fun _ _ _ h=>h) (Or.inr ⟨fU rfl rfl rfl rfl (by decide),rfl⟩) hS5 ?r7;simp only[Act.put,List.setIfInBounds_toArray,List.set_cons_zero,List.set_cons_succ];refine takeD (i:=8) (d:=30) (v:=undef) rfl rfl (by kernel_rfl) (by kernel_rfl) (by kernel_rfl) (fun _ _ _ h=>h) (Or.inr ⟨fU rfl rfl rfl rfl (by decide),rfl⟩) hS5 ?r8;simp only[Act.put,List.setIfInBounds_toArray,List.set_cons_zero,List.set_cons_succ];refine takeD (i:=9) (d:=31) (v:=undef) rfl rfl (by kernel_rfl) (by kernel_rfl) (by kernel_rfl) (fun _ _ _ h=>h) (Or.inr ⟨fU rfl rfl rfl rfl (by decide),rfl⟩) hS5 ?r9;simp only[Act.put,List.setIfInBounds_toArray,List.set_cons_zero,List.set_cons_succ]
  refine takeD (i:=10) (d:=32) (v:=undef) rfl rfl (by kernel_rfl) (by kernel_rfl) (by kernel_rfl) (fun _ _ _ h=>h) (Or.inr ⟨fU rfl rfl rfl rfl (by decide),rfl⟩) hS5 ?r10;simp only[Act.put,List.setIfInBounds_toArray,List.set_cons_zero,List.set_cons_succ];refine Tw.tk 11 33 hS5 ?_;refine wpAnyH_done (by kernel_rfl) ?_ _;have HB:Hid (uG T=false):=gF (fun h=>kw HN.o (Or.inl HM.o) hlt h.2);have jX:Hid (Since w w1):=(ed.o.alloc _).drew.trans hS1;clear cz hS5 hS1 jR hix hnb hmb;go_wp2_with fail
  go_ret;exact⟨by rw[HB.o];rfl,jX.o⟩
 have hke:k=24:=by omega
 subst hke;have HB:Hid (uG T=true):=rE ⟨jS.o,HF.o⟩;go_wp2_with fail
 go_ret;exact⟨by rw[HB.o];rfl,ed.o⟩
theorem lI (T:Tb)(w:World):Calls Tryz.prog 249 #[aY T] w fun e w'=>e=.returned (.bool (uG T))∧Since w w':=by
 by_cases h:1≤T.count∧T.count≤1099511627776
 ·exact Ij T w h.1 h.2
 rw[gF (fun hr=>h hr.1)];exact Dg T w (by omega)
end Tw
end
section
namespace Tw
open Go.RowKit
def vO (s:ByteArray)(i:Nat):Int:=if sb s (24+18*i)=255 then 0 else ((sb s (24+18*i)).toNat:Int)
def vP (s:ByteArray)(i:Nat):Int:=if sb s (24+18*i)=255 then 0 else ((sb s (25+18*i)).toNat:Int)
def vQ (s:ByteArray)(i:Nat):ByteArray:=if sb s (24+18*i)=255 then ⟨#[]⟩ else s.extract (26+18*i) (42+18*i)
def bY (s:ByteArray)(k:Nat):Tb where
 count:=wrap64 (bU s 16 8:Int)
 az i:=if i<k then vO s i else 0
 off i:=if i<k then vP s i else 0
 tag i:=if i<k then vQ s i else ⟨#[]⟩
def rd (s:ByteArray):Tb:=bY s 24
theorem Ik (s:ByteArray)(a b j:Nat)(h:a+j<b):sb (s.extract a b) j=if a+j<s.size then sb s (a+j) else 0:=by
 have hsz:s.data.size=s.size:=rfl;unfold sb;rw[ByteArray.data_extract,Array.getElem?_extract];by_cases h2:a+j<s.size
 ·rw[if_pos h2,if_pos (by omega)]
 rw[if_neg h2,if_neg (by omega)]
 rfl
theorem kD (s:ByteArray)(a b j:Nat)(h:a+j<b)(hb:b≤s.size):sb (s.extract a b) j=sb s (a+j):=by
 rw[Ik s a b j h,if_pos (by omega)]
theorem zM (s:ByteArray)(a b c:Nat)(hb:b≤s.size):∀k,a+c+k≤b→bU (s.extract a b) c k=bU s (a+c) k:=by
 intro k;induction k with
 | zero=>intro _;rfl
 | succ k ih=>
  intro h;unfold bU;rw[ih (by omega),kD s a b (c+k) (by omega) hb,show a+(c+k)=a+c+k by omega]
theorem Bv (s:ByteArray)(a b c d:Nat)(h:a+d≤b):(s.extract a b).extract c d=s.extract (a+c) (a+d):=by
 apply ByteArray.ext
 rw[ByteArray.data_extract,ByteArray.data_extract,ByteArray.data_extract,Array.extract_extract]
 congr 1
 omega
theorem Rp {T U:Tb}(h0:T.count=U.count)(h1:T.az=U.az)(h2:T.off=U.off)(h3:T.tag=U.tag):T=U:=by
 cases T
 cases U
 dsimp only at h0 h1 h2 h3;subst h0 h1 h2 h3
 rfl
theorem Zx (s:ByteArray)(h:456≤s.size):rd (s.extract 0 456)=rd s:=by
 have e1:bU (s.extract 0 456) 16 8=bU s 16 8:=by rw[zM s 0 456 16 h 8 (by omega),Nat.zero_add]
 have e2:∀j,j<456→sb (s.extract 0 456) j=sb s j:=fun j hj=>by rw[kD s 0 456 j (by omega) h,Nat.zero_add]
 have e3:∀c d,d≤456→(s.extract 0 456).extract c d=s.extract c d:=fun c d hd=>by rw[Bv s 0 456 c d (by omega),Nat.zero_add,Nat.zero_add]
 have f0:(bY (s.extract 0 456) 24).count=(bY s 24).count:=by
  show wrap64 ((bU (s.extract 0 456) 16 8:Nat):Int)=wrap64 ((bU s 16 8:Nat):Int)
  rw[e1]
 have f1:(bY (s.extract 0 456) 24).az=(bY s 24).az:=by
  funext i
  show (if i<24 then vO (s.extract 0 456) i else 0)=if i<24 then vO s i else 0
  split
  ·unfold vO;rw[e2 _ (by omega)]
  rfl
 have f2:(bY (s.extract 0 456) 24).off=(bY s 24).off:=by
  funext i
  show (if i<24 then vP (s.extract 0 456) i else 0)=if i<24 then vP s i else 0
  split
  ·unfold vP;rw[e2 _ (by omega),e2 _ (by omega)]
  rfl
 have f3:(bY (s.extract 0 456) 24).tag=(bY s 24).tag:=by
  funext i
  show (if i<24 then vQ (s.extract 0 456) i else ⟨#[]⟩)=if i<24 then vQ s i else ⟨#[]⟩
  split
  ·unfold vQ;rw[e2 _ (by omega),e3 _ _ (by omega)]
  rfl
 exact Rp f0 f1 f2 f3
theorem Rq (s:ByteArray)(k:Nat)(hk:k<24)(h:456≤s.size):Db (s.extract (24+18*k) (42+18*k))=vO s k∧Re (s.extract (24+18*k) (42+18*k))=vP s k∧Rf (s.extract (24+18*k) (42+18*k))=vQ s k:=by
 have e0:sb (s.extract (24+18*k) (42+18*k)) 0=sb s (24+18*k):=by rw[kD s _ _ 0 (by omega) (by omega),Nat.add_zero]
 have e1:sb (s.extract (24+18*k) (42+18*k)) 1=sb s (25+18*k):=by rw[kD s _ _ 1 (by omega) (by omega),show 24+18*k+1=25+18*k by omega]
 have e2:(s.extract (24+18*k) (42+18*k)).extract 2 18=s.extract (26+18*k) (42+18*k):=by rw[Bv s _ _ 2 18 (by omega),show 24+18*k+2=26+18*k by omega,show 24+18*k+18=42+18*k by omega]
 unfold Db Re Rf vO vP vQ;rw[e0,e1,e2];exact⟨rfl,rfl,rfl⟩
theorem Dh (s:ByteArray)(k:Nat)(hk:k<24)(j:Nat)(hj:j<73) :
  aJ (aJ (aJ (ae (bY s k)) (1+k*3) (.int .i64 (vO s k))) (1+k*3+1) (.int .i64 (vP s k))) (1+k*3+2) (.string (vQ s k)) j=ae (bY s (k+1)) j:=by
 by_cases e2:j=1+k*3+2
 ·subst e2;rw[lC _ k 2 (by omega)];simp[aJ,eY,bY]
 by_cases e1:j=1+k*3+1
 ·subst e1;rw[lC _ k 1 (by omega)];unfold aJ;rw[if_neg e2,if_pos rfl];simp[eY,bY]
 by_cases e0:j=1+k*3
 ·subst e0;rw[show ae (bY s (k+1)) (1+k*3)=eY (bY s (k+1)) k 0 from lC (bY s (k+1)) k 0 (by omega)];unfold aJ;rw[if_neg e2,if_neg e1,if_pos rfl];simp[eY,bY]
 unfold aJ;rw[if_neg e2,if_neg e1,if_neg e0];unfold ae;split
 ·rfl
 have hne:(j-1) / 3≠k:=by omega
 have hq:∀{α:Type} (x y:α),(if (j-1) / 3<k then x else y)=if (j-1) / 3<k+1 then x else y:=fun x y=>by
  by_cases h1:(j-1) / 3<k
  ·rw[if_pos h1,if_pos (by omega)]
  rw[if_neg h1,if_neg (by omega)]
 unfold eY bY;dsimp only;rw[hq,hq,hq]
theorem Bw:Tryz.zeroCells72=(ak 73 (ae Tb.zero)).toArray:=by kernel_rfl
theorem Di (j:Nat)(hj:j<73):Tryz.zeroCells72[j]?=some (ae Tb.zero j):=by
 rw[Bw,List.getElem?_toArray];exact bM _ _ _ hj
theorem bA (w:World)(b:Nat)(hb:b=w.heap.size):aA (w.alloc (.cells Tryz.zeroCells72 72)) b 73 (ae Tb.zero):=aA.new w _ _ _ _ Di _ hb
theorem Dj (s:ByteArray):Tryz.zeroCells72.toList.set 0 (.int .i64 (wrap64 (bU s 16 8:Int)))=ak 73 (ae (bY s 0)):=by
 have hz:Tryz.zeroCells72.toList=ak 73 (ae Tb.zero):=by rw[Bw]
 rw[hz];apply rz
 ·rw[List.length_set,ax]
 intro j hj;rw[List.getElem?_set];by_cases e:0=j
 ·subst e;rw[if_pos rfl,if_pos (by rw[ax];omega)];unfold ae;rw[if_pos rfl];unfold bY;dsimp only
 rw[if_neg e,bM _ _ _ hj];unfold ae;rw[if_neg (by omega),if_neg (by omega)];unfold eY bY Tb.zero;dsimp only;rw[if_neg (Nat.not_lt_zero _),if_neg (Nat.not_lt_zero _),if_neg (Nat.not_lt_zero _)]
theorem jd (T:Tb)(j:Nat):(ae T j).oneCell'=true:=by
 unfold ae eY;split
 ·rfl
 split
 ·rfl
 split<;>rfl
theorem nY (s:ByteArray)(w:World)(hs:s.size=456):Calls Tryz.prog 272 #[.string s] w fun e w'=>e=.returned (aY (rd s))∧Since w w':=by
 have hI:(s.size:Int)=456:=by omega
 have z1:(s.extract 16 24).size=8:=by rw[ByteArray.size_extract];omega
 have HN:Hid (∀W,Calls Tryz.prog 303 #[.string (s.extract 16 24)] W fun e w'=>e=.returned (.int .i64 (wrap64 (bU s 16 8:Int)))∧w'=W):=fun W=>by
  have:=Ih (s.extract 16 24) W z1;rw[zM s 16 24 0 (by omega) 8 (by omega),Nat.add_zero] at this;exact this
 have hC0:=(bA w w.heap.size rfl).since ((Since.refl _).alloc (.cells Tryz.zeroCells72 72));have vR:=bA (w.alloc (.cells Tryz.zeroCells72 72)) (w.heap.size+1) (by simp);have hst:=vR.store Tryz.prog 0 73 (by omega) (ae (bY s 0)) (fun j _=>jd _ j);have hC2:=vR.setRow 0 73 (by omega) (ae (bY s 0));have gW:=hC2.congr (g:=ae (bY s 0)) (fun j hj=>by unfold fP;rw[if_pos (by omega)];rfl);have tF:=hC0.setRow_other (b':=w.heap.size+1) (o':=0) (ak 73 (ae (bY s 0))) (by omega);have hS:Since w (((w.alloc (.cells Tryz.zeroCells72 72)).alloc (.cells Tryz.zeroCells72 72)).setCells (w.heap.size+1) 0 (ak 73 (ae (bY s 0)))):=(((Since.refl w).alloc _).alloc _).setCells (by omega) _ _;have jR:=hid gW;have qZ:=hid tF;have HS:=hid hS;clear hC0 vR hC2 gW tF hS
 generalize ((w.alloc (.cells Tryz.zeroCells72 72)).alloc (.cells Tryz.zeroCells72 72)).setCells (w.heap.size+1) 0 (ak 73 (ae (bY s 0)))=w2 at *;rw[←Dj] at hst;go_enter Tryz.func272,Tryz.ntmps272
 go_wp2_with fail
 refine(HN.o _).mono ?_;rintro e w1 ⟨rfl,hw1⟩;subst hw1;go_wp2_with fail
 clear hst HN z1;go_loopw [10,4,5] (fun i _ _ wr=>∃k:Nat,k≤24∧i=.int .i64 k∧aA wr (w.heap.size+1) 73 (ae (bY s k))∧aA wr w.heap.size 73 (ae Tb.zero)∧Since w wr) (fun i _ _ _=>24-(intOf i).toNat)
 case atStart=>exact⟨0,by omega,rfl,jR.o,qZ.o,HS.o⟩
 obtain⟨k,hk,rfl,hc,hd,hs2⟩:=hrel;have zn:=hid hc;have HDK:=hid hd;have ed:=hid hs2;clear hc hd hs2;by_cases hlt:k<24
 ·have hlt2:(k:Int)<24:=by omega
  have g1:(24:Int)+(k:Int)*18=((24+18*k:Nat):Int):=by omega
  have g2:((24+18*k:Nat):Int)+18=((42+18*k:Nat):Int):=by omega
  have g3:((42+18*k:Nat):Int)≤456:=by omega
  have z2:(s.extract (24+18*k) (42+18*k)).size=18:=by rw[ByteArray.size_extract];omega
  have Zy:Hid (∀W,Calls Tryz.prog 304 #[.string (s.extract (24+18*k) (42+18*k))] W fun e w'=>e=.returned (.agg #[.int .i64 (vO s k),.int .i64 (vP s k),.string (vQ s k)])∧Since W w'):=fun W=>by
   have:=Ri (s.extract (24+18*k) (42+18*k)) W z2;obtain⟨c1,c2,c3⟩:=Rq s k hlt (by omega);rw[c1,c2,c3] at this;exact this
  go_wp2_with fail
  rw[show 24+18*k+18=42+18*k by omega];refine(Zy.o _).mono ?_;rintro e w4 ⟨rfl,h4⟩;have iM:=hid (zn.o.since h4);have HD5:=hid (HDK.o.since h4);have jX:=hid (ed.o.trans h4);clear h4 Zy g1 g2 g3 z2;have q0:=iM.o.cell (1+k*3) (by omega);have q1:=iM.o.cell (1+k*3+1) (by omega);have q2:=iM.o.cell (1+k*3+2) (by omega);have f0:=iM.o.frozen (1+k*3) (by omega);have f1:=iM.o.frozen (1+k*3+1) (by omega);have f2:=iM.o.frozen (1+k*3+2) (by omega);have uH:=((iM.o.set (1+k*3) (by omega) (.int .i64 (vO s k))).set (1+k*3+1) (by omega) (.int .i64 (vP s k))).set (1+k*3+2) (by omega) (.string (vQ s k));have Hd:Hid (aA (((w4.setCell ⟨w.heap.size+1,1+k*3,none⟩ (.int .i64 (vO s k))).setCell ⟨w.heap.size+1,1+k*3+1,none⟩ (.int .i64 (vP s k))).setCell ⟨w.heap.size+1,1+k*3+2,none⟩ (.string (vQ s k))) (w.heap.size+1) 73 (ae (bY s (k+1)))):=uH.congr (fun j hj=>Dh s k hlt j hj)
  have HD6:Hid (aA (((w4.setCell ⟨w.heap.size+1,1+k*3,none⟩ (.int .i64 (vO s k))).setCell ⟨w.heap.size+1,1+k*3+1,none⟩ (.int .i64 (vP s k))).setCell ⟨w.heap.size+1,1+k*3+2,none⟩ (.string (vQ s k))) w.heap.size 73 (ae Tb.zero)):=((HD5.o.other (by show w.heap.size+1≠w.heap.size;omega) _).other (by show w.heap.size+1≠w.heap.size;omega) _).other (by show w.heap.size+1≠w.heap.size;omega) _;have iL:Hid (Since w (((w4.setCell ⟨w.heap.size+1,1+k*3,none⟩ (.int .i64 (vO s k))).setCell ⟨w.heap.size+1,1+k*3+1,none⟩ (.int .i64 (vP s k))).setCell ⟨w.heap.size+1,1+k*3+2,none⟩ (.string (vQ s k)))):=((jX.o.setCell (by show w.heap.size≤w.heap.size+1;omega) _).setCell (by show w.heap.size≤w.heap.size+1;omega) _).setCell (by show w.heap.size≤w.heap.size+1;omega) _;clear uH;go_wp2_with fail
  go_roundw
  case rel=>exact⟨k+1,by omega,by go_num,Hd.o,HD6.o,iL.o⟩
  case measure=>simp[intOf];omega
 have hke:k=24:=by omega
 subst hke;have hR:=bJ zn.o;have hL:(ak 73 (ae (bY s 24))).length=73:=ax _ _;have hst:=HDK.o.store Tryz.prog 0 73 (by omega) (ae (bY s 24)) (fun j _=>jd _ j);have HR2:Hid ((wr.setCells w.heap.size 0 (ak 73 (ae (bY s 24)))).rangeAt w.heap.size 0 (ak 73 (ae (bY s 24)))):=bJ ((HDK.o.setRow 0 73 (by omega) (ae (bY s 24))).congr (g:=ae (bY s 24)) (fun j hj=>by unfold fP;rw[if_pos (by omega)];rfl));have HS2:Hid (Since w (wr.setCells w.heap.size 0 (ak 73 (ae (bY s 24))))):=ed.o.setCells (Nat.le_refl _) _ _;have HV:Hid (aY (rd s)=.agg (ak 73 (ae (bY s 24))).toArray):=show aY (rd s)=_ from rfl
 generalize ak 73 (ae (bY s 24))=cs at *;go_wp2_with (refine wpList_load_mid (by rfl) 72 _ (by rfl) (w.heap.size+1) 0 (by rfl) _ _ hR Tryz.underlying72 (by rfl) (by rw[hL];kernel_rfl) ?_)
 exact bodyPost_ret (bz Tryz.results272 _ _ _ w.heap.size _ _ (by rfl) HR2.o Tryz.underlying72 (by rfl) (by rw[hL];kernel_rfl)) rfl ⟨by rw[HV.o],HS2.o⟩
end Tw
end
section
namespace Tw
open Go.RowKit
open Sm (kM lF pE bT df lZ iQ bW)
def two (a b:ByteArray):Nat→ByteArray:=fun j=>if j=0 then a else b
theorem pI (s:ByteArray):(bT s).size=16:=by
 unfold bT;have h:(strOfNums (iQ s).bytes).size=32:=by rw[strOfNums_size];rfl
 simp[ByteArray.size_extract,h]
theorem lJ (w:World)(a b:ByteArray)(t:TypeId)(j:Nat)(hj:j<2):(w.alloc (.cells #[.string a,.string b] t)).cell? ⟨w.heap.size,0+j,none⟩=some (.string (two a b j)):=by
 rw[Nat.zero_add,World.cell?_alloc_new]
 match j,hj with
 | 0,_=>rfl
 | 1,_=>rfl
theorem nZ (a b:ByteArray)(ha:a.size≤900)(hb:b.size≤900)(j:Nat):(two a b j).size≤900:=by
 unfold two;split<;>assumption
def hd (T:Tb):ByteArray:=strOfNums (lZ (T.count % 18446744073709551616))
theorem vS (T:Tb):(hd T).size=8:=by unfold hd;rw[strOfNums_size];rfl
def eu (T:Tb)(k:Nat):List UInt8:=(hd T).data.toList++nR T k
theorem tN {T:Tb}{n:Nat}(h:fine T n)(k:Nat)(hk:k≤n):(eu T k).length=8+18*k:=by
 have h8:(hd T).data.size=8:=vS T;unfold eu;rw[List.length_append,wI h k hk,Array.length_toList,h8]
theorem qG (T:Tb)(k:Nat):eu T (k+1)=eu T k++cellL T k:=by
 unfold eu;rw[nS,List.append_assoc]
def body (T:Tb):ByteArray:=⟨(eu T 24).toArray⟩
theorem lG {T:Tb}(h:fine T 24):(body T).size=440:=by
 show (eu T 24).toArray.size=440
 rw[List.size_toArray,tN h 24 (Nat.le_refl _)]
def Wh (key b:ByteArray):ByteArray:=bT ⟨(df 116 (two key b) 2).toArray⟩
theorem og (key b:ByteArray):(Wh key b).size=16:=pI _
def text (key:ByteArray)(T:Tb):ByteArray:=Wh key (body T)++body T
theorem gG {key:ByteArray}{T:Tb}(h:fine T 24):(text key T).size=456:=by
 unfold text;rw[ByteArray.size_append,og,lG h]
theorem NM (key:ByteArray)(T:Tb)(w:World)(h:key.size=32)(hr:uG T=false) :
  Calls Tryz.prog 193 #[.string key,aY T] w fun e w'=>e=.returned (.tuple #[.string ⟨#[]⟩,.iface 32 (.int .i64 1)])∧Since w w':=by
 have e1:(key.size:Int)=32:=by omega
 have hR:=bJ (dP T w);have mG:=fun W=>lI T W
 rw[hr] at mG;have Wi:=hid mG;clear mG hr;have hL:(ak 73 (ae T)).length=73:=ax _ _;unfold aY at *;generalize ak 73 (ae T)=cs at *;have HS:Hid (Since w (w.alloc (.cells cs.toArray 72))):=(Since.refl w).alloc _;go_enter Tryz.func193,Tryz.ntmps193
 go_wp2_with fail
 refine wp_load_mid 72 _ (by rfl) w.heap.size 0 (by rfl) _ _ hR Tryz.underlying72 (by rfl) (by rw[hL];kernel_rfl) ?_;clear hR hL;go_wp2_with fail
 refine(Wi.o _).mono ?_;rintro e w1 ⟨rfl,h1⟩;go_wp2_with fail
 go_ret2;exact⟨rfl,HS.o.trans h1⟩
end Tw
end
section
namespace Tw
open Go.RowKit
open Sm (kM lF pE bT df lZ iQ bW)
theorem Bz {T:Tb}{n k:Nat}(h:fine T n)(hk:k<n):ig T k∨may T k:=by
 rcases h k hk with h1 | h1
 ·exact Or.inl h1
 exact Or.inr h1.1
theorem wV (key:ByteArray)(T:Tb)(w:World)(h:key.size=32)(hr:Rt T)(hT:kM w) :
  Calls Tryz.prog 193 #[.string key,aY T] w fun e w'=>e=.returned (.tuple #[.string (text key T),.nilIface])∧Since w w':=by
 have e1:(key.size:Int)=32:=by omega
 have NN:Hid (Rt T):=hr;have HT:Hid (kM w):=hT;have hC:=dP T w;have hR:=bJ hC;have mG:=fun W=>lI T W
 rw[rE hr] at mG;have Wi:Hid (∀W,Calls Tryz.prog 249 #[aY T] W fun e w'=>e=.returned (.bool true)∧Since W w'):=mG;clear mG hr hT;have hL:(ak 73 (ae T)).length=73:=ax _ _;unfold aY at *;generalize ak 73 (ae T)=cs at *;have HC:Hid (aA (w.alloc (.cells cs.toArray 72)) w.heap.size 73 (ae T)):=hC;have HS:Hid (Since w (w.alloc (.cells cs.toArray 72))):=(Since.refl w).alloc _;clear hC;go_enter Tryz.func193,Tryz.ntmps193
 go_wp2_with fail
 refine wp_load_mid 72 _ (by rfl) w.heap.size 0 (by rfl) _ _ hR Tryz.underlying72 (by rfl) (by rw[hL];kernel_rfl) ?_;clear hR hL;go_wp2_with fail
 refine(Wi.o _).mono ?_;rintro e w1 ⟨rfl,h1⟩;have jS:Hid (aA w1 w.heap.size 73 (ae T)):=HC.o.since h1;have cK:Hid (Since w w1):=HS.o.trans h1;clear HS HC h1 Wi;have hl1:w.heap.size<w1.heap.size:=jS.o.lt (by omega);have hB0:Lib.IsBuilderF 161 5 w1.heap.size w1.heap.size [] (w1.alloc (.cells #[.pointer none,.slice none 0 0] 161)):=Lib.IsBuilderF.of (Lib.fresh_isBuilder 161 5 w1);have HB0:Hid (Lib.IsBuilderF 161 5 w1.heap.size w1.heap.size [] (w1.alloc (.cells #[.pointer none,.slice none 0 0] 161))):=hB0;have HS2:Hid (Since w1 (w1.alloc (.cells #[.pointer none,.slice none 0 0] 161))):=(Since.refl w1).alloc _;clear hB0;have q0:=(jS.o.since HS2.o).cell 0 (by omega);rw[show ae T 0=.int .i64 T.count from rfl] at q0;go_wp2_with fail
 refine(pE _ _).mono ?_;rintro e w2 ⟨rfl,h2⟩;have HHD:strOfNums (lZ (T.count % 18446744073709551616))=hd T:=rfl;rw[HHD];clear HHD q0;have HB2:Hid (Lib.IsBuilderF 161 5 w1.heap.size w1.heap.size [] w2):=bW HB0.o h2;have dZ:Hid (Since w1 w2):=HS2.o.trans h2;clear h2 HB0 HS2;have h8:=vS T;have YJ:(eu T 0)=(hd T).data.toList:=by unfold eu;rw[uy,List.append_nil]
 have HL0:Hid ((eu T 0)=(hd T).data.toList):=YJ;clear YJ;generalize hd T=H at *;go_wp2_with fail
 refine(bP w1.heap.size w1.heap.size [] H _ HB2.o (by simp;omega) dZ.o.size).mono ?_;rintro e w3 ⟨rfl,h3,b3,_⟩;have HB3:Hid (Lib.IsBuilderF 161 5 w1.heap.size w1.heap.size (Lib.byteCells (eu T 0)) w3):=by
  refine Or.inr ?_;rw[Lib.strCells_eq] at h3;rw[HL0.o]
  simpa [Lib.byteCells] using h3
 have fO:Hid (Since w1 w3):=Below.trans dZ.o b3;clear h3 b3 HB2 dZ HL0;have hR:=fJ (jS.o.since fO.o);have hL:(ak 72 (aU T)).length=72:=ax _ _;have NL:Hid (∀(k:Nat) (hk:k<24) (w:World),(Instr.index 70 (.agg (ak 72 (aU T)).toArray) (.int .i64 (k:Int))).run Tryz.prog w=.ok (.agg #[.int .i64 (T.az k),.int .i64 (T.off k),.string (T.tag k)]) w):=fun k hk w=>gX T k hk w
 generalize hcs:ak 72 (aU T)=cs2 at *;clear hcs;go_wp2_with (refine wpList_load_mid (by rfl) 70 _ (by rfl) w.heap.size 1 (by rfl) _ _ hR Tryz.underlying70 (by rfl) (by rw[hL];kernel_rfl) ?_)
 clear hR hL;go_loopw [24] (fun i wr=>∃k:Nat,k≤24∧i=.int .i64 k∧Lib.IsBuilderF 161 5 w1.heap.size w1.heap.size (Lib.byteCells (eu T k)) wr∧Since w1 wr) (fun i _=>24-(intOf i).toNat)
 case atStart=>exact⟨0,by omega,rfl,HB3.o,fO.o⟩
 obtain⟨k,hk,rfl,hb,hs⟩:=hrel;have VB:Hid (Lib.IsBuilderF 161 5 w1.heap.size w1.heap.size (Lib.byteCells (eu T k)) wr):=hb;have ed:Hid (Since w1 wr):=hs;clear hb hs;by_cases hlt:k<24
 ·have hlt2:(k:Int)<24:=by omega
  have hix:=NL.o k hlt;have HWR:Hid (∀W,Calls Tryz.prog 251 #[.agg #[.int .i64 (T.az k),.int .i64 (T.off k),.string (T.tag k)]] W fun e w'=>e=.returned (.string ⟨(cellL T k).toArray⟩)∧Since W w'):=fun W=>nV T k W (Bz NN.o.2 hlt)
  have HLS:Hid ((eu T k).length≤1000):=by have:=tN NN.o.2 k (by omega);show (eu T k).length≤1000;omega
  have HLC:Hid ((cellL T k).length=18):=zD NN.o.2 k hlt;have He:Hid (eu T (k+1)=eu T k++cellL T k):=qG T k;generalize T.az k=z at *;generalize T.off k=o at *;generalize T.tag k=t at *;generalize cellL T k=c at *;go_wp2_with fail
  refine(HWR.o _).mono ?_;rintro e w4 ⟨rfl,h4⟩;have Dk:Hid (Lib.IsBuilderF 161 5 w1.heap.size w1.heap.size (Lib.byteCells (eu T k)) w4):=bW VB.o (((Since.refl _).alloc _).trans h4);have jX:Hid (Since w1 w4):=(ed.o.alloc _).trans h4;clear h4 hix HWR;go_wp2_with fail
  refine(bP w1.heap.size w1.heap.size _ ⟨c.toArray⟩ _ Dk.o (by rw[Lib.byteCells_length];have h1:=HLS.o;have h2:=HLC.o;show _+c.toArray.size≤_;rw[List.size_toArray];omega) jX.o.size).mono ?_;rintro e w5 ⟨rfl,h5,b5,_⟩;have zN:Hid (Lib.IsBuilderF 161 5 w1.heap.size w1.heap.size (Lib.byteCells (eu T (k+1))) w5):=by
   refine Or.inr ?_;rw[Lib.strCells_eq] at h5;rw[He.o]
   simpa [Lib.byteCells] using h5
  have iL:Hid (Since w1 w5):=Below.trans jX.o b5;clear h5 b5;go_wp2_with fail
  go_roundw
  case rel=>exact⟨k+1,by omega,by go_num,zN.o,iL.o⟩
  case measure=>simp[intOf];omega
 have hke:k=24:=by omega
 subst hke;have Mw:Hid ((⟨(eu T 24).toArray⟩:ByteArray)=body T):=rfl;have hbs:=lG NN.o.2;have HM:Hid (Wh key (body T)++body T=text key T):=rfl;go_wp2_with fail
 refine(qz w1.heap.size w1.heap.size _ _ VB.o ed.o.size).mono ?_;rintro e w2' ⟨rfl,hb2,b2,_⟩;rw[Mw.o];have HB2:Hid (Lib.IsBuilderF 161 5 w1.heap.size w1.heap.size (Lib.byteCells (eu T 24)) w2'):=hb2;have Zz:Hid (Since w1 w2'):=Below.trans ed.o b2;clear hb2 b2;have hms:=og key (body T);generalize hbd:body T=bd at *;have ZA:Hid (body T=bd):=hbd;clear hbd;go_wp2_with fail
 have hm:=lF 116 w2'.heap.size 0 2 2 (two key bd) (w2'.alloc (.cells #[.string key,.string bd] 9)) (by omega) (fun j _=>nZ key bd (by omega) (by omega) j) (HT.o.since (cK.o.trans (Zz.o.alloc _))) (fun j hj=>lJ w2' key bd 9 j hj);rw[show ((116:UInt8).toNat:Int)=116 from rfl] at hm;refine hm.mono ?_;clear hm;rintro e w6 ⟨rfl,h6⟩;have Cq:bT ⟨(df 116 (two key bd) 2).toArray⟩=Wh key bd:=rfl;rw[Cq];clear Cq;have HB6:Hid (Lib.IsBuilderF 161 5 w1.heap.size w1.heap.size (Lib.byteCells (eu T 24)) w6):=bW HB2.o (((Since.refl _).alloc _).trans h6);have iL:Hid (Since w1 w6):=(Zz.o.alloc _).trans h6;clear h6;generalize hmk:Wh key bd=M at *;have Cq:Hid (Wh key bd=M):=hmk;clear hmk;go_wp2_with fail
 refine(qz w1.heap.size w1.heap.size _ _ HB6.o iL.o.size).mono ?_;rintro e w7 ⟨rfl,_,b7,_⟩;rw[Mw.o];have mH:Hid (Since w w7):=cK.o.trans (Below.trans iL.o b7);clear b7;have hsum:M.size+bd.size≤9223372036854775807:=by omega
 go_wp2_with fail
 go_ret2;exact⟨by rw[←HM.o];rfl,mH.o⟩
end Tw
end
section
namespace Tw
open Go.RowKit
open Sm (kM)
theorem BA:Tryz.zeroCells72.toList=ak 73 (ae Tb.zero):=by rw[Bw]
theorem aR {fn:Func}{p q:Tmp}{ty:TypeId}(h:fn.results=#[.cell p ty,.tmp q])(tmps:Array Value)(P:Program)(w:World)(b:Nat)(cs:List Value)(d:TypeDesc)(v:Value)(hx:tmps.getD p undef=.pointer (some ⟨b,0,none⟩))(hc:w.rangeAt b 0 cs)(hu:P.underlying ty=some d)(hd:d.isRow=true)(hi:(P.info? ty).map (·.size)=some cs.length)(hq:tmps.getD q undef=v) :
  (results fn tmps).run P w=.ok (.tuple #[.agg cs.toArray,v]) w:=by
 simp only[results,h];have h1:=run_loadVar_mid (P:=P) w b 0 ty cs d hc hu hd hi;have h2:tmps[p]?.getD undef=.pointer (some ⟨b,0,none⟩):=by simpa using hx
 have h3:tmps[q]?.getD undef=v:=by simpa using hq
 simp[asAddr,h2,h1,h3]
theorem di {w:World}{b:Nat}{T:Tb}(h:aA w b 73 (ae T))(U:Tb):(storeCells ⟨b,0,none⟩ (ak 73 (ae U))).run Tryz.prog w=.ok () (w.setCells b 0 (ak 73 (ae U)))∧aA (w.setCells b 0 (ak 73 (ae U))) b 73 (ae U):=
 ⟨h.store Tryz.prog 0 73 (by omega) (ae U) (fun j _=>jd _ j),(h.setRow 0 73 (by omega) (ae U)).congr (fun j hj=>by unfold fP;rw[if_pos (by omega)];rfl)⟩
theorem iI {w:World}{b:Nat}{T:Tb}(h:aA w b 73 (ae T)):(storeCells ⟨b,0,none⟩ Tryz.zeroCells72.toList).run Tryz.prog w=.ok () (w.setCells b 0 Tryz.zeroCells72.toList)∧(w.setCells b 0 Tryz.zeroCells72.toList).rangeAt b 0 (ak 73 (ae Tb.zero)):=by
 rw[BA];exact⟨(di h _).1,bJ (di h _).2⟩
theorem YK (key s:ByteArray)(w:World)(h:key.size=32)(hs:s.size<456) :
  Calls Tryz.prog 225 #[.string key,.string s] w fun e w'=>e=.returned (.tuple #[aY Tb.zero,.iface 32 (.int .i64 15)])∧Since w w':=by
 have e1:(key.size:Int)=32:=by omega
 have e2:(s.size:Int)<456:=by omega
 obtain⟨hst,hR⟩:=iI (bA w w.heap.size rfl);have HR:=hid hR;have HS:Hid (Since w ((w.alloc (.cells Tryz.zeroCells72 72)).setCells w.heap.size 0 Tryz.zeroCells72.toList)):=((Since.refl w).alloc _).setCells (Nat.le_refl _) _ _;clear hR;go_enter Tryz.func225,Tryz.ntmps225
 go_wp2_with fail
 exact bodyPost_ret (aR Tryz.results225 _ _ _ w.heap.size _ _ _ (by rfl) HR.o Tryz.underlying72 (by rfl) (by rw[jc];kernel_rfl) rfl) rfl ⟨rfl,HS.o⟩
theorem wW (s:ByteArray)(w:World)(hs:456≤s.size)(hz:s.size≤900):Calls Tryz.prog 271 #[.string (s.extract 456 s.size)] w fun e w'=>(∃x:Bool,e=.returned (.bool x)∧(x=true↔wJ s))∧w'=w:=by
 have h:=Ig (s.extract 456 s.size) w (by rw[ByteArray.size_extract];omega);refine h.mono ?_;rintro e w' ⟨rfl,rfl⟩;refine⟨⟨_,rfl,?_⟩,rfl⟩;rw[decide_eq_true_iff];have hsz:(s.extract 456 s.size).size=s.size-456:=by rw[ByteArray.size_extract];omega
 constructor
 ·intro h j h1 h2;have:=h (j-456) (by omega);rw[kD s 456 s.size (j-456) (by omega) (Nat.le_refl _),show 456+(j-456)=j by omega] at this;exact this
 intro h j hj;rw[kD s 456 s.size j (by omega) (Nat.le_refl _)];exact h (456+j) (by omega) (by omega)
theorem Il (key s:ByteArray)(w:World)(h:key.size=32)(hs:456≤s.size)(hz:s.size≤900)(ht:¬wJ s) :
  Calls Tryz.prog 225 #[.string key,.string s] w fun e w'=>e=.returned (.tuple #[aY Tb.zero,.iface 32 (.int .i64 15)])∧Since w w':=by
 have e1:(key.size:Int)=32:=by omega
 have e2:¬(s.size:Int)<456:=by omega
 have e3:(456:Int)≤s.size:=by omega
 obtain⟨hst,hR⟩:=iI (bA w w.heap.size rfl);have HR:=hid hR;have HS:Hid (Since w ((w.alloc (.cells Tryz.zeroCells72 72)).setCells w.heap.size 0 Tryz.zeroCells72.toList)):=((Since.refl w).alloc _).setCells (Nat.le_refl _) _ _;have HZ:Hid (∀W,Calls Tryz.prog 271 #[.string (s.extract 456 s.size)] W fun e w'=>e=.returned (.bool false)∧w'=W):=fun W=>(wW s W hs hz).mono (fun e w' ⟨⟨x,hx,hi⟩,hw⟩=>⟨by
  cases x with
  | true=>exact absurd (hi.1 rfl) ht
  | false=>exact hx,hw⟩)
 clear hR ht;go_enter Tryz.func225,Tryz.ntmps225
 go_wp2_with fail
 refine(HZ.o _).mono ?_;rintro e w1 ⟨rfl,hw1⟩;subst hw1;go_wp2_with fail
 exact bodyPost_ret (aR Tryz.results225 _ _ _ w.heap.size _ _ _ (by rfl) HR.o Tryz.underlying72 (by rfl) (by rw[jc];kernel_rfl) rfl) rfl ⟨rfl,HS.o⟩
end Tw
end
section
namespace Tw
open Go.RowKit
open Sm (kM)
theorem fD {a b:ByteArray}(h:¬a=b):(a.toList==b.toList)=false:=by
 rw[ByteArray.toList_eq,ByteArray.toList_eq];rw[beq_eq_false_iff_ne];exact fun e=>h (ByteArray.ext (Array.toList_inj.1 e))
def Rs (key:ByteArray)(T:Tb)(A:ByteArray)(ev:Value):Prop:=∀W,kM W→Calls Tryz.prog 193 #[.string key,aY T] W fun e w'=>e=.returned (.tuple #[.string A,ev])∧Since W w'
theorem qH (key s:ByteArray)(w:World)(h:key.size=32)(hs:456≤s.size)(hz:s.size≤900)(ht:wJ s)(hT:kM w)(A:ByteArray)(ev res:Value)(hw:Rs key (rd s) A ev)(hres:(ev=.iface 32 (.int .i64 1)∧res=.tuple #[aY Tb.zero,.iface 32 (.int .i64 15)])∨(ev=.nilIface∧¬A=s.extract 0 456∧res=.tuple #[aY Tb.zero,.iface 32 (.int .i64 15)])∨(ev=.nilIface∧A=s.extract 0 456∧res=.tuple #[aY (rd s),.nilIface])) :
  Calls Tryz.prog 225 #[.string key,.string s] w fun e w'=>e=.returned res∧Since w w':=by
 have e1:(key.size:Int)=32:=by omega
 have e2:¬(s.size:Int)<456:=by omega
 have e3:(456:Int)≤s.size:=by omega
 have HT:=hid hT;have HZ:Hid (∀W,Calls Tryz.prog 271 #[.string (s.extract 456 s.size)] W fun e w'=>e=.returned (.bool true)∧w'=W):=fun W=>(wW s W hs hz).mono (fun e w' ⟨⟨x,hx,hi⟩,hw⟩=>⟨by
  cases x with
  | false=>exact absurd (hi.2 ht) (by decide)
  | true=>exact hx,hw⟩)
 have z1:(s.extract 0 456).size=456:=by rw[ByteArray.size_extract];omega
 have HRD:Hid (∀W,Calls Tryz.prog 272 #[.string (s.extract 0 456)] W fun e w'=>e=.returned (aY (rd s))∧Since W w'):=fun W=>by
  have:=nY (s.extract 0 456) W z1;rw[Zx s hs] at this;exact this
 have HW:=hid hw;have VC:=hid hres;have VD:Hid (aA (w.alloc (.cells Tryz.zeroCells72 72)) w.heap.size 73 (ae Tb.zero)):=bA w w.heap.size rfl;have qI:Hid (Since w (w.alloc (.cells Tryz.zeroCells72 72))):=(Since.refl w).alloc _;clear ht hT hw hres;generalize rd s=T at *;go_enter Tryz.func225,Tryz.ntmps225
 go_wp2_with fail
 refine(HZ.o _).mono ?_;rintro e w1 ⟨rfl,hw1⟩;rw[←hw1] at VD qI;clear hw1;go_wp2_with fail
 refine(HRD.o _).mono ?_;rintro e w2 ⟨rfl,h2⟩;have nO:=hid (VD.o.since h2);have HS2:=hid (qI.o.trans h2);clear h2 VD qI HRD HZ;have gW:=bA w2 w2.heap.size rfl;obtain⟨hst,tF⟩:=di gW T;have qZ:=hid tF;have HD4:Hid (aA ((w2.alloc (.cells Tryz.zeroCells72 72)).setCells w2.heap.size 0 (ak 73 (ae T))) w.heap.size 73 (ae Tb.zero)):=(nO.o.since ((Since.refl _).alloc _)).setRow_other _ (by have:=nO.o.lt (by omega);omega);have fO:Hid (Since w ((w2.alloc (.cells Tryz.zeroCells72 72)).setCells w2.heap.size 0 (ak 73 (ae T)))):=(HS2.o.alloc _).setCells HS2.o.size _ _;clear gW tF;have hR:=bJ qZ.o;have hL:=jc T;generalize ((w2.alloc (.cells Tryz.zeroCells72 72)).setCells w2.heap.size 0 (ak 73 (ae T)))=w3 at *;have hV:∀U,aY U=.agg (ak 73 (ae U)).toArray:=fun U=>rfl
 rw[hV T];go_wp2_with (refine wpList_load_mid (by rfl) 72 _ (by rfl) w2.heap.size 0 (by rfl) _ _ hR Tryz.underlying72 (by rfl) (by rw[hL];kernel_rfl) ?_)
 refine(HW.o _ (HT.o.since fO.o)).mono ?_;rintro e w5 ⟨rfl,h5⟩;have iM:=hid (qZ.o.since h5);have HD5:=hid (HD4.o.since h5);have jX:=hid (fO.o.trans h5);clear h5 qZ HD4 fO hst hR HW;rcases VC.o with⟨he,hr⟩ | ⟨he,hne,hr⟩ | ⟨he,heq,hr⟩
 ·subst he;have HR:=hid hr;clear hr VC;obtain⟨hst,hR⟩:=iI HD5.o;have rF:=hid hR;have iL:Hid (Since w (w5.setCells w.heap.size 0 Tryz.zeroCells72.toList)):=jX.o.setCells (Nat.le_refl _) _ _;clear hR hV;go_wp2_with fail
  exact bodyPost_ret (aR Tryz.results225 _ _ _ w.heap.size _ _ _ (by rfl) rF.o Tryz.underlying72 (by rfl) (by rw[jc];kernel_rfl) rfl) rfl ⟨by rw[HR.o];rfl,iL.o⟩
 ·subst he;have HR:=hid hr;have hnl:=fD hne;clear hr VC hne;obtain⟨hst,hR⟩:=iI HD5.o;have rF:=hid hR;have iL:Hid (Since w (w5.setCells w.heap.size 0 Tryz.zeroCells72.toList)):=jX.o.setCells (Nat.le_refl _) _ _;clear hR hV;go_wp2_with fail
  exact bodyPost_ret (aR Tryz.results225 _ _ _ w.heap.size _ _ _ (by rfl) rF.o Tryz.underlying72 (by rfl) (by rw[jc];kernel_rfl) rfl) rfl ⟨by rw[HR.o];rfl,iL.o⟩
 subst he;subst heq;have HR:=hid hr;clear hr VC;obtain⟨hst,uH⟩:=di HD5.o T;have rF:=hid (bJ uH);have iL:Hid (Since w (w5.setCells w.heap.size 0 (ak 73 (ae T)))):=jX.o.setCells (Nat.le_refl _) _ _;have hR:=bJ iM.o;clear uH hV;go_wp2_with (refine wpList_load_mid (by rfl) 72 _ (by rfl) w2.heap.size 0 (by rfl) _ _ hR Tryz.underlying72 (by rfl) (by rw[hL];kernel_rfl) ?_)
 exact bodyPost_ret (aR Tryz.results225 _ _ _ w.heap.size _ _ _ (by rfl) rF.o Tryz.underlying72 (by rfl) (by rw[jc];kernel_rfl) rfl) rfl ⟨by rw[HR.o];rfl,iL.o⟩
end Tw
end
section
namespace Sm
namespace Sr
open Go.RowKit
theorem wX (f:Nat→BitVec 32)(i:Nat):∃y:Nat,y<256∧byteOf f i=(y:Int):=⟨_,Nat.mod_lt _ (by decide),rfl⟩
def kb (key ah:ByteArray)(i:Nat):Nat:=(byteOf (mh (dx key ah (BitVec.ofNat 32 (1+i / 64)))) (i % 64)).toNat
theorem YL (key ah:ByteArray)(i:Nat):kb key ah i<256:=by
 unfold kb;obtain⟨y,h1,h2⟩:=wX (mh (dx key ah (BitVec.ofNat 32 (1+i / 64)))) (i % 64);rw[h2];simpa using h1
theorem Ru (key ah s:ByteArray)(i:Nat):iY key ah s i=(((aT s i).toNat ^^^ kb key ah i:Nat):Int):=by
 have h3:=YL key ah i;unfold kb at h3 ⊢;unfold iY NI;obtain⟨y,h1,h2⟩:=wX (mh (dx key ah (BitVec.ofNat 32 (1+i / 64)))) (i % 64);rw[h2,u8_xor_nat _ _ (aT s i).toNat_lt h1];simp
theorem jK (key ah s:ByteArray):(strOfNums (bR key ah s)).size=s.size:=by rw[strOfNums_size];simp[bR]
theorem Dl (key ah s:ByteArray)(i:Nat)(hi:i<s.size):(aT (strOfNums (bR key ah s)) i).toNat=(aT s i).toNat ^^^ kb key ah i:=by
 have h:aT (strOfNums (bR key ah s)) i=UInt8.ofNat ((aT s i).toNat ^^^ kb key ah i):=by
  show (strOfNums (bR key ah s)).data.toList.getD i 0=_
  rw[strOfNums_data,List.getD_eq_getElem?_getD];simp[bR,hi,Ru]
 rw[h,UInt8.toNat_ofNat'];exact Nat.mod_eq_of_lt (Nat.xor_lt_two_pow (n:=8) (aT s i).toNat_lt (YL key ah i))
theorem oh (s:ByteArray)(i:Nat)(hi:i<s.size):s[i]=aT s i:=by
 unfold aT;rw[List.getD_eq_getElem?_getD,List.getElem?_eq_getElem (by simpa using hi)]
 rfl
theorem NP {a b:ByteArray}(hs:a.size=b.size)(h:∀i,i<a.size→(aT a i).toNat=(aT b i).toNat):a=b:=by
 apply ByteArray.ext
 apply Array.ext
 ·exact hs
 intro i h1 h2;have h1':i<a.size:=h1;have h2':i<b.size:=h2;have e:=UInt8.toNat_inj.1 (h i h1');rw[←oh a i h1',←oh b i h2'] at e;exact e
theorem zO (key ah s:ByteArray):strOfNums (bR key ah (strOfNums (bR key ah s)))=s:=by
 have e1:=jK key ah s;have e2:=jK key ah (strOfNums (bR key ah s));refine NP (by omega) (fun i hi=>?_);rw[Dl key ah _ i (by omega),Dl key ah s i (by omega),Nat.xor_assoc,Nat.xor_self,Nat.xor_zero]
end Sr
end Sm
namespace Sl
open Go.RowKit
open Sm.Sr (bR zO)
theorem wY (a b:ByteArray)(n:Nat)(h:a.size=n):(a++b).extract 0 n=a:=by
 have hsz:a.data.size=n:=h;apply ByteArray.ext
 rw[ByteArray.data_extract,ByteArray.data_append];apply Array.ext_getElem?
 intro i;rw[Array.getElem?_extract];by_cases hi:i<n
 ·rw[if_pos (by rw[Array.size_append];omega),Nat.zero_add,Array.getElem?_append_left (by omega)]
 rw[if_neg (by omega),Array.getElem?_eq_none (by omega)]
theorem pJ (a b:ByteArray)(n m k:Nat)(h:a.size=n)(hk:m≤k):(a++b).extract (n+m) (n+k)=b.extract m k:=by
 have hsz:a.data.size=n:=h;apply ByteArray.ext
 rw[ByteArray.data_extract,ByteArray.data_append,ByteArray.data_extract];apply Array.ext_getElem?
 intro i;rw[Array.getElem?_extract,Array.getElem?_extract,Array.size_append];by_cases hi:i<min k b.data.size-m
 ·rw[if_pos (by omega),if_pos hi,Array.getElem?_append_right (by omega),show n+m+i-a.data.size=m+i by omega]
 rw[if_neg (by omega),if_neg hi]
theorem Mx (b:ByteArray)(n:Nat)(h:b.size=n):b.extract 0 n=b:=by
 have hsz:b.data.size=n:=h;apply ByteArray.ext
 rw[ByteArray.data_extract,←hsz,Array.extract_size]
theorem Rv (t:ByteArray)(h:t.size≤80):Da (fill t)=t:=by
 have h0:sb (fill t) 0=UInt8.ofNat t.size:=ma 81 _ 0 (by omega);have hn:(UInt8.ofNat t.size).toNat=t.size:=by rw[UInt8.toNat_ofNat'];omega
 have hts:t.data.size=t.size:=rfl;unfold Da;rw[h0,hn,Nat.min_eq_left h];apply ByteArray.ext
 apply Array.ext_getElem?
 intro i;have hfs:(fill t).data.size=81:=pz t;rw[ByteArray.data_extract,Array.getElem?_extract];by_cases hi:i<t.size
 ·rw[if_pos (by omega)];have e1:(fill t).data[1+i]?=((List.range 81).map (qg t))[1+i]?:=by unfold fill txt;exact List.getElem?_toArray ..
  rw[e1,List.getElem?_map,List.getElem?_range (by omega)];simp only[Option.map_some,qg];rw[if_neg (by omega),show 1+i-1=i by omega];unfold sb;rw[Array.getElem?_eq_getElem (by omega)]
  rfl
 rw[if_neg (by omega),Array.getElem?_eq_none (by omega)]
theorem Dm (key:ByteArray)(cell:Int)(t:ByteArray):(bL key cell t).extract 0 16=mk 103 key cell (fK key cell t):=by
 unfold bL;exact wY _ _ 16 (jB _ _ _ _)
theorem zP (key:ByteArray)(cell:Int)(t:ByteArray):(bL key cell t).extract 16 109=fK key cell t:=by
 unfold bL;have h:=pJ (mk 103 key cell (fK key cell t)) (fK key cell t) 16 0 93 (jB _ _ _ _) (by omega);rw[Mx _ 93 (zJ key cell t)] at h;exact h
theorem Im (key:ByteArray)(cell:Int)(t:ByteArray):(bL key cell t).extract 16 28=gD key cell t:=by
 unfold bL;have h:=pJ (mk 103 key cell (fK key cell t)) (fK key cell t) 16 0 12 (jB _ _ _ _) (by omega);have h2:(fK key cell t).extract 0 12=gD key cell t:=by unfold fK;exact wY _ _ 12 (kC key cell t)
 rw[h2] at h;exact h
theorem NQ (key:ByteArray)(cell:Int)(t:ByteArray):(bL key cell t).extract 28 109=mD key cell t:=by
 unfold bL;have h:=pJ (mk 103 key cell (fK key cell t)) (fK key cell t) 16 12 93 (jB _ _ _ _) (by omega);have h2:(fK key cell t).extract 12 93=mD key cell t:=by
  unfold fK;have h3:=pJ (gD key cell t) (mD key cell t) 12 0 81 (kC key cell t) (by omega);rw[Mx _ 81 (lG key cell t)] at h3;exact h3
 rw[h2] at h;exact h
theorem NR (key:ByteArray)(cell:Int)(t:ByteArray)(h:t.size≤80):(bL key cell t).extract 0 16=kT key cell (bL key cell t)∧textOf key (bL key cell t)=t:=by
 constructor
 ·unfold kT;rw[Dm,zP]
 unfold textOf;rw[Im,NQ];unfold mD;rw[zO];exact Rv t h
end Sl
end
section
namespace Tw
open Go.RowKit
open Sm (lZ)
theorem ol (a b:ByteArray)(j:Nat)(h:j<a.size):sb (a++b) j=sb a j:=by
 have hsz:a.data.size=a.size:=rfl;unfold sb;rw[ByteArray.data_append,Array.getElem?_append_left (by omega)]
theorem mJ (a b:ByteArray)(n j:Nat)(h:a.size=n):sb (a++b) (n+j)=sb b j:=by
 have hsz:a.data.size=n:=h;unfold sb;rw[ByteArray.data_append,Array.getElem?_append_right (by omega),show n+j-a.data.size=j by omega]
theorem MB (l:List UInt8)(j:Nat):sb ⟨l.toArray⟩ j=l[j]?.getD 0:=by
 unfold sb;rw[List.getElem?_toArray]
theorem Io {T:Tb}{n:Nat}(h:fine T n)(i r:Nat)(hr:r<18):∀k,i<k→k≤n→(nR T k)[18*i+r]?=(cellL T i)[r]?:=by
 intro k;induction k with
 | zero=>intro h1;omega
 | succ k ih=>
  intro h1 h2;have hl:=wI h k (by omega);rw[nS];by_cases e:i=k
  ·subst e;rw[List.getElem?_append_right (by omega),hl,show 18*i+r-18*i=r by omega]
  rw[List.getElem?_append_left (by omega)];exact ih (by omega) (by omega)
theorem Rw (key:ByteArray)(T:Tb)(tail:ByteArray)(h:fine T 24)(j:Nat)(hj:j<8):sb (text key T++tail) (16+j)=sb (hd T) j:=by
 have h8:(hd T).data.toList.length=8:=by rw[Array.length_toList];exact vS T
 rw[ol _ _ _ (by rw[gG h];omega)];unfold text;rw[mJ _ _ 16 j (og key (body T))];unfold body;rw[MB];unfold eu;rw[List.getElem?_append_left (by omega),Array.getElem?_toList]
 rfl
theorem tQ (key:ByteArray)(T:Tb)(tail:ByteArray)(h:fine T 24)(i r:Nat)(hi:i<24)(hr:r<18):sb (text key T++tail) (24+18*i+r)=(cellL T i)[r]?.getD 0:=by
 have h8:(hd T).data.toList.length=8:=by rw[Array.length_toList];exact vS T
 rw[ol _ _ _ (by rw[gG h];omega)];unfold text;rw[show 24+18*i+r=16+(8+(18*i+r)) by omega,mJ _ _ 16 _ (og key (body T))];unfold body;rw[MB];unfold eu;rw[List.getElem?_append_right (by omega),h8,show 8+(18*i+r)-8=18*i+r by omega,Io h i r hr 24 hi (Nat.le_refl _)]
theorem Wj (T:Tb)(h:1≤T.count∧T.count≤1099511627776)(j:Nat)(hj:j<8):((sb (hd T) j).toNat:Int)=((lZ T.count).getD j 0):=by
 have hm:T.count % 18446744073709551616=T.count:=Int.emod_eq_of_lt (by omega) (by omega);unfold hd;rw[hm];unfold sb strOfNums lZ
 match j,hj with
 | 0,_=>simp;omega
 | 1,_=>simp;omega
 | 2,_=>simp;omega
 | 3,_=>simp;omega
 | 4,_=>simp;omega
 | 5,_=>simp;omega
 | 6,_=>simp;omega
 | 7,_=>simp;omega
theorem Ip (key:ByteArray)(T:Tb)(tail:ByteArray)(h:Rt T):((bU (text key T++tail) 16 8:Nat):Int)=T.count:=by
 have b:=fun j hj=>Rw key T tail h.2 j hj
 have c:=fun j hj=>Wj T h.1 j hj
 have c0:=c 0 (by omega);have c1:=c 1 (by omega);have c2:=c 2 (by omega);have c3:=c 3 (by omega);have c4:=c 4 (by omega);have c5:=c 5 (by omega);have c6:=c 6 (by omega);have c7:=c 7 (by omega);simp only[lZ,List.getD_cons_zero,List.getD_cons_succ] at c0 c1 c2 c3 c4 c5 c6 c7;have h1:=h.1;simp only[bU];rw[b 0 (by omega),b 1 (by omega),b 2 (by omega),b 3 (by omega),b 4 (by omega),b 5 (by omega),b 6 (by omega),b 7 (by omega)];omega
theorem BB (n:Int)(h:1≤n∧n≤1099511627776):wrap64 n=n:=by
 simp[wrap64];omega
theorem om (s:ByteArray)(a b:Nat)(h:b≤s.size):(s.extract a b).size=b-a:=by rw[ByteArray.size_extract,Nat.min_eq_left h]
theorem wZ {a b:ByteArray}(hs:a.size=b.size)(h:∀j,j<a.size→sb a j=sb b j):a=b:=by
 have ha:a.data.size=a.size:=rfl;have hb:b.data.size=b.size:=rfl;apply ByteArray.ext
 apply Array.ext
 ·exact hs
 intro i h1 h2;have:=h i h1;unfold sb at this;rw[Array.getElem?_eq_getElem h1,Array.getElem?_eq_getElem h2] at this;exact this
theorem Wl (key:ByteArray)(T:Tb)(tail:ByteArray)(h:Rt T):Same (rd (text key T++tail)) T:=by
 have hlen:456≤(text key T++tail).size:=by rw[ByteArray.size_append,gG h.2];omega
 refine⟨?_,fun i hi=>?_⟩
 ·show wrap64 ((bU (text key T++tail) 16 8:Nat):Int)=T.count
  rw[Ip key T tail h];exact BB _ h.1
 have b0:=tQ key T tail h.2 i 0 hi (by omega);have b1:=tQ key T tail h.2 i 1 hi (by omega);rw[Nat.add_zero] at b0;rw[show 24+18*i+1=25+18*i by omega] at b1;show (if i<24 then vO _ i else 0)=_∧(if i<24 then vP _ i else 0)=_∧(if i<24 then vQ _ i else ⟨#[]⟩)=_
 rw[if_pos hi,if_pos hi,if_pos hi];by_cases hn:ig T i
 ·have hl:cellL T i=255::List.replicate 17 0:=by unfold cellL;rw[if_pos hn]
  rw[hl] at b0;have e0:sb (text key T++tail) (24+18*i)=255:=by rw[b0];rfl
  unfold vO vP vQ;rw[if_pos e0,if_pos e0,if_pos e0];exact⟨hn.1.symm,hn.2.1.symm,hn.2.2.symm⟩
 have hm:may T i:=(Bz h.2 hi).resolve_left hn;have hl:cellL T i=UInt8.ofNat (T.az i).toNat::UInt8.ofNat (T.off i).toNat::(T.tag i).data.toList:=by unfold cellL;rw[if_neg hn]
 obtain⟨m1,m2,m3,m4,m5⟩:=hm;rw[hl] at b0 b1;have e0:sb (text key T++tail) (24+18*i)=UInt8.ofNat (T.az i).toNat:=by rw[b0];rfl
 have e1:sb (text key T++tail) (25+18*i)=UInt8.ofNat (T.off i).toNat:=by rw[b1];rfl
 have n0:(UInt8.ofNat (T.az i).toNat).toNat=(T.az i).toNat:=by rw[UInt8.toNat_ofNat'];omega
 have n1:(UInt8.ofNat (T.off i).toNat).toNat=(T.off i).toNat:=by rw[UInt8.toNat_ofNat'];omega
 have hne:¬sb (text key T++tail) (24+18*i)=255:=by
  rw[e0];intro e;have:=congrArg UInt8.toNat e;rw[n0,show (255:UInt8).toNat=255 from rfl] at this;omega
 unfold vO vP vQ;rw[if_neg hne,if_neg hne,if_neg hne,e0,e1,n0,n1];refine⟨by omega,by omega,wZ ?_ (fun j hj=>?_)⟩
 ·rw[om _ _ _ (by omega),m1];omega
 rw[om _ _ _ (by omega)] at hj;rw[kD _ _ _ j (by omega) (by omega)];have:=tQ key T tail h.2 i (2+j) hi (by omega);rw[show 26+18*i+j=24+18*i+(2+j) by omega,this,hl,show 2+j=j+1+1 by omega,List.getElem?_cons_succ,List.getElem?_cons_succ];unfold sb;rw[Array.getElem?_toList]
theorem Same.symm {T U:Tb}(h:Same T U):Same U T:=⟨h.1.symm,fun i hi=>⟨(h.2 i hi).1.symm,(h.2 i hi).2.1.symm,(h.2 i hi).2.2.symm⟩⟩
theorem Same.ig {T U:Tb}(h:Same T U){i:Nat}(hi:i<24)(hn:ig T i):ig U i:=by
 obtain⟨a,b,c⟩:=h.2 i hi;exact⟨a▸hn.1,b▸hn.2.1,c▸hn.2.2⟩
theorem Same.fine {T U:Tb}(h:Same T U)(hf:fine T 24):fine U 24:=fun i hi=>by
 obtain⟨a,b,c⟩:=h.2 i hi;rcases hf i hi with h1 | ⟨⟨m1,m2,m3,m4,m5⟩,h2⟩
 ·exact Or.inl (h.ig hi h1)
 refine Or.inr ⟨⟨c▸m1,a▸m2,a▸m3,b▸m4,b▸m5⟩,?_⟩;rintro ⟨j,hj,hn,hz,ho⟩;obtain⟨a',b',_⟩:=h.2 j (by omega);exact h2 ⟨j,hj,fun hn'=>hn (h.ig (by omega) hn'),by rw[a',hz,a],by rw[b',ho,b]⟩
theorem Same.rt {T U:Tb}(h:Same T U)(hr:Rt T):Rt U:=⟨⟨h.1▸hr.1.1,h.1▸hr.1.2⟩,h.fine hr.2⟩
theorem Same.text {T U:Tb}(h:Same T U)(key:ByteArray):text key T=text key U:=by
 have hc:∀i,i<24→cellL T i=cellL U i:=fun i hi=>by
  obtain⟨a,b,c⟩:=h.2 i hi;unfold cellL;by_cases hn:Tw.ig T i
  ·rw[if_pos hn,if_pos (h.ig hi hn)]
  rw[if_neg hn,if_neg (fun hn'=>hn (h.symm.ig hi hn')),a,b,c]
 have hb:body T=body U:=by
  unfold body eu nR hd;rw[h.1,show (List.range 24).flatMap (cellL T)=(List.range 24).flatMap (cellL U) from by
   rw[List.flatMap_def,List.flatMap_def,List.map_congr_left (fun i hi=>hc i (List.mem_range.1 hi))]]
 unfold Tw.text;rw[hb]
end Tw
end
section
namespace Tw
open Go.RowKit
theorem fq (n lo hi:Int)(w:World):Calls Tryz.prog 110 #[.int .i64 n,.int .i64 lo,.int .i64 hi] w fun e w'=>e=.returned (.bool (decide (lo≤n)&&decide (n≤hi)))∧w'=w:=by
 by_cases h:lo≤n
 ·go_enter Tryz.func110,Tryz.ntmps110
  go_wp2_with fail
  go_ret;exact⟨by simp[h],rfl⟩
 go_enter Tryz.func110,Tryz.ntmps110
 go_wp2_with fail
 go_ret;exact⟨by simp[h];intro h2;omega,rfl⟩
theorem info3:∃i,Tryz.prog.info? 3=some i:=by
 cases h:Tryz.prog.info? 3 with
 | none=>exact absurd h (by
   have:(Tryz.prog.info? 3).isSome=true:=by kernel_rfl
   intro e;rw[e] at this;cases this)
 | some i=>exact⟨i,rfl⟩
theorem cells3:Tryz.prog.cellsOf 3=1:=by kernel_rfl
theorem pairTy:PT Tryz.prog 259:=⟨Tryz.underlying3,Tryz.underlying259,info3,fun w=>Tryz.isAgg3 w,fun w=>Tryz.sizeOf3 w,cells3⟩
theorem Dn (w:World)(r:Nat)(L:List (Int × Int))(c:Nat)(z o:Int)(hb:w.heap[r]?=some (.map (vC L 0).toArray c)) :
  (Instr.lookup 258 (.map (some r)) (.agg #[.int .i64 z,.int .i64 o]) false).run Tryz.prog w=.ok (.bool (decide ((z,o) ∈ L))) w:=by
 exact NB pairTy Tryz.underlying258 (fun w=>Tryz.zeroValue4 w) w r L c (z,o) hb
theorem Dp (w:World)(r:Nat)(L:List (Int × Int))(z o:Int)(hb:w.heap[r]?=some (.map (vC L 0).toArray L.length))(h:(z,o) ∉ L) :
  (Instr.mapUpdate 258 (.map (some r)) (.agg #[.int .i64 z,.int .i64 o]) (.bool true)).run Tryz.prog w=.ok () { w with heap:=w.heap.setIfInBounds r (.map (vC (L++[(z,o)]) 0).toArray (L++[(z,o)]).length) }:=by
 exact NC pairTy Tryz.underlying258 w r L (z,o) hb h
theorem BC {a w:World}(h:Since a w){r:Nat}(hr:a.heap.size≤r)(o:Obj):Since a { w with heap:=w.heap.setIfInBounds r o }:=
 Below.trans (show Below a.heap.size a w from h) ⟨rfl,rfl,rfl,by simp,fun k hk=>by
  show (w.heap.setIfInBounds r o)[k]?=_
  rw[Array.getElem?_setIfInBounds_ne (by omega)]⟩
theorem NS (w:World)(r:Nat)(o:Obj):Fr r none w { w with heap:=w.heap.setIfInBounds r o }:=
 ⟨rfl,rfl,rfl,by simp,fun k _ hb _=>by
  show (w.heap.setIfInBounds r o)[k]?=_
  rw[Array.getElem?_setIfInBounds_ne (fun h=>hb h.symm)]⟩
theorem xe {a b:World}(h:Since a b){r:Nat}{o:Obj}(hb:a.heap[r]?=some o):b.heap[r]?=some o:=by
 rw[h.block r (Array.getElem?_eq_some_iff.1 hb).1];exact hb
theorem kE (T:Tb)(w:World):Calls Tryz.prog 123 #[aY T] w fun e w'=>e=.returned (.bool (uG T))∧Since w w':=by
 have hmm:=@run_makeMap Tryz.prog;have hC:=dP T w;have hS:Since w (w.alloc (.cells (ak 73 (ae T)).toArray 72)):=(Since.refl w).alloc _;have hR:=fJ (hC.since ((Since.refl _).alloc (.map #[] 0)));unfold aY;generalize (ak 73 (ae T)).toArray=cs0 at *;have HS:Hid (Since w ((w.alloc (.cells cs0 72)).alloc (.map #[] 0))):=hS.alloc _;have HC:Hid (aA ((w.alloc (.cells cs0 72)).alloc (.map #[] 0)) w.heap.size 73 (ae T)):=hC.since ((Since.refl _).alloc _);have HM:Hid (((w.alloc (.cells cs0 72)).alloc (.map #[] 0)).heap[w.heap.size+1]?=some (.map (vC (qd T 0) 0).toArray (qd T 0).length)):=by
  have:=(MapKept.heap_alloc (w.alloc (.cells cs0 72)) (.map #[] 0)).1;rw[World.size_alloc] at this;exact this
 clear hS hC;have hL:(ak 72 (aU T)).length=72:=ax _ _;have NL:Hid (∀(k:Nat) (hk:k<24) (w:World),(Instr.index 70 (.agg (ak 72 (aU T)).toArray) (.int .i64 (k:Int))).run Tryz.prog w=.ok (.agg #[.int .i64 (T.az k),.int .i64 (T.off k),.string (T.tag k)]) w):=fun k hk w=>gX T k hk w
 generalize hcs:ak 72 (aU T)=cs at *;clear hcs;go_enter Tryz.func123,Tryz.ntmps123
 go_wp2_with (refine wpList_load_mid (by rfl) 70 _ (by rfl) w.heap.size 1 (by rfl) _ _ hR Tryz.underlying70 (by rfl) (by rw[hL];kernel_rfl) ?_)
 clear hR hL hmm;generalize (w.alloc (.cells cs0 72)).alloc (.map #[] 0)=w0 at *;go_loopw [10] (fun i wr=>∃k:Nat,k≤24∧i=.int .i64 k∧fine T k∧wr.heap[w.heap.size+1]?=some (.map (vC (qd T k) 0).toArray (qd T k).length)∧aA wr w.heap.size 73 (ae T)∧Since w wr) (fun i _=>24-(intOf i).toNat)
 case atStart=>exact⟨0,by omega,rfl,zC T,HM.o,HC.o,HS.o⟩
 obtain⟨k,hk,rfl,hf,hm,hc,hs⟩:=hrel;have HF:Hid (fine T k):=hf;have Cq:Hid (wr.heap[w.heap.size+1]?=some (.map (vC (qd T k) 0).toArray (qd T k).length)):=hm;have zn:Hid (aA wr w.heap.size 73 (ae T)):=hc;have ed:Hid (Since w wr):=hs;clear hf hm hs hc;by_cases hlt:k<24
 ·have hlt2:(k:Int)<24:=by omega
  have hix:=NL.o k hlt;by_cases hn:ig T k
  ·have HN:Hid (ig T k):=hn;obtain⟨z0,o0,t0⟩:=hn;rw[z0,o0,t0] at hix;clear z0 o0 t0;go_wp2_with fail
   go_roundw
   case rel=>exact⟨k+1,by omega,by go_num,CF HF.o HN.o,by rw[VU HN.o];exact xe ((Since.refl _).alloc _) Cq.o,zn.o.since ((Since.refl _).alloc _),ed.o.alloc _⟩
   case measure=>simp[intOf];omega
  have HN:Hid (¬ig T k):=hn;by_cases te:T.tag k=⟨#[]⟩
  ·have hm:¬may T k:=fun h=>by have:=h.1;rw[te] at this;exact absurd this (by decide)
   have HB:Hid (uG T=false):=gF (fun h=>kw HN.o (Or.inl hm) hlt h.2);rw[te] at hix;clear hm;by_cases z0:T.az k=0
   ·have o0:¬T.off k=0:=fun h=>hn ⟨z0,h,te⟩
    rw[z0] at hix;clear te hn z0;generalize T.off k=o at *;go_wp2_with fail
    go_ret;exact⟨by rw[HB.o];rfl,(ed.o.alloc _).alloc _⟩
   clear te hn;generalize T.off k=o at *;generalize T.az k=z at *;go_wp2_with fail
   go_ret;exact⟨by rw[HB.o];rfl,(ed.o.alloc _).alloc _⟩
  have ht1:¬(T.tag k).toList=[]:=by
   rw[ByteArray.toList_eq];exact fun e=>te (ByteArray.ext (Array.toList_inj.1 e))
  clear hn te;by_cases h16:(T.tag k).size=16
  ·have a6M:((T.tag k).size:Int)=16:=by omega
   by_cases hz:0≤T.az k∧T.az k≤7
   ·have hzb:(decide (0≤T.az k)&&decide (T.az k≤7))=true:=by simp;exact hz
    by_cases ho:0≤T.off k∧T.off k≤15
    ·have hob:(decide (0≤T.off k)&&decide (T.off k≤15))=true:=by simp;exact ho
     have HM:Hid (may T k):=⟨h16,hz.1,by omega,ho.1,by omega⟩
     have Wm:Hid ((T.az k,T.off k) ∈ qd T k↔hit T k (T.az k) (T.off k)):=VT T k _ _;have HPS:Hid (qd T (k+1)=qd T k++[(T.az k,T.off k)]):=VV HN.o;have HW:Hid (((wr.alloc (.cells #[.int .i64 (T.az k),.int .i64 (T.off k),.string (T.tag k)] 69)).alloc (.cells #[.int .i64 (T.az k),.int .i64 (T.off k)] 259)).heap[w.heap.size+1]?=some (.map (vC (qd T k) 0).toArray (qd T k).length)):=xe (((Since.refl _).alloc _).alloc _) Cq.o;have hlk:=Dn _ (w.heap.size+1) (qd T k) _ (T.az k) (T.off k) HW.o;have Wn:Hid (Since wr ((wr.alloc (.cells #[.int .i64 (T.az k),.int .i64 (T.off k),.string (T.tag k)] 69)).alloc (.cells #[.int .i64 (T.az k),.int .i64 (T.off k)] 259))):=((Since.refl _).alloc _).alloc _;by_cases hh:hit T k (T.az k) (T.off k)
     ·have HB:Hid (uG T=false):=gF (fun h=>kw HN.o (Or.inr hh) hlt h.2);rw[decide_eq_true (Wm.o.2 hh)] at hlk;clear h16 hz ho hh HM Wm HPS;generalize T.off k=o at *;generalize T.az k=z at *;generalize T.tag k=t at *;go_wp2_with fail
      refine(fq _ _ _ _).mono ?_;rintro e w1 ⟨rfl,hw1⟩;subst hw1;rw[hzb];go_wp2_with fail
      refine(fq _ _ _ _).mono ?_;rintro e w2 ⟨rfl,hw2⟩;subst hw2;rw[hob];go_wp2_with fail
      go_ret;exact⟨by rw[HB.o];rfl,ed.o.trans Wn.o⟩
     have ZB:(T.az k,T.off k) ∉ qd T k:=fun h=>hh (Wm.o.1 h)
     rw[decide_eq_false ZB] at hlk;have hup:=Dp _ (w.heap.size+1) (qd T k) (T.az k) (T.off k) HW.o ZB;rw[←HPS.o] at hup;have HF6:Hid (fine T (k+1)):=CG HF.o HM.o hh;have Cr:=(MapKept.heap_set (o':=.map (vC (qd T (k+1)) 0).toArray (qd T (k+1)).length) HW.o).1;have hsw:=BC (ed.o.trans Wn.o) (r:=w.heap.size+1) (by omega) (.map (vC (qd T (k+1)) 0).toArray (qd T (k+1)).length);have hcw:=(zn.o.since Wn.o).fr (NS _ (w.heap.size+1) (.map (vC (qd T (k+1)) 0).toArray (qd T (k+1)).length)) (by omega) (by simp)
     generalize hW6:({ (wr.alloc (.cells #[.int .i64 (T.az k),.int .i64 (T.off k),.string (T.tag k)] 69)).alloc (.cells #[.int .i64 (T.az k),.int .i64 (T.off k)] 259) with heap:=((wr.alloc (.cells #[.int .i64 (T.az k),.int .i64 (T.off k),.string (T.tag k)] 69)).alloc (.cells #[.int .i64 (T.az k),.int .i64 (T.off k)] 259)).heap.setIfInBounds (w.heap.size+1) (.map (vC (qd T (k+1)) 0).toArray (qd T (k+1)).length) }:World)=w6 at *;have HMM:Hid (w6.heap[w.heap.size+1]?=some (.map (vC (qd T (k+1)) 0).toArray (qd T (k+1)).length)):=by rw[←hW6];exact Cr
     have iL:Hid (Since w w6):=hsw;have Hd:Hid (aA w6 w.heap.size 73 (ae T)):=hcw;clear Cr hsw hcw hW6 h16 hz ho hh HM Wm HPS ZB HF;generalize T.off k=o at *;generalize T.az k=z at *;generalize T.tag k=t at *;go_wp2_with fail
     refine(fq _ _ _ _).mono ?_;rintro e w1 ⟨rfl,hw1⟩;subst hw1;rw[hzb];go_wp2_with fail
     refine(fq _ _ _ _).mono ?_;rintro e w2 ⟨rfl,hw2⟩;subst hw2;rw[hob];go_wp2_with fail
     go_roundw
     case rel=>exact⟨k+1,by omega,by go_num,HF6.o,HMM.o,Hd.o,iL.o⟩
     case measure=>simp[intOf];omega
    have hob:(decide (0≤T.off k)&&decide (T.off k≤15))=false:=by
     rw[Bool.and_eq_false_iff];by_cases h3:0≤T.off k
     ·right;simp;omega
     left;simp;omega
    have HB:Hid (uG T=false):=gF (fun h=>kw HN.o (Or.inl (fun hm=>ho ⟨hm.2.2.2.1,by have:=hm.2.2.2.2;omega⟩)) hlt h.2);clear h16 hz ho;generalize T.off k=o at *;generalize T.az k=z at *;generalize T.tag k=t at *;go_wp2_with fail
    refine(fq _ _ _ _).mono ?_;rintro e w1 ⟨rfl,rfl⟩;rw[hzb];go_wp2_with fail
    refine(fq _ _ _ _).mono ?_;rintro e w2 ⟨rfl,rfl⟩;rw[hob];go_wp2_with fail
    go_ret;exact⟨by rw[HB.o];rfl,(ed.o.alloc _).alloc _⟩
   have hzb:(decide (0≤T.az k)&&decide (T.az k≤7))=false:=by
    rw[Bool.and_eq_false_iff];by_cases h3:0≤T.az k
    ·right;simp;omega
    left;simp;omega
   have HB:Hid (uG T=false):=gF (fun h=>kw HN.o (Or.inl (fun hm=>hz ⟨hm.2.1,by have:=hm.2.2.1;omega⟩)) hlt h.2);clear h16 hz;generalize T.off k=o at *;generalize T.az k=z at *;generalize T.tag k=t at *;go_wp2_with fail
   refine(fq _ _ _ _).mono ?_;rintro e w1 ⟨rfl,rfl⟩;rw[hzb];go_wp2_with fail
   go_ret;exact⟨by rw[HB.o];rfl,(ed.o.alloc _).alloc _⟩
  have a6M:¬((T.tag k).size:Int)=16:=by omega
  have HB:Hid (uG T=false):=gF (fun h=>kw HN.o (Or.inl (fun hm=>h16 hm.1)) hlt h.2);clear h16;generalize T.off k=o at *;generalize T.az k=z at *;generalize T.tag k=t at *;go_wp2_with fail
  go_ret;exact⟨by rw[HB.o];rfl,(ed.o.alloc _).alloc _⟩
 have hke:k=24:=by omega
 subst hke;have q0:=zn.o.cell 0 (by omega);rw[show ae T 0=.int .i64 T.count from rfl] at q0;go_wp2_with fail
 refine(fq _ _ _ _).mono ?_;rintro e w1 ⟨rfl,rfl⟩;have HB:Hid (uG T=(decide (1≤T.count)&&decide (T.count≤1099511627776))):=by
  show uG T=_
  by_cases h:1≤T.count∧T.count≤1099511627776
  ·rw[rE ⟨h,HF.o⟩,decide_eq_true h.1,decide_eq_true h.2];rfl
  rw[gF (fun hr=>h hr.1)];by_cases h1:1≤T.count
  ·rw[decide_eq_false (fun h2=>h ⟨h1,h2⟩),Bool.and_false]
  rw[decide_eq_false h1,Bool.false_and]
 generalize (decide (1≤T.count)&&decide (T.count≤1099511627776))=x at *;clear q0;go_wp2_with fail
 go_ret;exact⟨by rw[HB.o];rfl,ed.o⟩
end Tw
end
end Go.Proofs.YtlgbfkcpdelcbaaGreatDoor
