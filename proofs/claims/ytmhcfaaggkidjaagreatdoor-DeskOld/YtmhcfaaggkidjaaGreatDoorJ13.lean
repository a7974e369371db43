import Derived.Test.YtmhcfaaggkidjaaGreatDoorJ05
import Derived.Test.YtmhcfaaggkidjaaGreatDoorJ08
import Derived.Test.YtmhcfaaggkidjaaGreatDoorJ09
import Derived.Test.YtmhcfaaggkidjaaGreatDoorJ11
import Derived.Test.YtmhcfaaggkidjaaGreatDoorJ12
set_option linter.unusedSimpArgs false
set_option linter.unusedVariables false
section
namespace Go.Proofs.YtmhcfaaggkidjaaGreatDoor
set_option maxRecDepth 100000
namespace Sm
open Go.RowKit
attribute [local go_sem] jr fO jw jy pK jA jB jC fP fQ dU fo bI fe dE
def H0:St:=⟨1779033703,3144134277,1013904242,2773480762,1359893119,2600822924,528734635,1541459225⟩
def wL (s:ByteArray):ByteArray:=s.extract 0 (s.size-s.size % 64)
def FX (s:ByteArray):ByteArray:=s.extract (s.size-s.size % 64) s.size++strOfNums (pad s.size)
def Jo (s:ByteArray):St:=jI H0 (wL s) ((wL s).size / 64)
def gZ (s:ByteArray):St:=jI (Jo s) (FX s) ((FX s).size / 64)
structure wM (w:World) (b:Nat) (t:St):Prop where
 arr:bA w b 0 8 t.fn
 c0:w.cell? ⟨b,0,none⟩=some (U t.a)
 c1:w.cell? ⟨b,1,none⟩=some (U t.b)
 c2:w.cell? ⟨b,2,none⟩=some (U t.c)
 c3:w.cell? ⟨b,3,none⟩=some (U t.d)
 c4:w.cell? ⟨b,4,none⟩=some (U t.e)
 c5:w.cell? ⟨b,5,none⟩=some (U t.f)
 c6:w.cell? ⟨b,6,none⟩=some (U t.g)
 c7:w.cell? ⟨b,7,none⟩=some (U t.h)
 f0:w.frozen? ⟨b,0,none⟩=false
 f1:w.frozen? ⟨b,1,none⟩=false
 f2:w.frozen? ⟨b,2,none⟩=false
 f3:w.frozen? ⟨b,3,none⟩=false
 f4:w.frozen? ⟨b,4,none⟩=false
 f5:w.frozen? ⟨b,5,none⟩=false
 f6:w.frozen? ⟨b,6,none⟩=false
 f7:w.frozen? ⟨b,7,none⟩=false
theorem wM.of {w:World} {b:Nat} {t:St} (h:bA w b 0 8 t.fn):wM w b t:=
 ⟨h,h.cell 0 (by omega),h.cell 1 (by omega),h.cell 2 (by omega),h.cell 3 (by omega),h.cell 4 (by omega),h.cell 5 (by omega),h.cell 6 (by omega),h.cell 7 (by omega),
  h.frozen 0 (by omega),h.frozen 1 (by omega),h.frozen 2 (by omega),h.frozen 3 (by omega),h.frozen 4 (by omega),h.frozen 5 (by omega),h.frozen 6 (by omega),h.frozen 7 (by omega)⟩
theorem wM.since {w w':World} {b:Nat} {t:St} (h:wM w b t) (hs:Since w w'):wM w' b t:=.of (h.arr.since hs)
set_option maxHeartbeats 2000000 in
set_option maxRecDepth 100000 in
theorem oh (s:ByteArray) (w:World) (hs:s.size≤100000) (hT:jW w) :
  Calls Tryz.prog 95 #[.string s] w fun e w'=>e=.returned (.string (strOfNums (gZ s).bytes))∧Since w w':=by
 go_enter Tryz.func95,Tryz.ntmps95
 go_wp2_with fail
 have hA:wM (w.alloc (.cells #[.int .u32 1779033703,.int .u32 3144134277,.int .u32 1013904242,.int .u32 2773480762,.int .u32 1359893119,.int .u32 2600822924,.int .u32 528734635,.int .u32 1541459225] 199)) w.heap.size H0:=.of (bA.new w 8 H0.fn _ _ (by rfl) _ rfl);have hS:Since w (w.alloc (.cells #[.int .u32 1779033703,.int .u32 3144134277,.int .u32 1013904242,.int .u32 2773480762,.int .u32 1359893119,.int .u32 2600822924,.int .u32 528734635,.int .u32 1541459225] 199)):=(Since.refl w).alloc _;generalize w.alloc _=w1 at hA hS ⊢;have hT1:=hT.since hS;obtain⟨Kz,c0,c1,c2,c3,c4,c5,c6,c7,_,_,_,_,_,_,_,_⟩:=hA;obtain⟨W,hW⟩:∃W:Nat,(s.size:Int)-s.size % 64=W:=⟨s.size-s.size % 64,by omega⟩
 have W1:(0:Int)≤W:=by omega
 have W2:(W:Int)≤s.size:=by omega
 have W3:W≤s.size:=by omega
 have VX:W=s.size-s.size % 64:=by omega
 rw[hW];have HW:Hid (W=s.size-s.size % 64):=VX;clear hW VX;have hh:s.extract 0 W=wL s:=by unfold wL;rw[←HW.out]
 have Hh:Hid (s.extract 0 W=wL s):=hh;have hsz:(s.extract 0 W).size≤1000000:=by simp[ByteArray.size_extract];omega
 clear hh;go_region_with (first | (go_at_call 148;refine(wE H0 (s.extract 0 W) _ hsz ?_).mono ?_;(exact hT1.since (Since.refl _).drew);rintro e w' ⟨rfl,hS'⟩;generalize hm:jI _ _ _=q;have Hm:Hid (jI H0 (s.extract 0 W) ((s.extract 0 W).size / 64)=q):=hm;clear hm;simp only[St.val];obtain⟨VY,d0,d1,d2,d3,d4,d5,d6,d7,_,_,_,_,_,_,_,_⟩:=(wM.of Kz).since ((Since.refl _).drew.trans hS')))
 all_goals
  generalize hw3:World.setCell _ _ _=w3;have hA3:wM w3 w.heap.size q:=.of (by rw[←hw3];exact VY.FI q);have fu:Since w w3:=by rw[←hw3];exact(hS.trans ((Since.refl _).drew.trans hS')).FI (by omega) q
  have hT3:=hT.since fu;clear hw3 d0 d1 d2 d3 d4 d5 d6 d7 c0 c1 c2 c3 c4 c5 c6 c7 hT1 hS Kz VY hS';obtain⟨Kz,c0,c1,c2,c3,c4,c5,c6,c7,_,_,_,_,_,_,_,_⟩:=hA3
 have Zm:s.size-W+(strOfNums (pad s.size)).size≤9223372036854775807:=by rw[strOfNums_size,wF];omega
 have hsz2:(s.extract W s.size++strOfNums (pad s.size)).size≤1000000:=by
  rw[ByteArray.size_append,strOfNums_size,wF];simp[ByteArray.size_extract];omega
 go_wp2_with fail
 go_region_with (first | (go_at_call 149;refine(FJ s.size _ (by omega)).mono ?_;rintro e w4 ⟨rfl,h4⟩;obtain⟨VZ,e0,e1,e2,e3,e4,e5,e6,e7,_,_,_,_,_,_,_,_⟩:=(wM.of Kz).since ((Since.refl _).drew.trans h4)) | (go_at_call 148;refine(wE q (s.extract W s.size++strOfNums (pad s.size)) _ hsz2 ?_).mono ?_;(exact hT3.since ((Since.refl _).drew.trans h4));rintro e w5 ⟨rfl,h5⟩;generalize hm2:jI _ _ _=q2;have Hm2:Hid (jI q (s.extract W s.size++strOfNums (pad s.size)) ((s.extract W s.size++strOfNums (pad s.size)).size / 64)=q2):=hm2;clear hm2;simp only[St.val];obtain⟨Wh,d0,d1,d2,d3,d4,d5,d6,d7,_,_,_,_,_,_,_,_⟩:=(wM.of VZ).since h5))
 all_goals
  generalize hw3:World.setCell _ _ _=w6;have hA6:wM w6 w.heap.size q2:=.of (by rw[←hw3];exact Wh.FI q2);have Tj:Since w w6:=by rw[←hw3];exact((fu.trans ((Since.refl _).drew.trans h4)).trans h5).FI (by omega) q2
  clear hw3 d0 d1 d2 d3 d4 d5 d6 d7 c0 c1 c2 c3 c4 c5 c6 c7 hT3 Kz VZ Wh;obtain⟨Kz,c0,c1,c2,c3,c4,c5,c6,c7,_,_,_,_,_,_,_,_⟩:=hA6;go_wp2_with fail
  refine(mU q2 _).mono ?_;rintro e w7 ⟨rfl,h7⟩;go_wp2_with fail
  go_ret;refine⟨?_,Tj.trans h7⟩;have e1:q2=gZ s:=by
   rw[←Hm2.out,←Hm.out,Hh.out];unfold gZ Jo FX;rw[←HW.out]
  rw[e1];rfl
end Sm
end Go.Proofs.YtmhcfaaggkidjaaGreatDoor
end
section
namespace Go.Proofs.YtmhcfaaggkidjaaGreatDoor
set_option maxRecDepth 100000
namespace Sm
open Go.RowKit
theorem df {w:World} {k:Nat} {o:Obj} (h:w.heap[k]?=some o):k<w.heap.size:=by
 rcases Nat.lt_or_ge k w.heap.size with h1 | h1
 ·exact h1
 rw[Array.getElem?_eq_none h1] at h;cases h
theorem dX {B b:Nat} {p:Value} {bs:List Value} {w w':World} (h:Lib.BuilderAtF 40 5 B b p bs w) (hs:Since w w'):Lib.BuilderAtF 40 5 B b p bs w':=by
 obtain⟨h1,v,hb,hown,hne⟩:=h;refine⟨h1,v,by rw[Below.block hs b (df hb)];exact hb,?_,hne⟩;obtain⟨o1,o2⟩:=hown;refine⟨o1,?_⟩;rcases o2 with o2 | ⟨g,cap,cur,o2⟩
 ·exact Or.inl o2
 obtain⟨fz,hv,hg,hh,r⟩:=o2;exact Or.inr ⟨g,cap,cur,fz,hv,hg,by rw[Below.block hs g (df hh)];exact hh,r⟩
theorem bD {B b:Nat} {bs:List Value} {w w':World} (h:Lib.IsBuilderF 40 5 B b bs w) (hs:Since w w'):Lib.IsBuilderF 40 5 B b bs w':=by
 rcases h with h | h
 ·exact Or.inl (dX h hs)
 exact Or.inr (dX h hs)
def bP (kd:UInt8) (ps:Nat→ByteArray):Nat→List UInt8
 | 0=>[kd]
 | n+1=>bP kd ps n++(strOfNums (uB (ps n).size)).data.toList++(ps n).data.toList
theorem Jp (kd:UInt8) (ps:Nat→ByteArray) (m:Nat) (hp:∀j,j<m→(ps j).size≤900):∀n,n≤m→(bP kd ps n).length≤1+908*n:=by
 intro n;induction n with
 | zero=>intro _;simp[bP]
 | succ n ih=>
  intro hn;have h1:=ih (by omega);have h2:=hp n (by omega);have h3:(ps n).data.size≤900:=h2;simp[bP,strOfNums_data,uB];omega
def cB (s:ByteArray):ByteArray:=(strOfNums (gZ s).bytes).extract 0 16
set_option maxHeartbeats 1000000 in
theorem kS (kd:UInt8) (pb po m cap:Nat) (ps:Nat→ByteArray) (w:World) (hm:m≤10) (hp:∀j,j<m→(ps j).size≤900) (hT:jW w)
  (hc:∀j,j<m→w.cell? ⟨pb,po+j,none⟩=some (.string (ps j))) :
  Calls Tryz.prog 90 #[.int .u8 kd.toNat,.slice (some ⟨pb,po,none⟩) m cap] w fun e w'=>e=.returned (.string (cB ⟨(bP kd ps m).toArray⟩))∧Since w w':=by
 have h0:Lib.IsBuilderF 40 5 w.heap.size w.heap.size [] (w.alloc (.cells #[.pointer none,.slice none 0 0] 40)):=Lib.IsBuilderF.of (Lib.fresh_isBuilder 40 5 w);have b0:Since w (w.alloc (.cells #[.pointer none,.slice none 0 0] 40)):=(Since.refl w).alloc _;go_enter Tryz.func90,Tryz.ntmps90
 go_wp2_with fail
 refine(oZ w.heap.size w.heap.size [] kd.toNat _ h0 (by decide) b0.size).mono ?_;rintro e w1 ⟨rfl,h1,b1,_⟩;have s1:Since w w1:=Below.trans b0 b1;clear h0 b0 b1;go_wp2_with fail
 go_loopw [12] (fun i wr=>∃k:Nat,k≤m∧i=.int .i64 k∧Lib.IsBuilderF 40 5 w.heap.size w.heap.size (Lib.byteCells (bP kd ps k)) wr∧Since w wr) (fun i _=>m-(intOf i).toNat)
 case atStart=>exact⟨0,by omega,rfl,Or.inr h1,s1⟩
 obtain⟨k,hk,rfl,hB,hS⟩:=hrel;by_cases hlt:k<m
 ·have hck:wr.cell? ⟨pb,po+k,none⟩=some (.string (ps k)):=by
   have h:=hc k hlt;rw[hS.cell (p:=⟨pb,po+k,none⟩) (World.block_lt_of_cell? w _ h)];exact h
  have hpk:=hp k hlt;have hl:=Jp kd ps m hp k (by omega);go_wp2_with fail
  refine(lG _ _).mono ?_;rintro e w2 ⟨rfl,h2⟩;rw[Int.emod_eq_of_lt (by omega) (by omega)];have hB2:=bD hB h2;have hS2:=hS.trans h2;go_wp2_with fail
  refine(bq w.heap.size w.heap.size _ (strOfNums (uB (ps k).size)) _ hB2 (by rw[Lib.byteCells_length,strOfNums_size];simp[uB];omega) hS2.size).mono ?_;rintro e w3 ⟨rfl,h3,b3,_⟩;have fu:Since w w3:=Below.trans hS2 b3;go_wp2_with fail
  refine(bq w.heap.size w.heap.size _ (ps k) _ (Or.inr h3) (by rw[List.length_append,Lib.strCells_length,Lib.byteCells_length,strOfNums_size];simp[uB];omega) fu.size).mono ?_;rintro e w4 ⟨rfl,h4,b4,_⟩;have jX:Since w w4:=Below.trans fu b4;have hB4:Lib.IsBuilderF 40 5 w.heap.size w.heap.size (Lib.byteCells (bP kd ps (k+1))) w4:=by
   refine Or.inr ?_;rw[Lib.strCells_eq,Lib.strCells_eq] at h4
   simpa [Lib.byteCells,bP] using h4
  clear h3 h4 hB hB2 hl;go_wp2_with fail
  go_roundw
  case rel=>exact⟨k+1,by omega,by go_num,hB4,jX⟩
  case measure=>simp[intOf];omega
 have hkm:k=m:=by omega
 subst hkm;have hl:=Jp kd ps k hp k (Nat.le_refl _);go_wp2_with fail
 refine(jF w.heap.size w.heap.size _ _ hB hS.size).mono ?_;rintro e w2 ⟨rfl,_,b2,_⟩;have hS2:Since w w2:=Below.trans hS b2;clear hB b2;go_wp2_with fail
 refine(oh _ _ (by rw[show (⟨(bP kd ps k).toArray⟩:ByteArray).size=(bP kd ps k).length by simp[ByteArray.size]];omega) (hT.since hS2)).mono ?_;rintro e w3 ⟨rfl,h3⟩;generalize hS:gZ _=q;have HS:Hid (gZ ⟨(bP kd ps k).toArray⟩=q):=hS;clear hS;have hsz:(strOfNums q.bytes).size=32:=by rw[strOfNums_size];rfl
 go_wp2_with fail
 go_ret;exact⟨by unfold cB;rw[HS.out];rfl,hS2.trans h3⟩
end Sm
end Go.Proofs.YtmhcfaaggkidjaaGreatDoor
end
section
namespace Go.Proofs.YtmhcfaaggkidjaaGreatDoor
set_option maxRecDepth 100000
namespace Sl
open Go.RowKit
open Sm (jW kS lG cB bP uB gZ)
def three (a b c:ByteArray):Nat→ByteArray:=fun j=>if j=0 then a else if j=1 then b else c
def FY (n:Int):ByteArray:=strOfNums (uB (n % 18446744073709551616))
theorem KA (n:Int):(FY n).size=8:=by unfold FY;rw[strOfNums_size];rfl
def mk (kd:UInt8) (key:ByteArray) (cell:Int) (t:ByteArray):ByteArray:=cB ⟨(bP kd (three key (FY cell) t) 3).toArray⟩
theorem kg (kd:UInt8) (key:ByteArray) (cell:Int) (t:ByteArray):(mk kd key cell t).size=16:=by
 unfold mk cB;generalize (⟨(bP kd (three key (FY cell) t) 3).toArray⟩:ByteArray)=s;have h:(strOfNums (gZ s).bytes).size=32:=by rw[strOfNums_size];rfl
 simp[ByteArray.size_extract,h]
theorem Db (w:World) (a b c:ByteArray) (t:TypeId) (j:Nat) (hj:j<3):(w.alloc (.cells #[.string a,.string b,.string c] t)).cell? ⟨w.heap.size,0+j,none⟩=some (.string (three a b c j)):=by
 rw[Nat.zero_add,World.cell?_alloc_new]
 match j,hj with
 | 0,_=>rfl
 | 1,_=>rfl
 | 2,_=>rfl
theorem FZ (a b c:ByteArray) (ha:a.size≤900) (hb:b.size≤900) (hc:c.size≤900) (j:Nat):(three a b c j).size≤900:=by
 unfold three;split
 ·assumption
 split<;>assumption
set_option maxHeartbeats 1000000 in
theorem om (kd:UInt8) (key:ByteArray) (cell:Int) (t:ByteArray) (w:World) (hk:key.size≤900) (ht:t.size≤900) (hT:jW w) :
  Calls Tryz.prog 279 #[.int .u8 kd.toNat,.string key,.int .i64 cell,.string t] w fun e w'=>e=.returned (.string (mk kd key cell t))∧Since w w':=by
 go_enter Tryz.func279,Tryz.ntmps279
 go_wp2_with fail
 refine(lG cell _).mono ?_;rintro e w1 ⟨rfl,h1⟩;have hn8:=KA cell;have HN:strOfNums (uB (cell % 18446744073709551616))=FY cell:=rfl;rw[HN];clear HN;have HM:Hid (cB ⟨(bP kd (three key (FY cell) t) 3).toArray⟩=mk kd key cell t):=by
  show cB _=mk kd key cell t
  unfold mk
  rfl
 generalize hN:FY cell=N at *;go_wp2_with fail
 have hm:=kS kd w1.heap.size 0 3 3 (three key N t) (w1.alloc (.cells #[.string key,.string N,.string t] 346)) (by omega) (fun j _=>FZ key N t hk (by omega) ht j) (hT.since (h1.alloc _)) (fun j hj=>Db w1 key N t 346 j hj);refine hm.mono ?_;clear hm;rintro e w2 ⟨rfl,h2⟩;rw[HM.out];generalize hq:mk kd key cell t=q at *;have HQ:Hid (mk kd key cell t=q):=hq;clear hq;go_wp2_with fail
 go_ret;exact⟨by rw[HQ.out];rfl,(h1.alloc _).trans h2⟩
set_option maxHeartbeats 1000000 in
theorem qa (s:ByteArray) (w:World) (hs:s.size≤80) :
  Calls Tryz.prog 281 #[.string s] w fun e w'=>e=.returned (.string (fill s))∧Since w w':=by
 have hz:∀j,j<81→(Tryz.zeroCells347.setIfInBounds 0 (Value.int IntKind.u8 (s.size:Int)))[j]?=some (if j=0 then .int .u8 (s.size:Int) else bv 0):=by
  intro j hj;have hsz:Tryz.zeroCells347.size=81:=by kernel_rfl
  have he:Tryz.zeroCells347=(List.replicate 81 (Value.int .u8 0)).toArray:=by kernel_rfl
  by_cases e:j=0
  ·subst e;rw[if_pos rfl,Array.getElem?_setIfInBounds_self_of_lt (by rw[hsz];omega)]
  rw[if_neg e,Array.getElem?_setIfInBounds_ne (fun h=>e h.symm),he];rw[List.getElem?_toArray,List.getElem?_replicate,if_pos hj];rfl
 have hC:ak (w.alloc (.cells (Tryz.zeroCells347.setIfInBounds 0 (Value.int IntKind.u8 (s.size:Int))) 347)) w.heap.size 81 (fun j=>if j=0 then .int .u8 (s.size:Int) else bv 0):=ak.new w 81 _ _ _ hz _ rfl;have hcp:=fE _ 3 w.heap.size 1 80 80 81 _ s hC (by omega);rw[show min s.size 80=s.size by omega] at hcp;have hC2:=hC.setRow 1 s.size (by omega) (fun i=>bv (sb s i));have hS2:Since w ((w.alloc (.cells (Tryz.zeroCells347.setIfInBounds 0 (Value.int IntKind.u8 (s.size:Int))) 347)).setCells w.heap.size 1 (aa s.size (fun i=>bv (sb s i)))):=((Since.refl w).alloc _).setCells (Nat.le_refl _) _ _;have fT:ak ((w.alloc (.cells (Tryz.zeroCells347.setIfInBounds 0 (Value.int IntKind.u8 (s.size:Int))) 347)).setCells w.heap.size 1 (aa s.size (fun i=>bv (sb s i)))) w.heap.size 81 (fun j=>bv (wz s j)):=by
  refine hC2.congr (fun j hj=>?_);unfold dF wz;by_cases e:j=0
  ·subst e;rw[if_neg (by omega)];dsimp only;rw[if_pos rfl,if_pos rfl];unfold bv;rw[UInt8.toNat_ofNat']
   congr 1
   omega
  rw[if_neg e];by_cases h:j<1+s.size
  ·rw[if_pos ⟨by omega,h⟩]
  rw[if_neg (by omega)];dsimp only;rw[if_neg e,nY s (j-1) (by omega)]
 have jZ:Hid _:=fT;have HS2:Hid _:=hS2;clear hC2 hC hz fT hS2;go_enter Tryz.func281,Tryz.ntmps281
 go_wp2_with fail
 clear hcp;generalize World.setCells _ _ _ _=w2 at *;have hcv:=dH w2 w.heap.size 0 81 81 (wz s) (fun i hi=>by rw[Nat.zero_add];exact jZ.out.cell i hi);have HF:Hid (txt 81 (wz s)=fill s):=show _=_ from rfl
 rw[HF.out] at hcv;generalize hq:fill s=q at *;have HQ:Hid (fill s=q):=hq;clear hq HF;rw[hcv];go_simp
 go_wp2_with fail
 go_ret;exact⟨by rw[HQ.out];rfl,HS2.out⟩
theorem sb0 (s:ByteArray) (h:0<s.size):s[0]=sb s 0:=by
 have hsz:s.data.size=s.size:=rfl;unfold sb;rw[Array.getElem?_eq_getElem (by omega)]
 rfl
set_option maxHeartbeats 1000000 in
theorem Dc (s:ByteArray) (w:World) (hs:s.size=81) :
  Calls Tryz.prog 301 #[.string s] w fun e w'=>e=.returned (.string (s.extract 1 (1+min (sb s 0).toNat 80)))∧w'=w:=by
 have h0:0<s.size:=by omega
 have hI:(s.size:Int)=81:=by omega
 have hb:=sb0 s h0;generalize sb s 0=y at *;have hy:=y.toNat_lt;by_cases h:y.toNat≤80
 ·rw[Nat.min_eq_left h];have hI2:min (y.toNat:Int) 80=y.toNat:=by omega
  go_enter Tryz.func301,Tryz.ntmps301
  go_wp2_with fail
  go_ret;exact⟨rfl,rfl⟩
 rw[Nat.min_eq_right (by omega)];have hI2:min (y.toNat:Int) 80=80:=by omega
 go_enter Tryz.func301,Tryz.ntmps301
 go_wp2_with fail
 go_ret;exact⟨rfl,rfl⟩
end Sl
end Go.Proofs.YtmhcfaaggkidjaaGreatDoor
end
section
namespace Go.Proofs.YtmhcfaaggkidjaaGreatDoor
set_option maxRecDepth 100000
namespace Sl
open Go.RowKit
open Sm (jW)
open Sm.Sr (AZ dO)
def gM (key:ByteArray) (cell:Int) (t:ByteArray):ByteArray:=(mk 110 key cell t).extract 0 12
def mW (key:ByteArray) (cell:Int) (t:ByteArray):ByteArray:=strOfNums (dO key (gM key cell t) (fill t))
def eT (key:ByteArray) (cell:Int) (t:ByteArray):ByteArray:=gM key cell t++mW key cell t
def aS (key:ByteArray) (cell:Int) (t:ByteArray):ByteArray:=mk 103 key cell (eT key cell t)++eT key cell t
theorem lI (key:ByteArray) (cell:Int) (t:ByteArray):(gM key cell t).size=12:=by
 unfold gM;rw[ByteArray.size_extract,kg]
 rfl
theorem kT (key ai s:ByteArray):(strOfNums (dO key ai s)).size=s.size:=by
 rw[strOfNums_size];simp[dO]
theorem kU (key:ByteArray) (cell:Int) (t:ByteArray):(mW key cell t).size=81:=by
 unfold mW;rw[kT,sU]
theorem zK (key:ByteArray) (cell:Int) (t:ByteArray):(eT key cell t).size=93:=by
 unfold eT;rw[ByteArray.size_append,lI,kU]
theorem gD (key:ByteArray) (cell:Int) (t:ByteArray):(aS key cell t).size=109:=by
 unfold aS;rw[ByteArray.size_append,kg,zK]
theorem Xb (key:ByteArray) (cell:Int) (t:ByteArray) (w:World) (h:key.size=32) (h0:0≤cell) (h1:cell<24) (ht:80<t.size) :
  Calls Tryz.prog 229 #[.string key,.int .i64 cell,.string t] w fun e w'=>e=.returned (.tuple #[.string ⟨#[]⟩,.iface 32 (.int .i64 4)])∧w'=w:=by
 have e1:(key.size:Int)=32:=by omega
 have e2:¬cell<0:=by omega
 have e3:¬24≤cell:=by omega
 have e4:(80:Int)<t.size:=by omega
 go_enter Tryz.func229,Tryz.ntmps229
 go_wp2_with fail
 go_ret2;exact⟨rfl,rfl⟩
set_option maxHeartbeats 1000000 in
theorem Tk (key:ByteArray) (cell:Int) (t:ByteArray) (w:World) (h:key.size=32) (h0:0≤cell) (h1:cell<24) (ht:t.size≤80) (hT:jW w) :
  Calls Tryz.prog 229 #[.string key,.int .i64 cell,.string t] w fun e w'=>e=.returned (.tuple #[.string (aS key cell t),.nilIface])∧Since w w':=by
 have e1:(key.size:Int)=32:=by omega
 have e2:¬cell<0:=by omega
 have e3:¬24≤cell:=by omega
 have e4:¬(80:Int)<t.size:=by omega
 go_enter Tryz.func229,Tryz.ntmps229
 go_wp2_with fail
 have hm:=om 110 key cell t w (by omega) (by omega) hT;rw[show ((110:UInt8).toNat:Int)=110 from rfl] at hm;refine hm.mono ?_;clear hm;rintro e w1 ⟨rfl,h1⟩;have m1:=kg 110 key cell t;have HN:Hid ((mk 110 key cell t).extract 0 12=gM key cell t):=show _=gM key cell t from rfl
 have n1:=lI key cell t;generalize hmk:mk 110 key cell t=M at *;clear hmk;go_wp2_with fail
 rw[HN.out];generalize hn:gM key cell t=nn at *;have Oo:Hid (gM key cell t=nn):=hn;clear hn HN;refine(qa t _ ht).mono ?_;rintro e w2 ⟨rfl,h2⟩;have f1:=sU t;generalize hf:fill t=F at *;have HF:Hid (fill t=F):=hf;clear hf;go_wp2_with fail
 refine(AZ key nn F _ h n1 (by omega)).mono ?_;rintro e w3 ⟨rfl,h3⟩;have x1:(strOfNums (dO key nn F)).size=81:=by rw[kT,f1]
 generalize hB:strOfNums (dO key nn F)=B at *;have HB:Hid (strOfNums (dO key nn F)=B):=hB;clear hB;go_wp2_with fail
 have iw:Hid (Since w w3):=h1.trans (h2.trans h3);clear h1 h2 h3;have r1:(nn++B).size=93:=by rw[ByteArray.size_append];omega
 generalize hR:nn++B=R at *;have HR:Hid (nn++B=R):=hR;clear hR;have hm:=om 103 key cell R w3 (by omega) (by omega) (hT.since iw.out);rw[show ((103:UInt8).toNat:Int)=103 from rfl] at hm;refine hm.mono ?_;clear hm;rintro e w4 ⟨rfl,h4⟩;have m2:=kg 103 key cell R;generalize YM:mk 103 key cell R=T at *;have HT2:Hid (mk 103 key cell R=T):=YM;clear YM;go_wp2_with fail
 go_ret2;refine⟨?_,iw.out.trans h4⟩;unfold aS eT mW;rw[Oo.out,HF.out,HB.out,HR.out,HT2.out]
 rfl
theorem iP {a b:ByteArray} (h:¬a=b):(a.toList==b.toList)=false:=by
 rw[ByteArray.toList_eq,ByteArray.toList_eq];rw[beq_eq_false_iff_ne];exact fun e=>h (ByteArray.ext (Array.toList_inj.1 e))
def mX (key:ByteArray) (cell:Int) (s:ByteArray):ByteArray:=mk 103 key cell (s.extract 16 109)
def KC (b:ByteArray):ByteArray:=b.extract 1 (1+min (sb b 0).toNat 80)
def textOf (key s:ByteArray):ByteArray:=KC (strOfNums (dO key (s.extract 16 28) (s.extract 28 109)))
theorem Xc (key:ByteArray) (cell:Int) (s:ByteArray) (w:World) (h:key.size=32) (hs:s.size<109) :
  Calls Tryz.prog 278 #[.string key,.int .i64 cell,.string s] w fun e w'=>e=.returned (.tuple #[.string ⟨#[]⟩,.string ⟨#[]⟩,.iface 32 (.int .i64 15)])∧w'=w:=by
 have e1:(key.size:Int)=32:=by omega
 have e2:(s.size:Int)<109:=by omega
 go_enter Tryz.func278,Tryz.ntmps278
 go_wp2_with fail
 go_ret3;exact⟨rfl,rfl⟩
set_option maxHeartbeats 1000000 in
theorem Oq (key:ByteArray) (cell:Int) (s:ByteArray) (w:World) (h:key.size=32) (hs:109≤s.size) (hz:s.size≤900) (hb:s.extract 0 16≠mX key cell s) (hT:jW w) :
  Calls Tryz.prog 278 #[.string key,.int .i64 cell,.string s] w fun e w'=>e=.returned (.tuple #[.string ⟨#[]⟩,.string ⟨#[]⟩,.iface 32 (.int .i64 15)])∧Since w w':=by
 have e1:(key.size:Int)=32:=by omega
 have e2:¬(s.size:Int)<109:=by omega
 have e3:(109:Int)≤s.size:=by omega
 have e4:(16:Int)≤s.size:=by omega
 have z1:(s.extract 16 109).size=93:=by rw[ByteArray.size_extract];omega
 have HB:Hid (s.extract 0 16≠mX key cell s):=hb;clear hb;go_enter Tryz.func278,Tryz.ntmps278
 go_wp2_with fail
 have hm:=om 103 key cell (s.extract 16 109) w (by omega) (by omega) hT;rw[show ((103:UInt8).toNat:Int)=103 from rfl] at hm;refine hm.mono ?_;clear hm;rintro e w1 ⟨rfl,h1⟩;have hb2:¬s.extract 0 16=mk 103 key cell (s.extract 16 109):=HB.out;have hb3:=iP hb2;clear hb2;generalize mk 103 key cell (s.extract 16 109)=T at *;go_wp2_with fail
 go_ret3;exact⟨rfl,h1⟩
set_option maxHeartbeats 1000000 in
theorem Jq (key:ByteArray) (cell:Int) (s:ByteArray) (w:World) (h:key.size=32) (hs:109≤s.size) (hz:s.size≤900) (hb:s.extract 0 16=mX key cell s) (hT:jW w) :
  Calls Tryz.prog 278 #[.string key,.int .i64 cell,.string s] w fun e w'=>e=.returned (.tuple #[.string (s.extract 0 16),.string (textOf key s),.nilIface])∧Since w w':=by
 have e1:(key.size:Int)=32:=by omega
 have e2:¬(s.size:Int)<109:=by omega
 have e3:(109:Int)≤s.size:=by omega
 have e4:(16:Int)≤s.size:=by omega
 have z1:(s.extract 16 109).size=93:=by rw[ByteArray.size_extract];omega
 have z2:(s.extract 16 28).size=12:=by rw[ByteArray.size_extract];omega
 have z3:(s.extract 28 109).size=81:=by rw[ByteArray.size_extract];omega
 have HB:Hid (s.extract 0 16=mX key cell s):=hb;clear hb;go_enter Tryz.func278,Tryz.ntmps278
 go_wp2_with fail
 have hm:=om 103 key cell (s.extract 16 109) w (by omega) (by omega) hT;rw[show ((103:UInt8).toNat:Int)=103 from rfl] at hm;refine hm.mono ?_;clear hm;rintro e w1 ⟨rfl,h1⟩;have hb2:mk 103 key cell (s.extract 16 109)=s.extract 0 16:=HB.out.symm;rw[hb2];clear hb2;have x1:(strOfNums (dO key (s.extract 16 28) (s.extract 28 109))).size=81:=by rw[kT,z3]
 have hx:=fun w=>AZ key (s.extract 16 28) (s.extract 28 109) w h z2 (by omega)
 have HX:Hid (KC (strOfNums (dO key (s.extract 16 28) (s.extract 28 109)))=textOf key s):=by
  show KC _=textOf key s
  unfold textOf
  rfl
 generalize hB:strOfNums (dO key (s.extract 16 28) (s.extract 28 109))=B at *;clear hB;generalize hq:textOf key s=q at *;have HQ:Hid (textOf key s=q):=hq;clear hq;have HXc:Hid (∀w,Calls Tryz.prog 280 #[.string key,.string (s.extract 16 28),.string (s.extract 28 109)] w fun e w'=>e=.returned (.tuple #[.string B,.nilIface])∧Since w w'):=hx;clear hx;go_wp2_with fail
 go_region_with (go_at_call 280;refine(HXc.out _).mono ?_;rintro e w2 ⟨rfl,h2⟩;dsimp only)
 all_goals
  have HS2:Hid (Since w w2):=h1.trans ((Since.refl _).drew.trans h2);clear h1 h2 HXc;go_wp2_with fail
  refine(Dc B _ x1).mono ?_;rintro e w3 ⟨rfl,rfl⟩;have hX:B.extract 1 (1+min (sb B 0).toNat 80)=q:=HX.out;rw[hX];clear hX HX;go_wp2_with fail
  go_ret3;exact⟨by rw[HQ.out];rfl,HS2.out⟩
end Sl
end Go.Proofs.YtmhcfaaggkidjaaGreatDoor
end
section
namespace Go.Proofs.YtmhcfaaggkidjaaGreatDoor
set_option maxRecDepth 100000
namespace Tw
open Go.RowKit
open Sl (fE dH)
def Ba (z o:Int) (t:ByteArray):Bool:=decide (z=0∧o=0∧t=⟨#[]⟩)
def oO (z o:Int) (t:ByteArray):Bool:=decide (t.size=16∧0≤z∧z<8∧0≤o∧o<16)
def mV (z o:Int) (t:ByteArray):List UInt8:=if z=0∧o=0∧t=⟨#[]⟩ then 255::List.replicate 17 0 else UInt8.ofNat z.toNat::UInt8.ofNat o.toNat::t.data.toList
theorem wH (w:World) (z o:Int) (t:ByteArray):(binOp .eql 160 (.agg #[.int .i64 z,.int .i64 o,.string t]) (.agg #[.int .i64 0,.int .i64 0,.string ⟨#[]⟩])).run Tryz.prog w=.ok (.bool (Ba z o t)) w:=by
 have h1:t.toList=[]↔t=⟨#[]⟩:=by
  rw[ByteArray.toList_eq];exact⟨fun e=>ByteArray.ext (Array.toList_inj.1 e),fun e=>by rw[e]⟩
 unfold Ba;go_simp
 by_cases a:z=0<;>by_cases b:o=0<;>by_cases c:t=⟨#[]⟩<;>simp[a,b,c,h1]
attribute [local go_sem ↓] wH
theorem vN (z o:Int) (t:ByteArray) (w:World):Calls Tryz.prog 287 #[.agg #[.int .i64 z,.int .i64 o,.string t]] w fun e w'=>e=.returned (.bool (oO z o t))∧Since w w':=by
 have hS:Since w (w.alloc (.cells #[.int .i64 z,.int .i64 o,.string t] 160)):=(Since.refl w).alloc _;have HS:Hid (Since w (w.alloc (.cells #[.int .i64 z,.int .i64 o,.string t] 160))):=hS;clear hS;by_cases h1:t.size=16
 ·have e1:(t.size:Int)=16:=by omega
  by_cases h2:0≤z
  ·by_cases h3:z<8
   ·by_cases h4:0≤o
    ·by_cases h5:o<16
     ·have hb:oO z o t=true:=by unfold oO;simp;omega
      rw[hb];go_enter Tryz.func287,Tryz.ntmps287
      go_wp2_with fail
      go_ret;exact⟨rfl,HS.out⟩
     have hb:oO z o t=false:=by unfold oO;simp;omega
     rw[hb];go_enter Tryz.func287,Tryz.ntmps287
     go_wp2_with fail
     go_ret;exact⟨rfl,HS.out⟩
    have hb:oO z o t=false:=by unfold oO;simp;omega
    rw[hb];go_enter Tryz.func287,Tryz.ntmps287
    go_wp2_with fail
    go_ret;exact⟨rfl,HS.out⟩
   have hb:oO z o t=false:=by unfold oO;simp;omega
   rw[hb];go_enter Tryz.func287,Tryz.ntmps287
   go_wp2_with fail
   go_ret;exact⟨rfl,HS.out⟩
  have hb:oO z o t=false:=by unfold oO;simp;omega
  rw[hb];go_enter Tryz.func287,Tryz.ntmps287
  go_wp2_with fail
  go_ret;exact⟨rfl,HS.out⟩
 have e1:¬(t.size:Int)=16:=by omega
 have hb:oO z o t=false:=by unfold oO;simp;omega
 rw[hb];go_enter Tryz.func287,Tryz.ntmps287
 go_wp2_with fail
 go_ret;exact⟨rfl,HS.out⟩
theorem zH {T:Tb} {i:Nat} (h:gJ T i):Ba (T.aB i) (T.off i) (T.tag i)=true:=decide_eq_true h
theorem pX {T:Tb} {i:Nat} (h:¬gJ T i):Ba (T.aB i) (T.off i) (T.tag i)=false:=decide_eq_false h
theorem zI {T:Tb} {i:Nat} (h:may T i):oO (T.aB i) (T.off i) (T.tag i)=true:=decide_eq_true h
theorem FL {T:Tb} {i:Nat} (h:¬may T i):oO (T.aB i) (T.off i) (T.tag i)=false:=decide_eq_false h
theorem FM (s:ByteArray) (w:World) (hs:s.size≤100000):Calls Tryz.prog 275 #[.string s] w fun e w'=>e=.returned (.bool (decide (∀j,j<s.size→sb s j=0)))∧w'=w:=by
 go_enter Tryz.func275,Tryz.ntmps275
 go_wp2_with fail
 go_loopw [6,3] (fun i _ wr=>∃k:Nat,k≤s.size∧i=.int .i64 k∧wr=w∧∀j,j<k→sb s j=0) (fun i _ _=>s.size-(intOf i).toNat)
 case atStart=>exact⟨0,by omega,rfl,rfl,fun j hj=>by omega⟩
 obtain⟨k,hk,rfl,rfl,h0⟩:=hrel;have H0:Hid (∀j,j<k→sb s j=0):=h0;clear h0;by_cases hlt:k<s.size
 ·have hlt2:(k:Int)<s.size:=by omega
  have hb:s[k]=sb s k:=by
   have hsz:s.data.size=s.size:=rfl;unfold sb;rw[Array.getElem?_eq_getElem (by omega)]
   rfl
  by_cases hz:sb s k=0
  ·have hu:((s[k]:UInt8).toNat:Int)=0:=by rw[hb,hz];rfl
   have HZ:Hid (sb s k=0):=hz;clear hb hz;go_wp2_with fail
   go_roundw
   case rel=>exact⟨k+1,by omega,by go_num,trivial,fun j hj=>by
    by_cases e:j=k
    ·subst e;exact HZ.out
    exact H0.out j (by omega)⟩
   case measure=>simp[intOf];omega
  have hu:¬((s[k]:UInt8).toNat:Int)=0:=by
   rw[hb];intro e;exact hz (UInt8.toNat_inj.1 (by rw[show (0:UInt8).toNat=0 from rfl];omega))
  have HD:Hid (decide (∀j,j<s.size→sb s j=0)=false):=decide_eq_false (fun h=>hz (h k hlt));clear hb hz;go_wp2_with fail
  go_ret;exact⟨by rw[HD.out];rfl,rfl⟩
 have hke:k=s.size:=by omega
 have HD:Hid (decide (∀j,j<s.size→sb s j=0)=true):=decide_eq_true (fun j hj=>H0.out j (by omega));subst hke;go_wp2_with fail
 go_ret;exact⟨by rw[HD.out];rfl,rfl⟩
theorem FN (s:ByteArray) (k:Nat) (h:k<s.size):s[k]=sb s k:=by
 have hsz:s.data.size=s.size:=rfl;unfold sb;rw[Array.getElem?_eq_getElem (by omega)]
 rfl
theorem Tg (n b:Nat) (hn:n*256+b<18446744073709551616) (hb:b<256):bits .or .u64 (IntKind.u64.wrap ((n:Int)*256)) (IntKind.u64.wrap (b:Int))=((n*256+b:Nat):Int):=by
 have w1:∀x:Int,IntKind.u64.wrap x=x % 18446744073709551616:=fun x=>by simp[IntKind.wrap,IntKind.bits,IntKind.signed]
 rw[w1,w1,Int.emod_eq_of_lt (by omega) (by omega),Int.emod_eq_of_lt (by omega) (by omega)];have e:(n:Int)*256=((n*256:Nat):Int):=by omega
 rw[e,u64_or_nat (n*256) b (by omega) (by omega)];have:=Nat.two_pow_add_eq_or_of_lt (i:=8) (b:=b) (by omega) n
 congr 1
 rw[show (2:Nat) ^ 8=256 from rfl,Nat.mul_comm] at this;exact this.symm
theorem pY (s:ByteArray) (w:World) (hs:s.size=8):Calls Tryz.prog 299 #[.string s] w fun e w'=>e=.returned (.int .i64 (wrap64 (eD s 0 8:Int)))∧w'=w:=by
 go_enter Tryz.func299,Tryz.ntmps299
 go_wp2_with fail
 go_loopw [5,3] (fun i n wr=>∃k:Nat,k≤8∧i=.int .i64 k∧n=.int .u64 (eD s 0 k:Int)∧wr=w) (fun i _ _=>8-(intOf i).toNat)
 case atStart=>exact⟨0,by omega,rfl,rfl,rfl⟩
 obtain⟨k,hk,rfl,rfl,rfl⟩:=hrel;by_cases hlt:k<8
 ·have hlt2:(k:Int)<8:=by omega
  have hlt3:k<s.size:=by omega
  have hb:s[k]=sb s k:=FN s k hlt3;have Kv:=NJ s 0 (k+1);have hle:256 ^ (k+1)≤256 ^ 8:=Nat.pow_le_pow_right (by omega) (by omega);have HO:Hid (bits .or .u64 (IntKind.u64.wrap ((eD s 0 k:Int)*256)) (IntKind.u64.wrap ((sb s k).toNat:Int))=((eD s 0 (k+1):Nat):Int)):=by
   have h2:eD s 0 (k+1)=eD s 0 k*256+(sb s k).toNat:=by rw[eD,Nat.zero_add]
   rw[h2] at Kv ⊢;exact Tg _ _ (by omega) ((sb s k).toNat_lt)
  clear Kv hle;go_wp2_with fail
  go_roundw
  case rel=>exact⟨k+1,by omega,by go_num,by rw[HO.out],trivial⟩
  case measure=>simp[intOf];omega
 have hke:k=8:=by omega
 subst hke;go_wp2_with fail
 go_ret;exact⟨rfl,rfl⟩
def CS (s:ByteArray):Int:=if sb s 0=255 then 0 else ((sb s 0).toNat:Int)
def Ob (s:ByteArray):Int:=if sb s 0=255 then 0 else ((sb s 1).toNat:Int)
def Oc (s:ByteArray):ByteArray:=if sb s 0=255 then ⟨#[]⟩ else s.extract 2 18
theorem VV (x:UInt8):IntKind.i64.wrap (x.toNat:Int)=x.toNat:=by
 have:=x.toNat_lt;simp[IntKind.wrap,IntKind.bits,IntKind.signed];omega
def jJ (a b c:Value) (j:Nat):Value:=if j=0 then a else if j=1 then b else c
theorem Od (w:World) (a b c:Value) (ty:TypeId):ak (w.alloc (.cells #[a,b,c] ty)) w.heap.size 3 (jJ a b c):=ak.new w 3 _ _ _ (fun j hj=>by
 match j,hj with
 | 0,_=>rfl
 | 1,_=>rfl
 | 2,_=>rfl) _ rfl
theorem Bb {w:World} {b:Nat} {x y z:Value} (h:ak w b 3 (jJ x y z)):w.rangeAt b 0 [x,y,z]:=by
 have:=h.range 0 3 (by omega);exact this
set_option maxHeartbeats 1000000 in
theorem Oe (s:ByteArray) (w:World) (hs:s.size=18):Calls Tryz.prog 300 #[.string s] w fun e w'=>e=.returned (.agg #[.int .i64 (CS s),.int .i64 (Ob s),.string (Oc s)])∧Since w w':=by
 have h0:0<s.size:=by omega
 have h1:1<s.size:=by omega
 have hI:(s.size:Int)=18:=by omega
 have hb:=FN s 0 h0;have hb1:=FN s 1 h1;by_cases h:sb s 0=255
 ·have hu:((s[0]:UInt8).toNat:Int)=255:=by rw[hb,h];rfl
  have hS:Since w (w.alloc (.cells #[.int .i64 0,.int .i64 0,.string ⟨#[]⟩] 160)):=(Since.refl w).alloc _;unfold CS Ob Oc;rw[if_pos h,if_pos h,if_pos h];clear hb hb1;go_enter Tryz.func300,Tryz.ntmps300
  go_wp2_with fail
  exact bodyPost_ret (aQ Tryz.results300 _ _ _ w.heap.size _ _ (by rfl) (Bb (Od w _ _ _ _)) Tryz.underlying160 (by rfl) (by kernel_rfl)) rfl ⟨rfl,hS⟩
 have hu:¬((sb s 0).toNat:Int)=255:=by
  intro e;exact h (UInt8.toNat_inj.1 (by rw[show (255:UInt8).toNat=255 from rfl];omega))
 unfold CS Ob Oc;rw[if_neg h,if_neg h,if_neg h];have z1:(s.extract 2 18).size=16:=by rw[ByteArray.size_extract];omega
 have hw0:IntKind.i64.wrap ((sb s 0).toNat:Int)=(sb s 0).toNat:=VV _;have hw1:IntKind.i64.wrap ((sb s 1).toNat:Int)=(sb s 1).toNat:=VV _;have hcl:=fun w=>ed (s.extract 2 18) w (by omega)
 have HC:Hid (∀w,Calls Tryz.prog 72 #[.string (s.extract 2 18)] w fun e w'=>e=.returned (.string (s.extract 2 18))∧Since w w'):=hcl;clear hcl;go_enter Tryz.func300,Tryz.ntmps300
 go_wp2_with fail
 have hC:=(Od w (.int .i64 0) (.int .i64 0) (.string ⟨#[]⟩) 160).since (Since.refl _).drew;have HL:Hid (ak (w.alloc (.cells #[.int .i64 0,.int .i64 0,.string ⟨#[]⟩] 160)).drew w.heap.size 3 (jJ (.int .i64 0) (.int .i64 0) (.string ⟨#[]⟩))):=hC;clear hC;go_region_held3 (fun _=>True) (trivial) (first
  | (go_simp;go_at_call 72;refine(HC.out _).mono ?_;rintro e w1 ⟨rfl,h2⟩;have q0:=(HL.out.since h2).cell 0 (by omega);have q1:=(HL.out.since h2).cell 1 (by omega);have q2:=(HL.out.since h2).cell 2 (by omega);have f0:=(HL.out.since h2).frozen 0 (by omega);have f1:=(HL.out.since h2).frozen 1 (by omega);have f2:=(HL.out.since h2).frozen 2 (by omega);dsimp only))
 all_goals
  have fT:=(((HL.out.since h2).set 0 (by omega) (.int .i64 ((sb s 0).toNat:Int))).set 1 (by omega) (.int .i64 ((sb s 1).toNat:Int))).set 2 (by omega) (.string (s.extract 2 18));have pg:=fT.congr (g:=jJ (.int .i64 ((sb s 0).toNat:Int)) (.int .i64 ((sb s 1).toNat:Int)) (.string (s.extract 2 18))) (fun j hj=>by
   match j,hj with
   | 0,_=>rfl
   | 1,_=>rfl
   | 2,_=>rfl)
  have yO:Hid (ak _ w.heap.size 3 (jJ (.int .i64 ((sb s 0).toNat:Int)) (.int .i64 ((sb s 1).toNat:Int)) (.string (s.extract 2 18)))):=pg;have fu:=((((((Since.refl w).alloc (.cells #[.int .i64 0,.int .i64 0,.string ⟨#[]⟩] 160)).drew).trans h2).setCell (p:=⟨w.heap.size,0,none⟩) (Nat.le_refl _) (.int .i64 ((sb s 0).toNat:Int))).setCell (p:=⟨w.heap.size,1,none⟩) (Nat.le_refl _) (.int .i64 ((sb s 1).toNat:Int))).setCell (p:=⟨w.heap.size,2,none⟩) (Nat.le_refl _) (.string (s.extract 2 18));have iw:Hid (Since w _):=fu;clear fT pg fu q0 q1 q2 f0 f1 f2 hb hb1 HL h2;go_wp2_with fail
  exact bodyPost_ret (aQ Tryz.results300 _ _ _ w.heap.size _ _ (by rfl) (Bb yO.out) Tryz.underlying160 (by rfl) (by kernel_rfl)) rfl ⟨rfl,iw.out⟩
end Tw
end Go.Proofs.YtmhcfaaggkidjaaGreatDoor
end
section
namespace Go.Proofs.YtmhcfaaggkidjaaGreatDoor
set_option maxRecDepth 100000
namespace Tw
open Go.RowKit
open Sl (fE dH)
attribute [local go_sem ↓] wH
def Kw (z o:Int) (t:ByteArray) (j:Nat):UInt8:=if j=0 then UInt8.ofNat z.toNat else if j=1 then UInt8.ofNat o.toNat else sb t (j-2)
theorem Zi (w:World) (cs:Array Value) (f:Nat→UInt8) (h:cs=(aa 18 (fun j=>bv (f j))).toArray) (b:Nat) (hb:b=w.heap.size):ak (w.alloc (.cells cs 332)) b 18 (fun j=>bv (f j)):=ak.new w 18 _ _ _ (fun j hj=>by rw[h,List.getElem?_toArray,aU _ _ _ hj]) _ hb
set_option maxHeartbeats 1000000 in
theorem CU (w:World):Calls Tryz.prog 243 #[.agg #[.int .i64 0,.int .i64 0,.string ⟨#[]⟩]] w fun e w'=>e=.returned (.string (txt 18 (fun j=>if j=0 then 255 else 0)))∧Since w w':=by
 have hn:Ba 0 0 ⟨#[]⟩=true:=rfl;have hC:=Zi (w.alloc (.cells #[.int .i64 0,.int .i64 0,.string ⟨#[]⟩] 160)) #[.int .u8 255,.int .u8 0,.int .u8 0,.int .u8 0,.int .u8 0,.int .u8 0,.int .u8 0,.int .u8 0,.int .u8 0,.int .u8 0,.int .u8 0,.int .u8 0,.int .u8 0,.int .u8 0,.int .u8 0,.int .u8 0,.int .u8 0,.int .u8 0] (fun j=>if j=0 then 255 else 0) (by rfl) (w.heap.size+1) (by simp);have hcv:=dH _ (w.heap.size+1) 0 18 18 (fun j=>if j=0 then 255 else 0) (fun i hi=>by rw[Nat.zero_add];exact hC.cell i hi);have HS:Hid (Since w ((w.alloc (.cells #[.int .i64 0,.int .i64 0,.string ⟨#[]⟩] 160)).alloc (.cells #[.int .u8 255,.int .u8 0,.int .u8 0,.int .u8 0,.int .u8 0,.int .u8 0,.int .u8 0,.int .u8 0,.int .u8 0,.int .u8 0,.int .u8 0,.int .u8 0,.int .u8 0,.int .u8 0,.int .u8 0,.int .u8 0,.int .u8 0,.int .u8 0] 332))):=((Since.refl w).alloc _).alloc _;clear hC
 generalize hq:txt 18 (fun j=>if j=0 then 255 else 0)=q at *;have HQ:Hid (txt 18 (fun j=>if j=0 then 255 else 0)=q):=hq;clear hq;go_enter Tryz.func243,Tryz.ntmps243
 go_wp2_with fail
 go_ret;exact⟨rfl,HS.out⟩
set_option maxHeartbeats 1000000 in
theorem CV (z o:Nat) (t:ByteArray) (w:World) (hn:Ba z o t=false) (hz:z<8) (ho:o<16) (ht:t.size=16):Calls Tryz.prog 243 #[.agg #[.int .i64 (z:Int),.int .i64 (o:Int),.string t]] w fun e w'=>e=.returned (.string (txt 18 (Kw z o t)))∧Since w w':=by
 have hwz:IntKind.u8.wrap (z:Int)=z:=by simp[IntKind.wrap,IntKind.bits,IntKind.signed];omega
 have hwo:IntKind.u8.wrap (o:Int)=o:=by simp[IntKind.wrap,IntKind.bits,IntKind.signed];omega
 go_enter Tryz.func243,Tryz.ntmps243
 go_wp2_with fail
 go_region
 have hC:=ak.new (w.alloc (.cells #[.int .i64 (z:Int),.int .i64 (o:Int),.string t] 160)) 18 (fun j=>if j=0 then .int .u8 (z:Int) else if j=1 then .int .u8 (o:Int) else bv 0) 332 (aa 18 (fun j=>if j=0 then .int .u8 (z:Int) else if j=1 then .int .u8 (o:Int) else bv 0)).toArray (fun j hj=>by rw[List.getElem?_toArray,aU _ _ _ hj]) (w.heap.size+1) (by simp);have hC2:=(hC.since (Since.refl _).drew).since (Since.refl _).drew;have hT:=(((Od w (.int .i64 (z:Int)) (.int .i64 (o:Int)) (.string t) 160).since ((Since.refl _).alloc (.cells (aa 18 (fun j=>if j=0 then .int .u8 (z:Int) else if j=1 then .int .u8 (o:Int) else bv 0)).toArray 332))).since (Since.refl _).drew).since (Since.refl _).drew;have q2:=hT.cell 2 (by omega);rw[show jJ (.int .i64 (z:Int)) (.int .i64 (o:Int)) (.string t) 2=.string t from rfl] at q2
 have hS:Since w ((w.alloc (.cells #[.int .i64 (z:Int),.int .i64 (o:Int),.string t] 160)).alloc (.cells (aa 18 (fun j=>if j=0 then .int .u8 (z:Int) else if j=1 then .int .u8 (o:Int) else bv 0)).toArray 332)).drew:=(((Since.refl w).alloc _).alloc _).drew;generalize hw2:((w.alloc (.cells #[.int .i64 (z:Int),.int .i64 (o:Int),.string t] 160)).alloc (.cells (aa 18 (fun j=>if j=0 then .int .u8 (z:Int) else if j=1 then .int .u8 (o:Int) else bv 0)).toArray 332)).drew=w2 at *;refine(congrArg (fun W=>Exit.then _ _ Exit.normal _ W) hw2).mpr ?_;clear hC hT hw2;have hcp:=fE _ 3 (w.heap.size+1) 2 16 16 18 _ t hC2 (by omega);rw[show min t.size 16=16 by omega] at hcp;have fT:=hC2.setRow 2 16 (by omega) (fun i=>bv (sb t i));have pg:ak (w2.drew.setCells (w.heap.size+1) 2 (aa 16 (fun i=>bv (sb t i)))) (w.heap.size+1) 18 (fun j=>bv (Kw z o t j)):=by
  refine fT.congr (fun j hj=>?_);unfold dF Kw;by_cases e:j=0
  ·subst e;rw[if_neg (by omega)];simp only[if_true,bv,UInt8.toNat_ofNat',Int.toNat_natCast]
   congr 1
   omega
  by_cases e1:j=1
  ·subst e1;rw[if_neg (by omega)];simp only[if_true,if_false,Nat.one_ne_zero,bv,UInt8.toNat_ofNat',Int.toNat_natCast]
   congr 1
   omega
  rw[if_pos (by omega),if_neg e,if_neg e1]
 have jX:Since w (w2.drew.setCells (w.heap.size+1) 2 (aa 16 (fun i=>bv (sb t i)))):=hS.drew.setCells (by omega) _ _;have yO:Hid (ak (w2.drew.setCells (w.heap.size+1) 2 (aa 16 (fun i=>bv (sb t i)))) (w.heap.size+1) 18 (fun j=>bv (Kw z o t j))):=pg;have iY:Hid (Since w (w2.drew.setCells (w.heap.size+1) 2 (aa 16 (fun i=>bv (sb t i))))):=jX;clear hC2 fT pg hS jX hwz hwo hn;go_wp2_with fail
 go_region
 clear hcp q2;generalize w2.drew.setCells (w.heap.size+1) 2 (aa 16 (fun i=>bv (sb t i)))=w3 at *;have hcv:=dH w3 (w.heap.size+1) 0 18 18 (Kw z o t) (fun i hi=>by rw[Nat.zero_add];exact yO.out.cell i hi);generalize hq:txt 18 (Kw z o t)=q at *;have HQ:Hid (txt 18 (Kw z o t)=q):=hq;clear hq;go_wp2_with fail
 go_ret;exact⟨by rw[HQ.out];rfl,iY.out⟩
theorem Og (z o:Nat) (t:ByteArray) (ht:t.size=16):txt 18 (Kw z o t)=⟨(UInt8.ofNat z::UInt8.ofNat o::t.data.toList).toArray⟩:=by
 have hsz:t.data.size=16:=ht;apply ByteArray.ext
 apply Array.ext_getElem?
 intro i;have e1:(txt 18 (Kw z o t)).data[i]?=((List.range 18).map (Kw z o t))[i]?:=by unfold txt;exact List.getElem?_toArray ..
 rw[e1,List.getElem?_map,List.getElem?_toArray]
 match i with
 | 0=>simp[Kw]
 | 1=>simp[Kw]
 | i+2=>
  rw[List.getElem?_cons_succ,List.getElem?_cons_succ,show t.data.toList[i]?=t.data[i]? from Array.getElem?_toList];by_cases h:i<16
  ·rw[List.getElem?_range (by omega),Array.getElem?_eq_getElem (by omega)];simp only[Option.map_some,Kw];rw[if_neg (by omega),if_neg (by omega),show i+2-2=i by omega];unfold sb;rw[Array.getElem?_eq_getElem (by omega)]
   rfl
  rw[List.getElem?_eq_none (by simp;omega),Array.getElem?_eq_none (by omega)]
  rfl
theorem jY (T:Tb) (i:Nat) (w:World) (h:gJ T i∨may T i):Calls Tryz.prog 243 #[.agg #[.int .i64 (T.aB i),.int .i64 (T.off i),.string (T.tag i)]] w fun e w'=>e=.returned (.string ⟨(cellL T i).toArray⟩)∧Since w w':=by
 by_cases hn:gJ T i
 ·have hl:cellL T i=255::List.replicate 17 0:=by unfold cellL;rw[if_pos hn]
  rw[hl];obtain⟨h1,h2,h3⟩:=hn;rw[h1,h2,h3];exact CU w
 have hm:may T i:=h.resolve_left hn;have hl:cellL T i=UInt8.ofNat (T.aB i).toNat::UInt8.ofNat (T.off i).toNat::(T.tag i).data.toList:=by unfold cellL;rw[if_neg hn]
 rw[hl];have hnb:=pX hn;obtain⟨m1,m2,m3,m4,m5⟩:=hm;obtain⟨z,hz⟩:∃z:Nat,T.aB i=z:=⟨(T.aB i).toNat,by omega⟩
 obtain⟨o,ho⟩:∃o:Nat,T.off i=o:=⟨(T.off i).toNat,by omega⟩
 rw[hz,ho] at hnb ⊢;have:=CV z o (T.tag i) w hnb (by omega) (by omega) m1;rw[Og z o (T.tag i) m1] at this;exact this
end Tw
end Go.Proofs.YtmhcfaaggkidjaaGreatDoor
end
section
namespace Go.Proofs.YtmhcfaaggkidjaaGreatDoor
set_option maxRecDepth 100000
namespace Tw
open Go.RowKit
attribute [local go_sem ↓] wH
def Oh (T:Tb) (k:Nat) (z o:Int):Bool:=(List.range k).any fun i=>!Ba (T.aB i) (T.off i) (T.tag i)&&decide (T.aB i=z)&&decide (T.off i=o)
theorem wI (T:Tb) (k:Nat) (z o:Int):Oh T k z o=true↔hit T k z o:=by
 unfold Oh hit;rw[List.any_eq_true];constructor
 ·rintro ⟨i,hi,h⟩;simp only[Bool.and_eq_true,Bool.not_eq_true',decide_eq_true_eq] at h;exact⟨i,List.mem_range.1 hi,fun hn=>by rw[zH hn] at h;exact Bool.noConfusion h.1.1,h.1.2,h.2⟩
 rintro ⟨i,hi,hn,h1,h2⟩;exact⟨i,List.mem_range.2 hi,by rw[pX hn,decide_eq_true h1,decide_eq_true h2];rfl⟩
def FP (T:Tb):Bool:=decide (1≤T.count∧T.count≤1099511627776)&&(List.range 24).all fun i=>Ba (T.aB i) (T.off i) (T.tag i)||(oO (T.aB i) (T.off i) (T.tag i)&&!Oh T i (T.aB i) (T.off i))
theorem og (T:Tb):FP T=true↔Rt T:=by
 unfold FP Rt fine;rw[Bool.and_eq_true,decide_eq_true_eq,List.all_eq_true];refine and_congr Iff.rfl ⟨fun h i hi=>?_,fun h i hi=>?_⟩
 ·have:=h i (List.mem_range.2 hi);rw[Bool.or_eq_true,Bool.and_eq_true,Bool.not_eq_true'] at this;rcases this with h1 | ⟨h1,h2⟩
  ·exact Or.inl (of_decide_eq_true h1)
  exact Or.inr ⟨of_decide_eq_true h1,fun hh=>by rw[(wI _ _ _ _).2 hh] at h2;exact Bool.noConfusion h2⟩
 rw[Bool.or_eq_true,Bool.and_eq_true,Bool.not_eq_true'];rcases h i (List.mem_range.1 hi) with h1 | ⟨h1,h2⟩
 ·exact Or.inl (zH h1)
 exact Or.inr ⟨zI h1,by
  cases hq:Oh T i (T.aB i) (T.off i) with
  | false=>rfl
  | true=>exact absurd ((wI _ _ _ _).1 hq) h2⟩
theorem CW {T:Tb} (h:Rt T):FP T=true:=(og T).2 h
theorem sZ {T:Tb} (h:¬Rt T):FP T=false:=by
 cases hq:FP T with
 | false=>rfl
 | true=>exact absurd ((og T).1 hq) h
def oP (T:Tb) (k j:Nat):Bool:=Oh T k ((j / 16:Nat):Int) ((j % 16:Nat):Int)
theorem kP (T:Tb) (k j:Nat):oP T k j=true↔hit T k ((j / 16:Nat):Int) ((j % 16:Nat):Int):=wI _ _ _ _
theorem CX {x y:Bool} (h:x=true↔y=true):x=y:=by
 cases x<;>cases y<;>simp_all
theorem Ky (T:Tb) (j:Nat):oP T 0 j=false:=by
 cases hq:oP T 0 j with
 | false=>rfl
 | true=>exact absurd ((kP _ _ _).1 hq) (NI _ _ _)
theorem Oi {T:Tb} {k:Nat} (hn:gJ T k) (j:Nat):oP T (k+1) j=oP T k j:=
 CX (by rw[kP,kP];exact Ta hn _ _)
theorem Jm (T:Tb) (k z o:Nat) (ho:o<16):oP T k (z*16+o)=true↔hit T k (z:Int) (o:Int):=by
 rw[kP,show (z*16+o) / 16=z by omega,show (z*16+o) % 16=o by omega]
theorem Oj {T:Tb} {k:Nat} (hn:¬gJ T k) (z o:Nat) (hz:T.aB k=z) (ho:T.off k=o) (ho2:o<16) (j:Nat):(if j=z*16+o then true else oP T k j)=oP T (k+1) j:=by
 by_cases e:j=z*16+o
 ·subst e;rw[if_pos rfl]
  symm
  rw[Jm T (k+1) z o ho2,Ji hn];exact Or.inr ⟨hz,ho⟩
 rw[if_neg e];have:hit T (k+1) ((j / 16:Nat):Int) ((j % 16:Nat):Int)↔hit T k ((j / 16:Nat):Int) ((j % 16:Nat):Int):=by
  rw[Ji hn,hz,ho];constructor
  ·rintro (h | ⟨h1,h2⟩)
   ·exact h
   exact absurd (show j=z*16+o by omega) e
  exact Or.inl
 exact CX (by rw[kP,kP];exact this.symm)
theorem CY (T:Tb) (w:World) (h:T.count<1∨1099511627776<T.count):Calls Tryz.prog 242 #[bE T] w fun e w'=>e=.returned (.bool false)∧Since w w':=by
 have hC:=fK T w;have q0:=hC.cell 0 (by omega);rw[show af T 0=.int .i64 T.count from rfl] at q0;have hS:Since w (w.alloc (.cells (aa 73 (af T)).toArray 163)):=(Since.refl w).alloc _;unfold bE;generalize (aa 73 (af T)).toArray=cs at *;have HS:Hid (Since w (w.alloc (.cells cs 163))):=hS;clear hS hC;by_cases h1:T.count<1
 ·go_enter Tryz.func242,Tryz.ntmps242
  go_wp2_with fail
  go_ret;exact⟨rfl,HS.out⟩
 have h2:1099511627776<T.count:=by omega
 go_enter Tryz.func242,Tryz.ntmps242
 go_wp2_with fail
 go_ret;exact⟨rfl,HS.out⟩
theorem FQ:∀j,j<128→Tryz.zeroCells330[j]?=some (.bool false):=by
 intro j hj;have he:Tryz.zeroCells330=(List.replicate 128 (Value.bool false)).toArray:=by kernel_rfl
 rw[he,List.getElem?_toArray,List.getElem?_replicate,if_pos hj]
set_option maxHeartbeats 4000000 in
theorem FR (T:Tb) (w:World) (h1:1≤T.count) (h2:T.count≤1099511627776):Calls Tryz.prog 242 #[bE T] w fun e w'=>e=.returned (.bool (FP T))∧Since w w':=by
 have c1:¬T.count<1:=by omega
 have c2:¬1099511627776<T.count:=by omega
 have qU:Hid (1≤T.count∧T.count≤1099511627776):=⟨h1,h2⟩
 clear h1 h2;have hC:=fK T w;have q0:=hC.cell 0 (by omega);rw[show af T 0=.int .i64 T.count from rfl] at q0;have hS:Since w (w.alloc (.cells (aa 73 (af T)).toArray 163)):=(Since.refl w).alloc _;have hR:=jg (hC.since ((Since.refl _).alloc (.cells Tryz.zeroCells330 330)));unfold bE;generalize (aa 73 (af T)).toArray=cs0 at *;have HS:Hid (Since w ((w.alloc (.cells cs0 163)).alloc (.cells Tryz.zeroCells330 330))):=hS.alloc _;have HT:Hid (ak ((w.alloc (.cells cs0 163)).alloc (.cells Tryz.zeroCells330 330)) (w.heap.size+1) 128 (fun j=>.bool (oP T 0 j))):=(ak.new (w.alloc (.cells cs0 163)) 128 (fun _=>.bool false) 330 Tryz.zeroCells330 FQ (w.heap.size+1) (by simp)).congr (fun j hj=>by rw[Ky]);clear hS hC;have hL:(aa 72 (bO T)).length=72:=ag _ _;have hix:=fun (k:Nat) (hk:k<24) (w:World)=>kN T k hk w
 have Nw:Hid (∀(k:Nat) (hk:k<24) (w:World),(Instr.index 161 (.agg (aa 72 (bO T)).toArray) (.int .i64 (k:Int))).run Tryz.prog w=.ok (.agg #[.int .i64 (T.aB k),.int .i64 (T.off k),.string (T.tag k)]) w):=hix;clear hix;generalize hcs:aa 72 (bO T)=cs at *;clear hcs;go_enter Tryz.func242,Tryz.ntmps242
 go_wp2_with (refine wpList_load_mid (by rfl) 161 _ (by rfl) w.heap.size 1 (by rfl) _ _ hR Tryz.underlying161 (by rfl) (by rw[hL];kernel_rfl) ?_)
 clear hR hL q0 c1 c2;generalize (w.alloc (.cells cs0 163)).alloc (.cells Tryz.zeroCells330 330)=w0 at *;go_loopw [16] (fun i wr=>∃k:Nat,k≤24∧i=.int .i64 k∧fine T k∧ak wr (w.heap.size+1) 128 (fun j=>.bool (oP T k j))∧Since w wr) (fun i _=>24-(intOf i).toNat)
 case atStart=>exact⟨0,by omega,rfl,Kl T,HT.out,HS.out⟩
 obtain⟨k,hk,rfl,hf,ht,hs⟩:=hrel;have HF:Hid (fine T k):=hf;have HTK:Hid (ak wr (w.heap.size+1) 128 (fun j=>.bool (oP T k j))):=ht;have jV:Hid (Since w wr):=hs;clear hf ht hs;by_cases hlt:k<24
 ·have hlt2:(k:Int)<24:=by omega
  have hix:=Nw.out k hlt;by_cases hn:gJ T k
  ·have HN:Hid (gJ T k):=hn;obtain⟨z0,o0,t0⟩:=hn;rw[z0,o0,t0] at hix;clear z0 o0 t0;have hnb:Ba 0 0 ⟨#[]⟩=true:=rfl;go_wp2_with fail
   go_roundw
   case rel=>exact⟨k+1,by omega,by go_num,NG HF.out HN.out,(HTK.out.since ((Since.refl _).alloc _)).congr (fun j hj=>by rw[Oi HN.out]),jV.out.alloc _⟩
   case measure=>simp[intOf];omega
  have hnb:=pX hn;have HN:Hid (¬gJ T k):=hn;clear hn;by_cases hm:may T k
  ·have hmb:=zI hm;obtain⟨m1,m2,m3,m4,m5⟩:=hm;have HM:Hid (may T k):=⟨m1,m2,m3,m4,m5⟩
   obtain⟨z,hz⟩:∃z:Nat,T.aB k=z:=⟨(T.aB k).toNat,by omega⟩
   obtain⟨o,ho⟩:∃o:Nat,T.off k=o:=⟨(T.off k).toNat,by omega⟩
   rw[hz,ho] at hix hnb hmb;rw[hz] at m2 m3;rw[ho] at m4 m5;have HZ:Hid (T.aB k=z):=hz;have HO:Hid (T.off k=o):=ho;clear hz ho m1;generalize T.tag k=t at *;have wJ:z<8:=by omega
   have Zj:o<16:=by omega
   clear m2 m4;obtain⟨x,hx⟩:∃x,oP T k (z*16+o)=x:=⟨_,rfl⟩
   have HX:Hid (oP T k (z*16+o)=x):=hx;clear hx;go_wp2_with fail
   have jZ:Hid (ak (wr.alloc (.cells #[.int .i64 (z:Int),.int .i64 (o:Int),.string t] 160)).drew wr.heap.size 3 (jJ (.int .i64 (z:Int)) (.int .i64 (o:Int)) (.string t))):=(Od wr _ _ _ _).since (Since.refl _).drew;have Ti:Hid (ak (wr.alloc (.cells #[.int .i64 (z:Int),.int .i64 (o:Int),.string t] 160)).drew (w.heap.size+1) 128 (fun j=>.bool (oP T k j))):=(HTK.out.since ((Since.refl _).alloc _)).since (Since.refl _).drew;have jX:(fun W:World=>W.cell? ⟨wr.heap.size,0,none⟩=some (.int .i64 (z:Int))∧W.cell? ⟨wr.heap.size,1,none⟩=some (.int .i64 (o:Int))∧W.cell? ⟨wr.heap.size,2,none⟩=some (.string t)∧W.cell? ⟨w.heap.size+1,z*16+o,none⟩=some (.bool x)) (wr.alloc (.cells #[.int .i64 (z:Int),.int .i64 (o:Int),.string t] 160)).drew:=⟨jZ.out.cell 0 (by omega),jZ.out.cell 1 (by omega),jZ.out.cell 2 (by omega),by rw[Ti.out.cell (z*16+o) (by omega),HX.out]⟩
   refine wp_region_held (S:=fun W:World=>W.cell? ⟨wr.heap.size,0,none⟩=some (.int .i64 (z:Int))∧W.cell? ⟨wr.heap.size,1,none⟩=some (.int .i64 (o:Int))∧W.cell? ⟨wr.heap.size,2,none⟩=some (.string t)∧W.cell? ⟨w.heap.size+1,z*16+o,none⟩=some (.bool x)) (by kernel_rfl) ?_;refine takeD (i:=0) (d:=22) (v:=?w0) rfl rfl (by kernel_rfl) (by kernel_rfl) (by kernel_rfl) (fun _ _ _ h=>h) (Or.inl ⟨by rfl,?hw0⟩) jX ?q0
   case hw0=>(intro w hSw;obtain⟨s0,s1,s2,s3⟩:=hSw;go_simp;try with_reducible rfl)
   simp only[Act.put,List.setIfInBounds_toArray,List.set_cons_zero,List.set_cons_succ];refine wpAnyH_ready (rs:=[1]) (by kernel_rfl) (by simp) (AllReadyH.cons rfl (fun K hK=>?_) AllReadyH.nil);go_simp
   refine(vN _ _ _ _).mono ?_;rintro e w1 ⟨rfl,hS1⟩;rw[hmb];simp only[];have hS5:(fun W:World=>W.cell? ⟨wr.heap.size,0,none⟩=some (.int .i64 (z:Int))∧W.cell? ⟨wr.heap.size,1,none⟩=some (.int .i64 (o:Int))∧W.cell? ⟨wr.heap.size,2,none⟩=some (.string t)∧W.cell? ⟨w.heap.size+1,z*16+o,none⟩=some (.bool x)) w1:=⟨(jZ.out.since hS1).cell 0 (by omega),(jZ.out.since hS1).cell 1 (by omega),(jZ.out.since hS1).cell 2 (by omega),by rw[(Ti.out.since hS1).cell (z*16+o) (by omega),HX.out]⟩
   refine hK.out _ _ hS5 (fun _=>?_);clear hK K
   (try simp only[Act.put,List.setIfInBounds_toArray,List.set_cons_zero,List.set_cons_succ])
   refine takeD (i:=2) (d:=24) (v:=?w2) rfl rfl (by kernel_rfl) (by kernel_rfl) (by kernel_rfl) (fun _ _ _ h=>h) (Or.inl ⟨by rfl,?hw2⟩) hS5 ?q2
   case hw2=>(intro w _;go_simp;try with_reducible rfl)
   simp only[Act.put,List.setIfInBounds_toArray,List.set_cons_zero,List.set_cons_succ];refine takeD (i:=3) (d:=25) (v:=?w3) rfl rfl (by kernel_rfl) (by kernel_rfl) (by kernel_rfl) (fun _ _ _ h=>h) (Or.inl ⟨by rfl,?hw3⟩) hS5 ?q3
   case hw3=>(intro w _;go_simp;try with_reducible rfl)
   simp only[Act.put,List.setIfInBounds_toArray,List.set_cons_zero,List.set_cons_succ];refine takeD (i:=4) (d:=26) (v:=?w4) rfl rfl (by kernel_rfl) (by kernel_rfl) (by kernel_rfl) (fun _ _ _ h=>h) (Or.inl ⟨gB rfl rfl rfl rfl,?hw4⟩) hS5 ?q4
   case hw4=>(intro w _;go_simp;try with_reducible rfl)
   simp only[Act.put,List.setIfInBounds_toArray,List.set_cons_zero,List.set_cons_succ];refine takeD (i:=5) (d:=27) (v:=?w5) rfl rfl (by kernel_rfl) (by kernel_rfl) (by kernel_rfl) (fun _ _ _ h=>h) (Or.inl ⟨gB rfl rfl rfl rfl,?hw5⟩) hS5 ?q5
   case hw5=>(intro w hSw;obtain⟨s0,s1,s2,s3⟩:=hSw;go_simp;try with_reducible rfl)
   simp only[Act.put,List.setIfInBounds_toArray,List.set_cons_zero,List.set_cons_succ];refine takeD (i:=6) (d:=28) (v:=?w6) rfl rfl (by kernel_rfl) (by kernel_rfl) (by kernel_rfl) (fun _ _ _ h=>h) (Or.inl ⟨gB rfl rfl rfl rfl,?hw6⟩) hS5 ?q6
   case hw6=>(intro w _;go_simp;try with_reducible rfl)
   simp only[Act.put,List.setIfInBounds_toArray,List.set_cons_zero,List.set_cons_succ];refine takeD (i:=7) (d:=29) (v:=?w7) rfl rfl (by kernel_rfl) (by kernel_rfl) (by kernel_rfl) (fun _ _ _ h=>h) (Or.inl ⟨gB rfl rfl rfl rfl,?hw7⟩) hS5 ?q7
   case hw7=>(intro w hSw;obtain⟨s0,s1,s2,s3⟩:=hSw;go_simp;try with_reducible rfl)
   simp only[Act.put,List.setIfInBounds_toArray,List.set_cons_zero,List.set_cons_succ];refine takeD (i:=8) (d:=30) (v:=?w8) rfl rfl (by kernel_rfl) (by kernel_rfl) (by kernel_rfl) (fun _ _ _ h=>h) (Or.inl ⟨gB rfl rfl rfl rfl,?hw8⟩) hS5 ?q8
   case hw8=>(intro w _;go_simp;try with_reducible rfl)
   simp only[Act.put,List.setIfInBounds_toArray,List.set_cons_zero,List.set_cons_succ];refine takeD (i:=9) (d:=31) (v:=?w9) rfl rfl (by kernel_rfl) (by kernel_rfl) (by kernel_rfl) (fun _ _ _ h=>h) (Or.inl ⟨gB rfl rfl rfl rfl,?hw9⟩) hS5 ?q9
   case hw9=>(intro w _;go_simp;try with_reducible rfl)
   simp only[Act.put,List.setIfInBounds_toArray,List.set_cons_zero,List.set_cons_succ];refine takeD (i:=10) (d:=32) (v:=?w10) rfl rfl (by kernel_rfl) (by kernel_rfl) (by kernel_rfl) (fun _ _ _ h=>h) (Or.inl ⟨gB rfl rfl rfl rfl,?hw10⟩) hS5 ?q10
   case hw10=>(intro w hSw;obtain⟨s0,s1,s2,s3⟩:=hSw;go_simp;try with_reducible rfl)
   simp only[Act.put,List.setIfInBounds_toArray,List.set_cons_zero,List.set_cons_succ];refine takeD (i:=11) (d:=33) (v:=?w11) rfl rfl (by kernel_rfl) (by kernel_rfl) (by kernel_rfl) (fun _ _ _ h=>h) (Or.inl ⟨by rfl,?hw11⟩) hS5 ?q11
   case hw11=>(intro w _;go_simp;try with_reducible rfl)
   simp only[Act.put,List.setIfInBounds_toArray,List.set_cons_zero,List.set_cons_succ];refine wpAnyH_done (by kernel_rfl) ?_ _;have qL:Hid (Since w w1):=(jV.out.alloc _).drew.trans hS1;have Bc:Hid (ak w1 wr.heap.size 3 (jJ (.int .i64 (z:Int)) (.int .i64 (o:Int)) (.string t))):=jZ.out.since hS1;have YL:Hid (ak w1 (w.heap.size+1) 128 (fun j=>.bool (oP T k j))):=Ti.out.since hS1;clear jX hS5 hS1 jZ Ti hix hnb hmb;have hhit:=Jm T k z o Zj;rw[HX.out] at hhit;cases x with
   | true=>
    have HB:Hid (FP T=false):=sZ (fun h=>CE HN.out (Or.inr (by rw[HZ.out,HO.out];exact hhit.1 rfl)) hlt h.2);clear hhit;go_wp2_with fail
    go_ret;exact⟨by rw[HB.out];rfl,qL.out⟩
   | false=>
    have HH:Hid (¬hit T k (z:Int) (o:Int)):=fun h=>Bool.noConfusion (hhit.2 h)
    clear hhit;have hq0:=(Bc.out.since (Since.refl _).drew).cell 0 (by omega);have hq1:=(Bc.out.since (Since.refl _).drew).cell 1 (by omega);rw[show jJ (.int .i64 (z:Int)) (.int .i64 (o:Int)) (.string t) 0=.int .i64 (z:Int) from rfl] at hq0;rw[show jJ (.int .i64 (z:Int)) (.int .i64 (o:Int)) (.string t) 1=.int .i64 (o:Int) from rfl] at hq1;have hq2:=(YL.out.since (Since.refl _).drew).cell (z*16+o) (by omega);have hq3:=(YL.out.since (Since.refl _).drew).frozen (z*16+o) (by omega);have VW:Hid (ak (w1.drew.setCell ⟨w.heap.size+1,z*16+o,none⟩ (.bool true)) (w.heap.size+1) 128 (fun j=>.bool (oP T (k+1) j))):=((YL.out.since (Since.refl _).drew).set (z*16+o) (by omega) (.bool true)).congr (fun j hj=>by
     unfold aZ;have:=Oj HN.out z o HZ.out HO.out Zj j;by_cases e:j=z*16+o
     ·rw[if_pos e];rw[if_pos e] at this;rw[←this]
     rw[if_neg e];rw[if_neg e] at this;rw[←this])
    have uH:Hid (Since w (w1.drew.setCell ⟨w.heap.size+1,z*16+o,none⟩ (.bool true))):=qL.out.drew.setCell (by show w.heap.size≤w.heap.size+1;omega) _;have HF6:Hid (fine T (k+1)):=NH HF.out HM.out (by rw[HZ.out,HO.out];exact HH.out);go_wp2_with fail
    go_region
    clear hq0 hq1 hq2 hq3;go_wp2_with fail
    go_roundw
    case rel=>exact⟨k+1,by omega,by go_num,HF6.out,VW.out,uH.out⟩
    case measure=>simp[intOf];omega
  have hmb:=FL hm;have HM:Hid (¬may T k):=hm;clear hm;generalize T.aB k=z at *;generalize T.off k=o at *;generalize T.tag k=t at *;go_wp2_with fail
  have jZ:Hid (ak (wr.alloc (.cells #[.int .i64 z,.int .i64 o,.string t] 160)).drew wr.heap.size 3 (jJ (.int .i64 z) (.int .i64 o) (.string t))):=(Od wr _ _ _ _).since (Since.refl _).drew;have jX:(fun W:World=>W.rangeAt wr.heap.size 0 [.int .i64 z,.int .i64 o,.string t]) (wr.alloc (.cells #[.int .i64 z,.int .i64 o,.string t] 160)).drew:=Bb jZ.out;refine wp_region_held (S:=fun W:World=>W.rangeAt wr.heap.size 0 [.int .i64 z,.int .i64 o,.string t]) (by kernel_rfl) ?_;refine takeD (i:=0) (d:=22) (v:=.agg #[.int .i64 z,.int .i64 o,.string t]) rfl rfl (by kernel_rfl) (by kernel_rfl) (by kernel_rfl) (fun _ _ _ h=>h) (yieldsIf_load_mid (by rfl) 160 _ (by rfl) wr.heap.size 0 (by rfl) _ _ (fun w hSw=>hSw) Tryz.underlying160 (by rfl) (by kernel_rfl)) jX ?r0;simp only[Act.put,List.setIfInBounds_toArray,List.set_cons_zero,List.set_cons_succ]
  refine wpAnyH_ready (rs:=[1]) (by kernel_rfl) (by simp) (AllReadyH.cons rfl (fun K hK=>?_) AllReadyH.nil);go_simp
  refine(vN _ _ _ _).mono ?_;rintro e w1 ⟨rfl,hS1⟩;rw[hmb];simp only[];have hS5:(fun W:World=>W.rangeAt wr.heap.size 0 [.int .i64 z,.int .i64 o,.string t]) w1:=Bb (jZ.out.since hS1);refine hK.out _ _ hS5 (fun _=>?_);clear hK K
  (try simp only[Act.put,List.setIfInBounds_toArray,List.set_cons_zero,List.set_cons_succ])
  refine takeD (i:=2) (d:=24) (v:=?v2) rfl rfl (by kernel_rfl) (by kernel_rfl) (by kernel_rfl) (fun _ _ _ h=>h) (Or.inl ⟨by rfl,?hy2⟩) hS5 ?r2
  case hy2=>(intro w _;go_simp;try with_reducible rfl)
  simp only[Act.put,List.setIfInBounds_toArray,List.set_cons_zero,List.set_cons_succ];refine takeD (i:=3) (d:=25) (v:=?v3) rfl rfl (by kernel_rfl) (by kernel_rfl) (by kernel_rfl) (fun _ _ _ h=>h) (Or.inl ⟨by rfl,?hy3⟩) hS5 ?r3
  case hy3=>(intro w _;go_simp;try with_reducible rfl)
  simp only[Act.put,List.setIfInBounds_toArray,List.set_cons_zero,List.set_cons_succ];refine takeD (i:=4) (d:=26) (v:=undef) rfl rfl (by kernel_rfl) (by kernel_rfl) (by kernel_rfl) (fun _ _ _ h=>h) (Or.inr ⟨eQ rfl rfl rfl rfl (by decide),rfl⟩) hS5 ?r4;simp only[Act.put,List.setIfInBounds_toArray,List.set_cons_zero,List.set_cons_succ];refine takeD (i:=5) (d:=27) (v:=undef) rfl rfl (by kernel_rfl) (by kernel_rfl) (by kernel_rfl) (fun _ _ _ h=>h) (Or.inr ⟨eQ rfl rfl rfl rfl (by decide),rfl⟩) hS5 ?r5;simp only[Act.put,List.setIfInBounds_toArray,List.set_cons_zero,List.set_cons_succ];refine takeD (i:=6) (d:=28) (v:=undef) rfl rfl (by kernel_rfl) (by kernel_rfl) (by kernel_rfl) (fun _ _ _ h=>h) (Or.inr ⟨eQ rfl rfl rfl rfl (by decide),rfl⟩) hS5 ?r6;simp only[Act.put,List.setIfInBounds_toArray,List.set_cons_zero,List.set_cons_succ]
  refine takeD (i:=7) (d:=29) (v:=undef) rfl rfl (by kernel_rfl) (by kernel_rfl) (by kernel_rfl) (fun _ _ _ h=>h) (Or.inr ⟨eQ rfl rfl rfl rfl (by decide),rfl⟩) hS5 ?r7;simp only[Act.put,List.setIfInBounds_toArray,List.set_cons_zero,List.set_cons_succ];refine takeD (i:=8) (d:=30) (v:=undef) rfl rfl (by kernel_rfl) (by kernel_rfl) (by kernel_rfl) (fun _ _ _ h=>h) (Or.inr ⟨eQ rfl rfl rfl rfl (by decide),rfl⟩) hS5 ?r8;simp only[Act.put,List.setIfInBounds_toArray,List.set_cons_zero,List.set_cons_succ];refine takeD (i:=9) (d:=31) (v:=undef) rfl rfl (by kernel_rfl) (by kernel_rfl) (by kernel_rfl) (fun _ _ _ h=>h) (Or.inr ⟨eQ rfl rfl rfl rfl (by decide),rfl⟩) hS5 ?r9;simp only[Act.put,List.setIfInBounds_toArray,List.set_cons_zero,List.set_cons_succ]
  refine takeD (i:=10) (d:=32) (v:=undef) rfl rfl (by kernel_rfl) (by kernel_rfl) (by kernel_rfl) (fun _ _ _ h=>h) (Or.inr ⟨eQ rfl rfl rfl rfl (by decide),rfl⟩) hS5 ?r10;simp only[Act.put,List.setIfInBounds_toArray,List.set_cons_zero,List.set_cons_succ];refine takeD (i:=11) (d:=33) (v:=?v11) rfl rfl (by kernel_rfl) (by kernel_rfl) (by kernel_rfl) (fun _ _ _ h=>h) (Or.inl ⟨by rfl,?hy11⟩) hS5 ?r11
  case hy11=>(intro w _;go_simp;try with_reducible rfl)
  simp only[Act.put,List.setIfInBounds_toArray,List.set_cons_zero,List.set_cons_succ];refine wpAnyH_done (by kernel_rfl) ?_ _;have HB:Hid (FP T=false):=sZ (fun h=>CE HN.out (Or.inl HM.out) hlt h.2);have qL:Hid (Since w w1):=(jV.out.alloc _).drew.trans hS1;clear jX hS5 hS1 jZ hix hnb hmb;go_wp2_with fail
  go_ret;exact⟨by rw[HB.out];rfl,qL.out⟩
 have hke:k=24:=by omega
 subst hke;have HB:Hid (FP T=true):=CW ⟨qU.out,HF.out⟩;go_wp2_with fail
 go_ret;exact⟨by rw[HB.out];rfl,jV.out⟩
theorem kQ (T:Tb) (w:World):Calls Tryz.prog 242 #[bE T] w fun e w'=>e=.returned (.bool (FP T))∧Since w w':=by
 by_cases h:1≤T.count∧T.count≤1099511627776
 ·exact FR T w h.1 h.2
 rw[sZ (fun hr=>h hr.1)];exact CY T w (by omega)
end Tw
end Go.Proofs.YtmhcfaaggkidjaaGreatDoor
end
section
namespace Go.Proofs.YtmhcfaaggkidjaaGreatDoor
set_option maxRecDepth 100000
namespace Tw
open Go.RowKit
def FT (s:ByteArray) (i:Nat):Int:=if sb s (24+18*i)=255 then 0 else ((sb s (24+18*i)).toNat:Int)
def FU (s:ByteArray) (i:Nat):Int:=if sb s (24+18*i)=255 then 0 else ((sb s (25+18*i)).toNat:Int)
def FV (s:ByteArray) (i:Nat):ByteArray:=if sb s (24+18*i)=255 then ⟨#[]⟩ else s.extract (26+18*i) (42+18*i)
def cK (s:ByteArray) (k:Nat):Tb where
 count:=wrap64 (eD s 16 8:Int)
 aB i:=if i<k then FT s i else 0
 off i:=if i<k then FU s i else 0
 tag i:=if i<k then FV s i else ⟨#[]⟩
def rd (s:ByteArray):Tb:=cK s 24
theorem FW (s:ByteArray) (a b j:Nat) (h:a+j<b):sb (s.extract a b) j=if a+j<s.size then sb s (a+j) else 0:=by
 have hsz:s.data.size=s.size:=rfl;unfold sb;rw[ByteArray.data_extract,Array.getElem?_extract];by_cases h2:a+j<s.size
 ·rw[if_pos h2,if_pos (by omega)]
 rw[if_neg h2,if_neg (by omega)]
 rfl
theorem lH (s:ByteArray) (a b j:Nat) (h:a+j<b) (hb:b≤s.size):sb (s.extract a b) j=sb s (a+j):=by
 rw[FW s a b j h,if_pos (by omega)]
theorem zJ (s:ByteArray) (a b c:Nat) (hb:b≤s.size):∀k,a+c+k≤b→eD (s.extract a b) c k=eD s (a+c) k:=by
 intro k;induction k with
 | zero=>intro _;rfl
 | succ k ih=>
  intro h;unfold eD;rw[ih (by omega),lH s a b (c+k) (by omega) hb,show a+(c+k)=a+c+k by omega]
theorem Jn (s:ByteArray) (a b c d:Nat) (h:a+d≤b):(s.extract a b).extract c d=s.extract (a+c) (a+d):=by
 apply ByteArray.ext
 rw[ByteArray.data_extract,ByteArray.data_extract,ByteArray.data_extract,Array.extract_extract]
 congr 1
 omega
theorem WY {T U:Tb} (h0:T.count=U.count) (h1:T.aB=U.aB) (h2:T.off=U.off) (h3:T.tag=U.tag):T=U:=by
 cases T
 cases U
 dsimp only at h0 h1 h2 h3;subst h0 h1 h2 h3
 rfl
theorem WZ (s:ByteArray) (h:456≤s.size):rd (s.extract 0 456)=rd s:=by
 have e1:eD (s.extract 0 456) 16 8=eD s 16 8:=by rw[zJ s 0 456 16 h 8 (by omega),Nat.zero_add]
 have e2:∀j,j<456→sb (s.extract 0 456) j=sb s j:=fun j hj=>by rw[lH s 0 456 j (by omega) h,Nat.zero_add]
 have e3:∀c d,d≤456→(s.extract 0 456).extract c d=s.extract c d:=fun c d hd=>by rw[Jn s 0 456 c d (by omega),Nat.zero_add,Nat.zero_add]
 have f0:(cK (s.extract 0 456) 24).count=(cK s 24).count:=by
  show wrap64 ((eD (s.extract 0 456) 16 8:Nat):Int)=wrap64 ((eD s 16 8:Nat):Int)
  rw[e1]
 have f1:(cK (s.extract 0 456) 24).aB=(cK s 24).aB:=by
  funext i
  show (if i<24 then FT (s.extract 0 456) i else 0)=if i<24 then FT s i else 0
  split
  ·unfold FT;rw[e2 _ (by omega)]
  rfl
 have f2:(cK (s.extract 0 456) 24).off=(cK s 24).off:=by
  funext i
  show (if i<24 then FU (s.extract 0 456) i else 0)=if i<24 then FU s i else 0
  split
  ·unfold FU;rw[e2 _ (by omega),e2 _ (by omega)]
  rfl
 have f3:(cK (s.extract 0 456) 24).tag=(cK s 24).tag:=by
  funext i
  show (if i<24 then FV (s.extract 0 456) i else ⟨#[]⟩)=if i<24 then FV s i else ⟨#[]⟩
  split
  ·unfold FV;rw[e2 _ (by omega),e3 _ _ (by omega)]
  rfl
 exact WY f0 f1 f2 f3
theorem Ol (s:ByteArray) (k:Nat) (hk:k<24) (h:456≤s.size):CS (s.extract (24+18*k) (42+18*k))=FT s k∧Ob (s.extract (24+18*k) (42+18*k))=FU s k∧Oc (s.extract (24+18*k) (42+18*k))=FV s k:=by
 have e0:sb (s.extract (24+18*k) (42+18*k)) 0=sb s (24+18*k):=by rw[lH s _ _ 0 (by omega) (by omega),Nat.add_zero]
 have e1:sb (s.extract (24+18*k) (42+18*k)) 1=sb s (25+18*k):=by rw[lH s _ _ 1 (by omega) (by omega),show 24+18*k+1=25+18*k by omega]
 have e2:(s.extract (24+18*k) (42+18*k)).extract 2 18=s.extract (26+18*k) (42+18*k):=by rw[Jn s _ _ 2 18 (by omega),show 24+18*k+2=26+18*k by omega,show 24+18*k+18=42+18*k by omega]
 unfold CS Ob Oc FT FU FV;rw[e0,e1,e2];exact⟨rfl,rfl,rfl⟩
theorem Om (s:ByteArray) (k:Nat) (hk:k<24) (j:Nat) (hj:j<73) :
  aZ (aZ (aZ (af (cK s k)) (1+k*3) (.int .i64 (FT s k))) (1+k*3+1) (.int .i64 (FU s k))) (1+k*3+2) (.string (FV s k)) j=af (cK s (k+1)) j:=by
 by_cases e2:j=1+k*3+2
 ·subst e2;rw[kJ _ k 2 (by omega)];simp[aZ,gy,cK]
 by_cases e1:j=1+k*3+1
 ·subst e1;rw[kJ _ k 1 (by omega)];unfold aZ;rw[if_neg e2,if_pos rfl];simp[gy,cK]
 by_cases e0:j=1+k*3
 ·subst e0;rw[show af (cK s (k+1)) (1+k*3)=gy (cK s (k+1)) k 0 from kJ (cK s (k+1)) k 0 (by omega)];unfold aZ;rw[if_neg e2,if_neg e1,if_pos rfl];simp[gy,cK]
 unfold aZ;rw[if_neg e2,if_neg e1,if_neg e0];unfold af;split
 ·rfl
 have hne:(j-1) / 3≠k:=by omega
 have hq:∀{α:Type} (x y:α),(if (j-1) / 3<k then x else y)=if (j-1) / 3<k+1 then x else y:=fun x y=>by
  by_cases h1:(j-1) / 3<k
  ·rw[if_pos h1,if_pos (by omega)]
  rw[if_neg h1,if_neg (by omega)]
 unfold gy cK;dsimp only;rw[hq,hq,hq]
theorem Bd:Tryz.zeroCells163=(aa 73 (af Tb.zero)).toArray:=by kernel_rfl
theorem CZ (j:Nat) (hj:j<73):Tryz.zeroCells163[j]?=some (af Tb.zero j):=by
 rw[Bd,List.getElem?_toArray];exact aU _ _ _ hj
theorem cO (w:World) (b:Nat) (hb:b=w.heap.size):ak (w.alloc (.cells Tryz.zeroCells163 163)) b 73 (af Tb.zero):=ak.new w _ _ _ _ CZ _ hb
theorem Da (s:ByteArray):Tryz.zeroCells163.toList.set 0 (.int .i64 (wrap64 (eD s 16 8:Int)))=aa 73 (af (cK s 0)):=by
 have hz:Tryz.zeroCells163.toList=aa 73 (af Tb.zero):=by rw[Bd]
 rw[hz];apply qO
 ·rw[List.length_set,ag]
 intro j hj;rw[List.getElem?_set];by_cases e:0=j
 ·subst e;rw[if_pos rfl,if_pos (by rw[ag];omega)];unfold af;rw[if_pos rfl];unfold cK;dsimp only
 rw[if_neg e,aU _ _ _ hj];unfold af;rw[if_neg (by omega),if_neg (by omega)];unfold gy cK Tb.zero;dsimp only;rw[if_neg (Nat.not_lt_zero _),if_neg (Nat.not_lt_zero _),if_neg (Nat.not_lt_zero _)]
theorem kR (T:Tb) (j:Nat):(af T j).oneCell'=true:=by
 unfold af gy;split
 ·rfl
 split
 ·rfl
 split<;>rfl
set_option maxHeartbeats 4000000 in
theorem jK (s:ByteArray) (w:World) (hs:s.size=456):Calls Tryz.prog 276 #[.string s] w fun e w'=>e=.returned (bE (rd s))∧Since w w':=by
 have hI:(s.size:Int)=456:=by omega
 have z1:(s.extract 16 24).size=8:=by rw[ByteArray.size_extract];omega
 have HN:Hid (∀W,Calls Tryz.prog 299 #[.string (s.extract 16 24)] W fun e w'=>e=.returned (.int .i64 (wrap64 (eD s 16 8:Int)))∧w'=W):=fun W=>by
  have:=pY (s.extract 16 24) W z1;rw[zJ s 16 24 0 (by omega) 8 (by omega),Nat.add_zero] at this;exact this
 have hC0:=(cO w w.heap.size rfl).since ((Since.refl _).alloc (.cells Tryz.zeroCells163 163));have vO:=cO (w.alloc (.cells Tryz.zeroCells163 163)) (w.heap.size+1) (by simp);have hst:=vO.store Tryz.prog 0 73 (by omega) (af (cK s 0)) (fun j _=>kR _ j);have hC2:=vO.setRow 0 73 (by omega) (af (cK s 0));have fT:=hC2.congr (g:=af (cK s 0)) (fun j hj=>by unfold dF;rw[if_pos (by omega)];rfl);have pg:=hC0.setRow_other (b':=w.heap.size+1) (o':=0) (aa 73 (af (cK s 0))) (by omega);have hS:Since w (((w.alloc (.cells Tryz.zeroCells163 163)).alloc (.cells Tryz.zeroCells163 163)).setCells (w.heap.size+1) 0 (aa 73 (af (cK s 0)))):=(((Since.refl w).alloc _).alloc _).setCells (by omega) _ _
 have jZ:Hid (ak (((w.alloc (.cells Tryz.zeroCells163 163)).alloc (.cells Tryz.zeroCells163 163)).setCells (w.heap.size+1) 0 (aa 73 (af (cK s 0)))) (w.heap.size+1) 73 (af (cK s 0))):=fT;have yO:Hid (ak (((w.alloc (.cells Tryz.zeroCells163 163)).alloc (.cells Tryz.zeroCells163 163)).setCells (w.heap.size+1) 0 (aa 73 (af (cK s 0)))) w.heap.size 73 (af Tb.zero)):=pg;have HS:Hid (Since w (((w.alloc (.cells Tryz.zeroCells163 163)).alloc (.cells Tryz.zeroCells163 163)).setCells (w.heap.size+1) 0 (aa 73 (af (cK s 0))))):=hS;clear hC0 vO hC2 fT pg hS;generalize ((w.alloc (.cells Tryz.zeroCells163 163)).alloc (.cells Tryz.zeroCells163 163)).setCells (w.heap.size+1) 0 (aa 73 (af (cK s 0)))=w2 at *;rw[←Da] at hst;go_enter Tryz.func276,Tryz.ntmps276
 go_wp2_with fail
 refine(HN.out _).mono ?_;rintro e w1 ⟨rfl,hw1⟩;subst hw1;go_wp2_with fail
 clear hst HN z1;go_loopw [10,4,5] (fun i _ _ wr=>∃k:Nat,k≤24∧i=.int .i64 k∧ak wr (w.heap.size+1) 73 (af (cK s k))∧ak wr w.heap.size 73 (af Tb.zero)∧Since w wr) (fun i _ _ _=>24-(intOf i).toNat)
 case atStart=>exact⟨0,by omega,rfl,jZ.out,yO.out,HS.out⟩
 obtain⟨k,hk,rfl,hc,hd,hs2⟩:=hrel;have HCK:Hid (ak wr (w.heap.size+1) 73 (af (cK s k))):=hc;have HDK:Hid (ak wr w.heap.size 73 (af Tb.zero)):=hd;have jV:Hid (Since w wr):=hs2;clear hc hd hs2;by_cases hlt:k<24
 ·have hlt2:(k:Int)<24:=by omega
  have g1:(24:Int)+(k:Int)*18=((24+18*k:Nat):Int):=by omega
  have g2:((24+18*k:Nat):Int)+18=((42+18*k:Nat):Int):=by omega
  have g3:((42+18*k:Nat):Int)≤456:=by omega
  have z2:(s.extract (24+18*k) (42+18*k)).size=18:=by rw[ByteArray.size_extract];omega
  have Zl:Hid (∀W,Calls Tryz.prog 300 #[.string (s.extract (24+18*k) (42+18*k))] W fun e w'=>e=.returned (.agg #[.int .i64 (FT s k),.int .i64 (FU s k),.string (FV s k)])∧Since W w'):=fun W=>by
   have:=Oe (s.extract (24+18*k) (42+18*k)) W z2;obtain⟨c1,c2,c3⟩:=Ol s k hlt (by omega);rw[c1,c2,c3] at this;exact this
  go_wp2_with fail
  rw[show 24+18*k+18=42+18*k by omega];refine(Zl.out _).mono ?_;rintro e w4 ⟨rfl,h4⟩;have Bc:Hid (ak w4 (w.heap.size+1) 73 (af (cK s k))):=HCK.out.since h4;have HD5:Hid (ak w4 w.heap.size 73 (af Tb.zero)):=HDK.out.since h4;have qL:Hid (Since w w4):=jV.out.trans h4;clear h4 Zl g1 g2 g3 z2;have q0:=Bc.out.cell (1+k*3) (by omega);have q1:=Bc.out.cell (1+k*3+1) (by omega);have q2:=Bc.out.cell (1+k*3+2) (by omega);have f0:=Bc.out.frozen (1+k*3) (by omega);have f1:=Bc.out.frozen (1+k*3+1) (by omega);have f2:=Bc.out.frozen (1+k*3+2) (by omega);have wK:=((Bc.out.set (1+k*3) (by omega) (.int .i64 (FT s k))).set (1+k*3+1) (by omega) (.int .i64 (FU s k))).set (1+k*3+2) (by omega) (.string (FV s k))
  have Xa:Hid (ak (((w4.setCell ⟨w.heap.size+1,1+k*3,none⟩ (.int .i64 (FT s k))).setCell ⟨w.heap.size+1,1+k*3+1,none⟩ (.int .i64 (FU s k))).setCell ⟨w.heap.size+1,1+k*3+2,none⟩ (.string (FV s k))) (w.heap.size+1) 73 (af (cK s (k+1)))):=wK.congr (fun j hj=>Om s k hlt j hj);have HD6:Hid (ak (((w4.setCell ⟨w.heap.size+1,1+k*3,none⟩ (.int .i64 (FT s k))).setCell ⟨w.heap.size+1,1+k*3+1,none⟩ (.int .i64 (FU s k))).setCell ⟨w.heap.size+1,1+k*3+2,none⟩ (.string (FV s k))) w.heap.size 73 (af Tb.zero)):=((HD5.out.other (by show w.heap.size+1≠w.heap.size;omega) _).other (by show w.heap.size+1≠w.heap.size;omega) _).other (by show w.heap.size+1≠w.heap.size;omega) _
  have uH:Hid (Since w (((w4.setCell ⟨w.heap.size+1,1+k*3,none⟩ (.int .i64 (FT s k))).setCell ⟨w.heap.size+1,1+k*3+1,none⟩ (.int .i64 (FU s k))).setCell ⟨w.heap.size+1,1+k*3+2,none⟩ (.string (FV s k)))):=((qL.out.setCell (by show w.heap.size≤w.heap.size+1;omega) _).setCell (by show w.heap.size≤w.heap.size+1;omega) _).setCell (by show w.heap.size≤w.heap.size+1;omega) _;clear wK;go_wp2_with fail
  go_roundw
  case rel=>exact⟨k+1,by omega,by go_num,Xa.out,HD6.out,uH.out⟩
  case measure=>simp[intOf];omega
 have hke:k=24:=by omega
 subst hke;have hR:=dD HCK.out;have hL:(aa 73 (af (cK s 24))).length=73:=ag _ _;have hst:=HDK.out.store Tryz.prog 0 73 (by omega) (af (cK s 24)) (fun j _=>kR _ j);have HR2:Hid ((wr.setCells w.heap.size 0 (aa 73 (af (cK s 24)))).rangeAt w.heap.size 0 (aa 73 (af (cK s 24)))):=dD ((HDK.out.setRow 0 73 (by omega) (af (cK s 24))).congr (g:=af (cK s 24)) (fun j hj=>by unfold dF;rw[if_pos (by omega)];rfl));have HS2:Hid (Since w (wr.setCells w.heap.size 0 (aa 73 (af (cK s 24))))):=jV.out.setCells (Nat.le_refl _) _ _;have HV:Hid (bE (rd s)=.agg (aa 73 (af (cK s 24))).toArray):=show bE (rd s)=_ from rfl
 generalize aa 73 (af (cK s 24))=cs at *;go_wp2_with (refine wpList_load_mid (by rfl) 163 _ (by rfl) (w.heap.size+1) 0 (by rfl) _ _ hR Tryz.underlying163 (by rfl) (by rw[hL];kernel_rfl) ?_)
 exact bodyPost_ret (aQ Tryz.results276 _ _ _ w.heap.size _ _ (by rfl) HR2.out Tryz.underlying163 (by rfl) (by rw[hL];kernel_rfl)) rfl ⟨by rw[HV.out],HS2.out⟩
end Tw
end Go.Proofs.YtmhcfaaggkidjaaGreatDoor
end
section
namespace Go.Proofs.YtmhcfaaggkidjaaGreatDoor
set_option maxRecDepth 100000
namespace Tw
open Go.RowKit
open Sm (jW kS lG cB bP uB gZ bD)
def two (a b:ByteArray):Nat→ByteArray:=fun j=>if j=0 then a else b
theorem oo (s:ByteArray):(cB s).size=16:=by
 unfold cB;have h:(strOfNums (gZ s).bytes).size=32:=by rw[strOfNums_size];rfl
 simp[ByteArray.size_extract,h]
theorem tq (w:World) (a b:ByteArray) (t:TypeId) (j:Nat) (hj:j<2):(w.alloc (.cells #[.string a,.string b] t)).cell? ⟨w.heap.size,0+j,none⟩=some (.string (two a b j)):=by
 rw[Nat.zero_add,World.cell?_alloc_new]
 match j,hj with
 | 0,_=>rfl
 | 1,_=>rfl
theorem wN (a b:ByteArray) (ha:a.size≤900) (hb:b.size≤900) (j:Nat):(two a b j).size≤900:=by
 unfold two;split<;>assumption
def hd (T:Tb):ByteArray:=strOfNums (uB (T.count % 18446744073709551616))
theorem vP (T:Tb):(hd T).size=8:=by unfold hd;rw[strOfNums_size];rfl
def dY (T:Tb) (k:Nat):List UInt8:=(hd T).data.toList++mM T k
theorem zL {T:Tb} {n:Nat} (h:fine T n) (k:Nat) (hk:k≤n):(dY T k).length=8+18*k:=by
 have h8:(hd T).data.size=8:=vP T;unfold dY;rw[List.length_append,wo h k hk,Array.length_toList,h8]
theorem Ga (T:Tb) (k:Nat):dY T (k+1)=dY T k++cellL T k:=by
 unfold dY;rw[mO,List.append_assoc]
def body (T:Tb):ByteArray:=⟨(dY T 24).toArray⟩
theorem kU {T:Tb} (h:fine T 24):(body T).size=440:=by
 show (dY T 24).toArray.size=440
 rw[List.size_toArray,zL h 24 (Nat.le_refl _)]
def YN (key b:ByteArray):ByteArray:=cB ⟨(bP 116 (two key b) 2).toArray⟩
theorem qV (key b:ByteArray):(YN key b).size=16:=oo _
def text (key:ByteArray) (T:Tb):ByteArray:=YN key (body T)++body T
theorem jh {key:ByteArray} {T:Tb} (h:fine T 24):(text key T).size=456:=by
 unfold text;rw[ByteArray.size_append,qV,kU h]
set_option maxHeartbeats 1000000 in
theorem KD (key:ByteArray) (T:Tb) (w:World) (h:key.size=32) (hr:FP T=false) :
  Calls Tryz.prog 187 #[.string key,bE T] w fun e w'=>e=.returned (.tuple #[.string ⟨#[]⟩,.iface 32 (.int .i64 1)])∧Since w w':=by
 have e1:(key.size:Int)=32:=by omega
 have hR:=dD (fK T w);have zM:=fun W=>kQ T W
 rw[hr] at zM;have HRI:Hid (∀W,Calls Tryz.prog 242 #[bE T] W fun e w'=>e=.returned (.bool false)∧Since W w'):=zM;clear zM hr;have hL:(aa 73 (af T)).length=73:=ag _ _;unfold bE at *;generalize aa 73 (af T)=cs at *;have HS:Hid (Since w (w.alloc (.cells cs.toArray 163))):=(Since.refl w).alloc _;go_enter Tryz.func187,Tryz.ntmps187
 go_wp2_with fail
 refine wp_load_mid 163 _ (by rfl) w.heap.size 0 (by rfl) _ _ hR Tryz.underlying163 (by rfl) (by rw[hL];kernel_rfl) ?_;clear hR hL;go_wp2_with fail
 refine(HRI.out _).mono ?_;rintro e w1 ⟨rfl,h1⟩;go_wp2_with fail
 go_ret2;exact⟨rfl,HS.out.trans h1⟩
end Tw
end Go.Proofs.YtmhcfaaggkidjaaGreatDoor
end
section
namespace Go.Proofs.YtmhcfaaggkidjaaGreatDoor
set_option maxRecDepth 100000
namespace Tw
open Go.RowKit
open Sm (jW kS lG cB bP uB gZ bD)
theorem Jr {T:Tb} {n k:Nat} (h:fine T n) (hk:k<n):gJ T k∨may T k:=by
 rcases h k hk with h1 | h1
 ·exact Or.inl h1
 exact Or.inr h1.1
set_option maxHeartbeats 4000000 in
theorem wO (key:ByteArray) (T:Tb) (w:World) (h:key.size=32) (hr:Rt T) (hT:jW w) :
  Calls Tryz.prog 187 #[.string key,bE T] w fun e w'=>e=.returned (.tuple #[.string (text key T),.nilIface])∧Since w w':=by
 have e1:(key.size:Int)=32:=by omega
 have YO:Hid (Rt T):=hr;have HT:Hid (jW w):=hT;have hC:=fK T w;have hR:=dD hC;have zM:=fun W=>kQ T W
 rw[CW hr] at zM;have HRI:Hid (∀W,Calls Tryz.prog 242 #[bE T] W fun e w'=>e=.returned (.bool true)∧Since W w'):=zM;clear zM hr hT;have hL:(aa 73 (af T)).length=73:=ag _ _;unfold bE at *;generalize aa 73 (af T)=cs at *;have HC:Hid (ak (w.alloc (.cells cs.toArray 163)) w.heap.size 73 (af T)):=hC;have HS:Hid (Since w (w.alloc (.cells cs.toArray 163))):=(Since.refl w).alloc _;clear hC;go_enter Tryz.func187,Tryz.ntmps187
 go_wp2_with fail
 refine wp_load_mid 163 _ (by rfl) w.heap.size 0 (by rfl) _ _ hR Tryz.underlying163 (by rfl) (by rw[hL];kernel_rfl) ?_;clear hR hL;go_wp2_with fail
 refine(HRI.out _).mono ?_;rintro e w1 ⟨rfl,h1⟩;have qU:Hid (ak w1 w.heap.size 73 (af T)):=HC.out.since h1;have bY:Hid (Since w w1):=HS.out.trans h1;clear HS HC h1 HRI;have hl1:w.heap.size<w1.heap.size:=qU.out.lt (by omega);have hB0:Lib.IsBuilderF 40 5 w1.heap.size w1.heap.size [] (w1.alloc (.cells #[.pointer none,.slice none 0 0] 40)):=Lib.IsBuilderF.of (Lib.fresh_isBuilder 40 5 w1);have HB0:Hid (Lib.IsBuilderF 40 5 w1.heap.size w1.heap.size [] (w1.alloc (.cells #[.pointer none,.slice none 0 0] 40))):=hB0;have HS2:Hid (Since w1 (w1.alloc (.cells #[.pointer none,.slice none 0 0] 40))):=(Since.refl w1).alloc _;clear hB0;have q0:=(qU.out.since HS2.out).cell 0 (by omega);rw[show af T 0=.int .i64 T.count from rfl] at q0;go_wp2_with fail
 refine(lG _ _).mono ?_;rintro e w2 ⟨rfl,h2⟩;have HHD:strOfNums (uB (T.count % 18446744073709551616))=hd T:=rfl;rw[HHD];clear HHD q0;have HB2:Hid (Lib.IsBuilderF 40 5 w1.heap.size w1.heap.size [] w2):=bD HB0.out h2;have iw:Hid (Since w1 w2):=HS2.out.trans h2;clear h2 HB0 HS2;have h8:=vP T;have Wi:(dY T 0)=(hd T).data.toList:=by unfold dY;rw[CF,List.append_nil]
 have HL0:Hid ((dY T 0)=(hd T).data.toList):=Wi;clear Wi;generalize hd T=H at *;go_wp2_with fail
 refine(bq w1.heap.size w1.heap.size [] H _ HB2.out (by simp;omega) iw.out.size).mono ?_;rintro e w3 ⟨rfl,h3,b3,_⟩;have HB3:Hid (Lib.IsBuilderF 40 5 w1.heap.size w1.heap.size (Lib.byteCells (dY T 0)) w3):=by
  refine Or.inr ?_;rw[Lib.strCells_eq] at h3;rw[HL0.out]
  simpa [Lib.byteCells] using h3
 have iY:Hid (Since w1 w3):=Below.trans iw.out b3;clear h3 b3 HB2 iw HL0;have hR:=jg (qU.out.since iY.out);have hL:(aa 72 (bO T)).length=72:=ag _ _;have Nw:Hid (∀(k:Nat) (hk:k<24) (w:World),(Instr.index 161 (.agg (aa 72 (bO T)).toArray) (.int .i64 (k:Int))).run Tryz.prog w=.ok (.agg #[.int .i64 (T.aB k),.int .i64 (T.off k),.string (T.tag k)]) w):=fun k hk w=>kN T k hk w
 generalize hcs:aa 72 (bO T)=cs2 at *;clear hcs;go_wp2_with (refine wpList_load_mid (by rfl) 161 _ (by rfl) w.heap.size 1 (by rfl) _ _ hR Tryz.underlying161 (by rfl) (by rw[hL];kernel_rfl) ?_)
 clear hR hL;go_loopw [24] (fun i wr=>∃k:Nat,k≤24∧i=.int .i64 k∧Lib.IsBuilderF 40 5 w1.heap.size w1.heap.size (Lib.byteCells (dY T k)) wr∧Since w1 wr) (fun i _=>24-(intOf i).toNat)
 case atStart=>exact⟨0,by omega,rfl,HB3.out,iY.out⟩
 obtain⟨k,hk,rfl,hb,hs⟩:=hrel;have Sq:Hid (Lib.IsBuilderF 40 5 w1.heap.size w1.heap.size (Lib.byteCells (dY T k)) wr):=hb;have jV:Hid (Since w1 wr):=hs;clear hb hs;by_cases hlt:k<24
 ·have hlt2:(k:Int)<24:=by omega
  have hix:=Nw.out k hlt;have HWR:Hid (∀W,Calls Tryz.prog 243 #[.agg #[.int .i64 (T.aB k),.int .i64 (T.off k),.string (T.tag k)]] W fun e w'=>e=.returned (.string ⟨(cellL T k).toArray⟩)∧Since W w'):=fun W=>jY T k W (Jr YO.out.2 hlt)
  have HLS:Hid ((dY T k).length≤1000):=by have:=zL YO.out.2 k (by omega);show (dY T k).length≤1000;omega
  have HLC:Hid ((cellL T k).length=18):=zC YO.out.2 k hlt;have Gb:Hid (dY T (k+1)=dY T k++cellL T k):=Ga T k;generalize T.aB k=z at *;generalize T.off k=o at *;generalize T.tag k=t at *;generalize cellL T k=c at *;go_wp2_with fail
  refine(HWR.out _).mono ?_;rintro e w4 ⟨rfl,h4⟩;have Ny:Hid (Lib.IsBuilderF 40 5 w1.heap.size w1.heap.size (Lib.byteCells (dY T k)) w4):=bD Sq.out (((Since.refl _).alloc _).trans h4);have qL:Hid (Since w1 w4):=(jV.out.alloc _).trans h4;clear h4 hix HWR;go_wp2_with fail
  refine(bq w1.heap.size w1.heap.size _ ⟨c.toArray⟩ _ Ny.out (by rw[Lib.byteCells_length];have h1:=HLS.out;have h2:=HLC.out;show _+c.toArray.size≤_;rw[List.size_toArray];omega) qL.out.size).mono ?_;rintro e w5 ⟨rfl,h5,b5,_⟩;have De:Hid (Lib.IsBuilderF 40 5 w1.heap.size w1.heap.size (Lib.byteCells (dY T (k+1))) w5):=by
   refine Or.inr ?_;rw[Lib.strCells_eq] at h5;rw[Gb.out]
   simpa [Lib.byteCells] using h5
  have uH:Hid (Since w1 w5):=Below.trans qL.out b5;clear h5 b5;go_wp2_with fail
  go_roundw
  case rel=>exact⟨k+1,by omega,by go_num,De.out,uH.out⟩
  case measure=>simp[intOf];omega
 have hke:k=24:=by omega
 subst hke;have Xd:Hid ((⟨(dY T 24).toArray⟩:ByteArray)=body T):=rfl;have hbs:=kU YO.out.2;have HM:Hid (YN key (body T)++body T=text key T):=rfl;go_wp2_with fail
 refine(jF w1.heap.size w1.heap.size _ _ Sq.out jV.out.size).mono ?_;rintro e w2' ⟨rfl,hb2,b2,_⟩;rw[Xd.out];have HB2:Hid (Lib.IsBuilderF 40 5 w1.heap.size w1.heap.size (Lib.byteCells (dY T 24)) w2'):=hb2;have Xe:Hid (Since w1 w2'):=Below.trans jV.out b2;clear hb2 b2;have hms:=qV key (body T);generalize hbd:body T=bd at *;have HBD:Hid (body T=bd):=hbd;clear hbd;go_wp2_with fail
 have hm:=kS 116 w2'.heap.size 0 2 2 (two key bd) (w2'.alloc (.cells #[.string key,.string bd] 9)) (by omega) (fun j _=>wN key bd (by omega) (by omega) j) (HT.out.since (bY.out.trans (Xe.out.alloc _))) (fun j hj=>tq w2' key bd 9 j hj);rw[show ((116:UInt8).toNat:Int)=116 from rfl] at hm;refine hm.mono ?_;clear hm;rintro e w6 ⟨rfl,h6⟩;have Su:cB ⟨(bP 116 (two key bd) 2).toArray⟩=YN key bd:=rfl;rw[Su];clear Su;have HB6:Hid (Lib.IsBuilderF 40 5 w1.heap.size w1.heap.size (Lib.byteCells (dY T 24)) w6):=bD HB2.out (((Since.refl _).alloc _).trans h6);have uH:Hid (Since w1 w6):=(Xe.out.alloc _).trans h6;clear h6;generalize hmk:YN key bd=M at *;have Su:Hid (YN key bd=M):=hmk;clear hmk;go_wp2_with fail
 refine(jF w1.heap.size w1.heap.size _ _ HB6.out uH.out.size).mono ?_;rintro e w7 ⟨rfl,_,b7,_⟩;rw[Xd.out];have Wj:Hid (Since w w7):=bY.out.trans (Below.trans uH.out b7);clear b7;have hsum:M.size+bd.size≤9223372036854775807:=by omega
 go_wp2_with fail
 go_ret2;exact⟨by rw[←HM.out];rfl,Wj.out⟩
end Tw
end Go.Proofs.YtmhcfaaggkidjaaGreatDoor
end
section
namespace Go.Proofs.YtmhcfaaggkidjaaGreatDoor
set_option maxRecDepth 100000
namespace Tw
open Go.RowKit
open Sm (jW)
theorem Be:Tryz.zeroCells163.toList=aa 73 (af Tb.zero):=by rw[Bd]
theorem aY {fn:Func} {p q:Tmp} {ty:TypeId} (h:fn.results=#[.cell p ty,.tmp q]) (tmps:Array Value) (P:Program) (w:World) (b:Nat) (cs:List Value) (d:TypeDesc) (v:Value)
  (hx:tmps.getD p undef=.pointer (some ⟨b,0,none⟩)) (hc:w.rangeAt b 0 cs) (hu:P.underlying ty=some d) (hd:d.isRow=true) (hi:(P.info? ty).map (·.size)=some cs.length) (hq:tmps.getD q undef=v) :
  (results fn tmps).run P w=.ok (.tuple #[.agg cs.toArray,v]) w:=by
 simp only[results,h];have h1:=run_loadVar_mid (P:=P) w b 0 ty cs d hc hu hd hi;have h2:tmps[p]?.getD undef=.pointer (some ⟨b,0,none⟩):=by simpa using hx
 have h3:tmps[q]?.getD undef=v:=by simpa using hq
 simp[asAddr,h2,h1,h3]
theorem fU {w:World} {b:Nat} {T:Tb} (h:ak w b 73 (af T)) (U:Tb):(storeCells ⟨b,0,none⟩ (aa 73 (af U))).run Tryz.prog w=.ok () (w.setCells b 0 (aa 73 (af U)))∧ak (w.setCells b 0 (aa 73 (af U))) b 73 (af U):=
 ⟨h.store Tryz.prog 0 73 (by omega) (af U) (fun j _=>kR _ j),(h.setRow 0 73 (by omega) (af U)).congr (fun j hj=>by unfold dF;rw[if_pos (by omega)];rfl)⟩
theorem kr {w:World} {b:Nat} {T:Tb} (h:ak w b 73 (af T)):(storeCells ⟨b,0,none⟩ Tryz.zeroCells163.toList).run Tryz.prog w=.ok () (w.setCells b 0 Tryz.zeroCells163.toList)∧(w.setCells b 0 Tryz.zeroCells163.toList).rangeAt b 0 (aa 73 (af Tb.zero)):=by
 rw[Be];exact⟨(fU h _).1,dD (fU h _).2⟩
set_option maxHeartbeats 1000000 in
theorem Wl (key s:ByteArray) (w:World) (h:key.size=32) (hs:s.size<456) :
  Calls Tryz.prog 221 #[.string key,.string s] w fun e w'=>e=.returned (.tuple #[bE Tb.zero,.iface 32 (.int .i64 15)])∧Since w w':=by
 have e1:(key.size:Int)=32:=by omega
 have e2:(s.size:Int)<456:=by omega
 obtain⟨hst,hR⟩:=kr (cO w w.heap.size rfl);have HR:Hid (((w.alloc (.cells Tryz.zeroCells163 163)).setCells w.heap.size 0 Tryz.zeroCells163.toList).rangeAt w.heap.size 0 (aa 73 (af Tb.zero))):=hR;have HS:Hid (Since w ((w.alloc (.cells Tryz.zeroCells163 163)).setCells w.heap.size 0 Tryz.zeroCells163.toList)):=((Since.refl w).alloc _).setCells (Nat.le_refl _) _ _;clear hR;go_enter Tryz.func221,Tryz.ntmps221
 go_wp2_with fail
 exact bodyPost_ret (aY Tryz.results221 _ _ _ w.heap.size _ _ _ (by rfl) HR.out Tryz.underlying163 (by rfl) (by rw[pW];kernel_rfl) rfl) rfl ⟨rfl,HS.out⟩
theorem wP (s:ByteArray) (w:World) (hs:456≤s.size) (hz:s.size≤900):Calls Tryz.prog 275 #[.string (s.extract 456 s.size)] w fun e w'=>(∃x:Bool,e=.returned (.bool x)∧(x=true↔zD s))∧w'=w:=by
 have h:=FM (s.extract 456 s.size) w (by rw[ByteArray.size_extract];omega);refine h.mono ?_;rintro e w' ⟨rfl,rfl⟩;refine⟨⟨_,rfl,?_⟩,rfl⟩;rw[decide_eq_true_iff];have hsz:(s.extract 456 s.size).size=s.size-456:=by rw[ByteArray.size_extract];omega
 constructor
 ·intro h j h1 h2;have:=h (j-456) (by omega);rw[lH s 456 s.size (j-456) (by omega) (Nat.le_refl _),show 456+(j-456)=j by omega] at this;exact this
 intro h j hj;rw[lH s 456 s.size j (by omega) (Nat.le_refl _)];exact h (456+j) (by omega) (by omega)
set_option maxHeartbeats 1000000 in
theorem Gc (key s:ByteArray) (w:World) (h:key.size=32) (hs:456≤s.size) (hz:s.size≤900) (ht:¬zD s) :
  Calls Tryz.prog 221 #[.string key,.string s] w fun e w'=>e=.returned (.tuple #[bE Tb.zero,.iface 32 (.int .i64 15)])∧Since w w':=by
 have e1:(key.size:Int)=32:=by omega
 have e2:¬(s.size:Int)<456:=by omega
 have e3:(456:Int)≤s.size:=by omega
 obtain⟨hst,hR⟩:=kr (cO w w.heap.size rfl);have HR:Hid (((w.alloc (.cells Tryz.zeroCells163 163)).setCells w.heap.size 0 Tryz.zeroCells163.toList).rangeAt w.heap.size 0 (aa 73 (af Tb.zero))):=hR;have HS:Hid (Since w ((w.alloc (.cells Tryz.zeroCells163 163)).setCells w.heap.size 0 Tryz.zeroCells163.toList)):=((Since.refl w).alloc _).setCells (Nat.le_refl _) _ _;have HZ:Hid (∀W,Calls Tryz.prog 275 #[.string (s.extract 456 s.size)] W fun e w'=>e=.returned (.bool false)∧w'=W):=fun W=>(wP s W hs hz).mono (fun e w' ⟨⟨x,hx,hi⟩,hw⟩=>⟨by
  cases x with
  | true=>exact absurd (hi.1 rfl) ht
  | false=>exact hx,hw⟩)
 clear hR ht;go_enter Tryz.func221,Tryz.ntmps221
 go_wp2_with fail
 refine(HZ.out _).mono ?_;rintro e w1 ⟨rfl,hw1⟩;subst hw1;go_wp2_with fail
 exact bodyPost_ret (aY Tryz.results221 _ _ _ w.heap.size _ _ _ (by rfl) HR.out Tryz.underlying163 (by rfl) (by rw[pW];kernel_rfl) rfl) rfl ⟨rfl,HS.out⟩
end Tw
end Go.Proofs.YtmhcfaaggkidjaaGreatDoor
end
section
namespace Go.Proofs.YtmhcfaaggkidjaaGreatDoor
set_option maxRecDepth 100000
namespace Tw
open Go.RowKit
open Sm (jW)
theorem iP {a b:ByteArray} (h:¬a=b):(a.toList==b.toList)=false:=by
 rw[ByteArray.toList_eq,ByteArray.toList_eq];rw[beq_eq_false_iff_ne];exact fun e=>h (ByteArray.ext (Array.toList_inj.1 e))
def Df (key:ByteArray) (T:Tb) (A:ByteArray) (ev:Value):Prop:=∀W,jW W→Calls Tryz.prog 187 #[.string key,bE T] W fun e w'=>e=.returned (.tuple #[.string A,ev])∧Since W w'
set_option maxHeartbeats 2000000 in
theorem qb (key s:ByteArray) (w:World) (h:key.size=32) (hs:456≤s.size) (hz:s.size≤900) (ht:zD s) (hT:jW w) (A:ByteArray) (ev res:Value) (hw:Df key (rd s) A ev)
  (hres:(ev=.iface 32 (.int .i64 1)∧res=.tuple #[bE Tb.zero,.iface 32 (.int .i64 15)])∨(ev=.nilIface∧¬A=s.extract 0 456∧res=.tuple #[bE Tb.zero,.iface 32 (.int .i64 15)])∨(ev=.nilIface∧A=s.extract 0 456∧res=.tuple #[bE (rd s),.nilIface])) :
  Calls Tryz.prog 221 #[.string key,.string s] w fun e w'=>e=.returned res∧Since w w':=by
 have e1:(key.size:Int)=32:=by omega
 have e2:¬(s.size:Int)<456:=by omega
 have e3:(456:Int)≤s.size:=by omega
 have HT:Hid (jW w):=hT;have HZ:Hid (∀W,Calls Tryz.prog 275 #[.string (s.extract 456 s.size)] W fun e w'=>e=.returned (.bool true)∧w'=W):=fun W=>(wP s W hs hz).mono (fun e w' ⟨⟨x,hx,hi⟩,hw⟩=>⟨by
  cases x with
  | false=>exact absurd (hi.2 ht) (by decide)
  | true=>exact hx,hw⟩)
 have z1:(s.extract 0 456).size=456:=by rw[ByteArray.size_extract];omega
 have Sv:Hid (∀W,Calls Tryz.prog 276 #[.string (s.extract 0 456)] W fun e w'=>e=.returned (bE (rd s))∧Since W w'):=fun W=>by
  have:=jK (s.extract 0 456) W z1;rw[WZ s hs] at this;exact this
 have HW:Hid (Df key (rd s) A ev):=hw;have HRS:Hid ((ev=.iface 32 (.int .i64 1)∧res=.tuple #[bE Tb.zero,.iface 32 (.int .i64 15)])∨(ev=.nilIface∧¬A=s.extract 0 456∧res=.tuple #[bE Tb.zero,.iface 32 (.int .i64 15)])∨(ev=.nilIface∧A=s.extract 0 456∧res=.tuple #[bE (rd s),.nilIface])):=hres;have HC0:Hid (ak (w.alloc (.cells Tryz.zeroCells163 163)) w.heap.size 73 (af Tb.zero)):=cO w w.heap.size rfl;have Js:Hid (Since w (w.alloc (.cells Tryz.zeroCells163 163))):=(Since.refl w).alloc _;clear ht hT hw hres;generalize rd s=T at *;go_enter Tryz.func221,Tryz.ntmps221
 go_wp2_with fail
 refine(HZ.out _).mono ?_;rintro e w1 ⟨rfl,hw1⟩;rw[←hw1] at HC0 Js;clear hw1;go_wp2_with fail
 refine(Sv.out _).mono ?_;rintro e w2 ⟨rfl,h2⟩;have yP:Hid (ak w2 w.heap.size 73 (af Tb.zero)):=HC0.out.since h2;have HS2:Hid (Since w w2):=Js.out.trans h2;clear h2 HC0 Js Sv HZ;have fT:=cO w2 w2.heap.size rfl;obtain⟨hst,pg⟩:=fU fT T;have yO:Hid (ak ((w2.alloc (.cells Tryz.zeroCells163 163)).setCells w2.heap.size 0 (aa 73 (af T))) w2.heap.size 73 (af T)):=pg;have HD4:Hid (ak ((w2.alloc (.cells Tryz.zeroCells163 163)).setCells w2.heap.size 0 (aa 73 (af T))) w.heap.size 73 (af Tb.zero)):=(yP.out.since ((Since.refl _).alloc _)).setRow_other _ (by have:=yP.out.lt (by omega);omega);have iY:Hid (Since w ((w2.alloc (.cells Tryz.zeroCells163 163)).setCells w2.heap.size 0 (aa 73 (af T)))):=(HS2.out.alloc _).setCells HS2.out.size _ _;clear fT pg;have hR:=dD yO.out;have hL:=pW T
 generalize ((w2.alloc (.cells Tryz.zeroCells163 163)).setCells w2.heap.size 0 (aa 73 (af T)))=w3 at *;have hV:∀U,bE U=.agg (aa 73 (af U)).toArray:=fun U=>rfl
 rw[hV T];go_wp2_with (refine wpList_load_mid (by rfl) 163 _ (by rfl) w2.heap.size 0 (by rfl) _ _ hR Tryz.underlying163 (by rfl) (by rw[hL];kernel_rfl) ?_)
 refine(HW.out _ (HT.out.since iY.out)).mono ?_;rintro e w5 ⟨rfl,h5⟩;have Bc:Hid (ak w5 w2.heap.size 73 (af T)):=yO.out.since h5;have HD5:Hid (ak w5 w.heap.size 73 (af Tb.zero)):=HD4.out.since h5;have qL:Hid (Since w w5):=iY.out.trans h5;clear h5 yO HD4 iY hst hR HW;rcases HRS.out with⟨he,hr⟩ | ⟨he,hne,hr⟩ | ⟨he,heq,hr⟩
 ·subst he;have HR:Hid (res=.tuple #[bE Tb.zero,.iface 32 (.int .i64 15)]):=hr;clear hr HRS;obtain⟨hst,hR⟩:=kr HD5.out;have Dg:Hid ((w5.setCells w.heap.size 0 Tryz.zeroCells163.toList).rangeAt w.heap.size 0 (aa 73 (af Tb.zero))):=hR;have uH:Hid (Since w (w5.setCells w.heap.size 0 Tryz.zeroCells163.toList)):=qL.out.setCells (Nat.le_refl _) _ _;clear hR hV;go_wp2_with fail
  exact bodyPost_ret (aY Tryz.results221 _ _ _ w.heap.size _ _ _ (by rfl) Dg.out Tryz.underlying163 (by rfl) (by rw[pW];kernel_rfl) rfl) rfl ⟨by rw[HR.out];rfl,uH.out⟩
 ·subst he;have HR:Hid (res=.tuple #[bE Tb.zero,.iface 32 (.int .i64 15)]):=hr;have hnl:=iP hne;clear hr HRS hne;obtain⟨hst,hR⟩:=kr HD5.out;have Dg:Hid ((w5.setCells w.heap.size 0 Tryz.zeroCells163.toList).rangeAt w.heap.size 0 (aa 73 (af Tb.zero))):=hR;have uH:Hid (Since w (w5.setCells w.heap.size 0 Tryz.zeroCells163.toList)):=qL.out.setCells (Nat.le_refl _) _ _;clear hR hV;go_wp2_with fail
  exact bodyPost_ret (aY Tryz.results221 _ _ _ w.heap.size _ _ _ (by rfl) Dg.out Tryz.underlying163 (by rfl) (by rw[pW];kernel_rfl) rfl) rfl ⟨by rw[HR.out];rfl,uH.out⟩
 subst he;subst heq;have HR:Hid (res=.tuple #[bE T,.nilIface]):=hr;clear hr HRS;obtain⟨hst,wK⟩:=fU HD5.out T;have Dg:Hid ((w5.setCells w.heap.size 0 (aa 73 (af T))).rangeAt w.heap.size 0 (aa 73 (af T))):=dD wK;have uH:Hid (Since w (w5.setCells w.heap.size 0 (aa 73 (af T)))):=qL.out.setCells (Nat.le_refl _) _ _;have hR:=dD Bc.out;clear wK hV;go_wp2_with (refine wpList_load_mid (by rfl) 163 _ (by rfl) w2.heap.size 0 (by rfl) _ _ hR Tryz.underlying163 (by rfl) (by rw[hL];kernel_rfl) ?_)
 exact bodyPost_ret (aY Tryz.results221 _ _ _ w.heap.size _ _ _ (by rfl) Dg.out Tryz.underlying163 (by rfl) (by rw[pW];kernel_rfl) rfl) rfl ⟨by rw[HR.out];rfl,uH.out⟩
end Tw
end Go.Proofs.YtmhcfaaggkidjaaGreatDoor
end
section
namespace Go.Proofs.YtmhcfaaggkidjaaGreatDoor
namespace Sm
namespace Sr
open Go.RowKit
theorem wQ (f:Nat→BitVec 32) (i:Nat):∃y:Nat,y<256∧byteOf f i=(y:Int):=⟨_,Nat.mod_lt _ (by decide),rfl⟩
def kb (key ai:ByteArray) (i:Nat):Nat:=(byteOf (mQ (bU key ai (BitVec.ofNat 32 (1+i / 64)))) (i % 64)).toNat
theorem Wm (key ai:ByteArray) (i:Nat):kb key ai i<256:=by
 unfold kb;obtain⟨y,h1,h2⟩:=wQ (mQ (bU key ai (BitVec.ofNat 32 (1+i / 64)))) (i % 64);rw[h2];simpa using h1
theorem Ot (key ai s:ByteArray) (i:Nat):kM key ai s i=(((bJ s i).toNat ^^^ kb key ai i:Nat):Int):=by
 have h3:=Wm key ai i;unfold kb at h3 ⊢;unfold kM Ku;obtain⟨y,h1,h2⟩:=wQ (mQ (bU key ai (BitVec.ofNat 32 (1+i / 64)))) (i % 64);rw[h2,u8_xor_nat _ _ (bJ s i).toNat_lt h1];simp
theorem kT (key ai s:ByteArray):(strOfNums (dO key ai s)).size=s.size:=by rw[strOfNums_size];simp[dO]
theorem Dh (key ai s:ByteArray) (i:Nat) (hi:i<s.size):(bJ (strOfNums (dO key ai s)) i).toNat=(bJ s i).toNat ^^^ kb key ai i:=by
 have h:bJ (strOfNums (dO key ai s)) i=UInt8.ofNat ((bJ s i).toNat ^^^ kb key ai i):=by
  show (strOfNums (dO key ai s)).data.toList.getD i 0=_
  rw[strOfNums_data,List.getD_eq_getElem?_getD];simp[dO,hi,Ot]
 rw[h,UInt8.toNat_ofNat'];exact Nat.mod_eq_of_lt (Nat.xor_lt_two_pow (n:=8) (bJ s i).toNat_lt (Wm key ai i))
theorem mY (s:ByteArray) (i:Nat) (hi:i<s.size):s[i]=bJ s i:=by
 unfold bJ;rw[List.getD_eq_getElem?_getD,List.getElem?_eq_getElem (by simpa using hi)]
 rfl
theorem KE {a b:ByteArray} (hs:a.size=b.size) (h:∀i,i<a.size→(bJ a i).toNat=(bJ b i).toNat):a=b:=by
 apply ByteArray.ext
 apply Array.ext
 ·exact hs
 intro i h1 h2;have h1':i<a.size:=h1;have h2':i<b.size:=h2;have e:=UInt8.toNat_inj.1 (h i h1');rw[←mY a i h1',←mY b i h2'] at e;exact e
theorem zN (key ai s:ByteArray):strOfNums (dO key ai (strOfNums (dO key ai s)))=s:=by
 have e1:=kT key ai s;have e2:=kT key ai (strOfNums (dO key ai s));refine KE (by omega) (fun i hi=>?_);rw[Dh key ai _ i (by omega),Dh key ai s i (by omega),Nat.xor_assoc,Nat.xor_self,Nat.xor_zero]
end Sr
end Sm
namespace Sl
open Go.RowKit
open Sm.Sr (dO zN)
theorem wR (a b:ByteArray) (n:Nat) (h:a.size=n):(a++b).extract 0 n=a:=by
 have hsz:a.data.size=n:=h;apply ByteArray.ext
 rw[ByteArray.data_extract,ByteArray.data_append];apply Array.ext_getElem?
 intro i;rw[Array.getElem?_extract];by_cases hi:i<n
 ·rw[if_pos (by rw[Array.size_append];omega),Nat.zero_add,Array.getElem?_append_left (by omega)]
 rw[if_neg (by omega),Array.getElem?_eq_none (by omega)]
theorem oq (a b:ByteArray) (n m k:Nat) (h:a.size=n) (hk:m≤k):(a++b).extract (n+m) (n+k)=b.extract m k:=by
 have hsz:a.data.size=n:=h;apply ByteArray.ext
 rw[ByteArray.data_extract,ByteArray.data_append,ByteArray.data_extract];apply Array.ext_getElem?
 intro i;rw[Array.getElem?_extract,Array.getElem?_extract,Array.size_append];by_cases hi:i<min k b.data.size-m
 ·rw[if_pos (by omega),if_pos hi,Array.getElem?_append_right (by omega),show n+m+i-a.data.size=m+i by omega]
 rw[if_neg (by omega),if_neg hi]
theorem Jt (b:ByteArray) (n:Nat) (h:b.size=n):b.extract 0 n=b:=by
 have hsz:b.data.size=n:=h;apply ByteArray.ext
 rw[ByteArray.data_extract,←hsz,Array.extract_size]
theorem Ou (t:ByteArray) (h:t.size≤80):KC (fill t)=t:=by
 have h0:sb (fill t) 0=UInt8.ofNat t.size:=vW 81 _ 0 (by omega);have hn:(UInt8.ofNat t.size).toNat=t.size:=by rw[UInt8.toNat_ofNat'];omega
 have hts:t.data.size=t.size:=rfl;unfold KC;rw[h0,hn,Nat.min_eq_left h];apply ByteArray.ext
 apply Array.ext_getElem?
 intro i;have hfs:(fill t).data.size=81:=sU t;rw[ByteArray.data_extract,Array.getElem?_extract];by_cases hi:i<t.size
 ·rw[if_pos (by omega)];have e1:(fill t).data[1+i]?=((List.range 81).map (wz t))[1+i]?:=by unfold fill txt;exact List.getElem?_toArray ..
  rw[e1,List.getElem?_map,List.getElem?_range (by omega)];simp only[Option.map_some,wz];rw[if_neg (by omega),show 1+i-1=i by omega];unfold sb;rw[Array.getElem?_eq_getElem (by omega)]
  rfl
 rw[if_neg (by omega),Array.getElem?_eq_none (by omega)]
theorem Di (key:ByteArray) (cell:Int) (t:ByteArray):(aS key cell t).extract 0 16=mk 103 key cell (eT key cell t):=by
 unfold aS;exact wR _ _ 16 (kg _ _ _ _)
theorem zO (key:ByteArray) (cell:Int) (t:ByteArray):(aS key cell t).extract 16 109=eT key cell t:=by
 unfold aS;have h:=oq (mk 103 key cell (eT key cell t)) (eT key cell t) 16 0 93 (kg _ _ _ _) (by omega);rw[Jt _ 93 (zK key cell t)] at h;exact h
theorem Gf (key:ByteArray) (cell:Int) (t:ByteArray):(aS key cell t).extract 16 28=gM key cell t:=by
 unfold aS;have h:=oq (mk 103 key cell (eT key cell t)) (eT key cell t) 16 0 12 (kg _ _ _ _) (by omega);have h2:(eT key cell t).extract 0 12=gM key cell t:=by unfold eT;exact wR _ _ 12 (lI key cell t)
 rw[h2] at h;exact h
theorem KF (key:ByteArray) (cell:Int) (t:ByteArray):(aS key cell t).extract 28 109=mW key cell t:=by
 unfold aS;have h:=oq (mk 103 key cell (eT key cell t)) (eT key cell t) 16 12 93 (kg _ _ _ _) (by omega);have h2:(eT key cell t).extract 12 93=mW key cell t:=by
  unfold eT;have h3:=oq (gM key cell t) (mW key cell t) 12 0 81 (lI key cell t) (by omega);rw[Jt _ 81 (kU key cell t)] at h3;exact h3
 rw[h2] at h;exact h
theorem KG (key:ByteArray) (cell:Int) (t:ByteArray) (h:t.size≤80):(aS key cell t).extract 0 16=mX key cell (aS key cell t)∧textOf key (aS key cell t)=t:=by
 constructor
 ·unfold mX;rw[Di,zO]
 unfold textOf;rw[Gf,KF];unfold mW;rw[zN];exact Ou t h
end Sl
end Go.Proofs.YtmhcfaaggkidjaaGreatDoor
end
section
namespace Go.Proofs.YtmhcfaaggkidjaaGreatDoor
namespace Tw
open Go.RowKit
open Sm (uB)
theorem mZ (a b:ByteArray) (j:Nat) (h:j<a.size):sb (a++b) j=sb a j:=by
 have hsz:a.data.size=a.size:=rfl;unfold sb;rw[ByteArray.data_append,Array.getElem?_append_left (by omega)]
theorem lJ (a b:ByteArray) (n j:Nat) (h:a.size=n):sb (a++b) (n+j)=sb b j:=by
 have hsz:a.data.size=n:=h;unfold sb;rw[ByteArray.data_append,Array.getElem?_append_right (by omega),show n+j-a.data.size=j by omega]
theorem Ju (l:List UInt8) (j:Nat):sb ⟨l.toArray⟩ j=l[j]?.getD 0:=by
 unfold sb;rw[List.getElem?_toArray]
theorem Gg {T:Tb} {n:Nat} (h:fine T n) (i r:Nat) (hr:r<18):∀k,i<k→k≤n→(mM T k)[18*i+r]?=(cellL T i)[r]?:=by
 intro k;induction k with
 | zero=>intro h1;omega
 | succ k ih=>
  intro h1 h2;have hl:=wo h k (by omega);rw[mO];by_cases e:i=k
  ·subst e;rw[List.getElem?_append_right (by omega),hl,show 18*i+r-18*i=r by omega]
  rw[List.getElem?_append_left (by omega)];exact ih (by omega) (by omega)
theorem Ov (key:ByteArray) (T:Tb) (tail:ByteArray) (h:fine T 24) (j:Nat) (hj:j<8):sb (text key T++tail) (16+j)=sb (hd T) j:=by
 have h8:(hd T).data.toList.length=8:=by rw[Array.length_toList];exact vP T
 rw[mZ _ _ _ (by rw[jh h];omega)];unfold text;rw[lJ _ _ 16 j (qV key (body T))];unfold body;rw[Ju];unfold dY;rw[List.getElem?_append_left (by omega),Array.getElem?_toList]
 rfl
theorem tu (key:ByteArray) (T:Tb) (tail:ByteArray) (h:fine T 24) (i r:Nat) (hi:i<24) (hr:r<18):sb (text key T++tail) (24+18*i+r)=(cellL T i)[r]?.getD 0:=by
 have h8:(hd T).data.toList.length=8:=by rw[Array.length_toList];exact vP T
 rw[mZ _ _ _ (by rw[jh h];omega)];unfold text;rw[show 24+18*i+r=16+(8+(18*i+r)) by omega,lJ _ _ 16 _ (qV key (body T))];unfold body;rw[Ju];unfold dY;rw[List.getElem?_append_right (by omega),h8,show 8+(18*i+r)-8=18*i+r by omega,Gg h i r hr 24 hi (Nat.le_refl _)]
theorem Tm (T:Tb) (h:1≤T.count∧T.count≤1099511627776) (j:Nat) (hj:j<8):((sb (hd T) j).toNat:Int)=((uB T.count).getD j 0):=by
 have hm:T.count % 18446744073709551616=T.count:=Int.emod_eq_of_lt (by omega) (by omega);unfold hd;rw[hm];unfold sb strOfNums uB
 match j,hj with
 | 0,_=>simp;omega
 | 1,_=>simp;omega
 | 2,_=>simp;omega
 | 3,_=>simp;omega
 | 4,_=>simp;omega
 | 5,_=>simp;omega
 | 6,_=>simp;omega
 | 7,_=>simp;omega
theorem Gh (key:ByteArray) (T:Tb) (tail:ByteArray) (h:Rt T):((eD (text key T++tail) 16 8:Nat):Int)=T.count:=by
 have b:=fun j hj=>Ov key T tail h.2 j hj
 have c:=fun j hj=>Tm T h.1 j hj
 have c0:=c 0 (by omega);have c1:=c 1 (by omega);have c2:=c 2 (by omega);have c3:=c 3 (by omega);have c4:=c 4 (by omega);have c5:=c 5 (by omega);have c6:=c 6 (by omega);have c7:=c 7 (by omega);simp only[uB,List.getD_cons_zero,List.getD_cons_succ] at c0 c1 c2 c3 c4 c5 c6 c7;have h1:=h.1;simp only[eD];rw[b 0 (by omega),b 1 (by omega),b 2 (by omega),b 3 (by omega),b 4 (by omega),b 5 (by omega),b 6 (by omega),b 7 (by omega)];omega
theorem Bf (n:Int) (h:1≤n∧n≤1099511627776):wrap64 n=n:=by
 simp[wrap64];omega
theorem ng (s:ByteArray) (a b:Nat) (h:b≤s.size):(s.extract a b).size=b-a:=by rw[ByteArray.size_extract,Nat.min_eq_left h]
theorem wS {a b:ByteArray} (hs:a.size=b.size) (h:∀j,j<a.size→sb a j=sb b j):a=b:=by
 have ha:a.data.size=a.size:=rfl;have hb:b.data.size=b.size:=rfl;apply ByteArray.ext
 apply Array.ext
 ·exact hs
 intro i h1 h2;have:=h i h1;unfold sb at this;rw[Array.getElem?_eq_getElem h1,Array.getElem?_eq_getElem h2] at this;exact this
theorem Tn (key:ByteArray) (T:Tb) (tail:ByteArray) (h:Rt T):Same (rd (text key T++tail)) T:=by
 have hlen:456≤(text key T++tail).size:=by rw[ByteArray.size_append,jh h.2];omega
 refine⟨?_,fun i hi=>?_⟩
 ·show wrap64 ((eD (text key T++tail) 16 8:Nat):Int)=T.count
  rw[Gh key T tail h];exact Bf _ h.1
 have b0:=tu key T tail h.2 i 0 hi (by omega);have b1:=tu key T tail h.2 i 1 hi (by omega);rw[Nat.add_zero] at b0;rw[show 24+18*i+1=25+18*i by omega] at b1;show (if i<24 then FT _ i else 0)=_∧(if i<24 then FU _ i else 0)=_∧(if i<24 then FV _ i else ⟨#[]⟩)=_
 rw[if_pos hi,if_pos hi,if_pos hi];by_cases hn:gJ T i
 ·have hl:cellL T i=255::List.replicate 17 0:=by unfold cellL;rw[if_pos hn]
  rw[hl] at b0;have e0:sb (text key T++tail) (24+18*i)=255:=by rw[b0];rfl
  unfold FT FU FV;rw[if_pos e0,if_pos e0,if_pos e0];exact⟨hn.1.symm,hn.2.1.symm,hn.2.2.symm⟩
 have hm:may T i:=(Jr h.2 hi).resolve_left hn;have hl:cellL T i=UInt8.ofNat (T.aB i).toNat::UInt8.ofNat (T.off i).toNat::(T.tag i).data.toList:=by unfold cellL;rw[if_neg hn]
 obtain⟨m1,m2,m3,m4,m5⟩:=hm;rw[hl] at b0 b1;have e0:sb (text key T++tail) (24+18*i)=UInt8.ofNat (T.aB i).toNat:=by rw[b0];rfl
 have e1:sb (text key T++tail) (25+18*i)=UInt8.ofNat (T.off i).toNat:=by rw[b1];rfl
 have n0:(UInt8.ofNat (T.aB i).toNat).toNat=(T.aB i).toNat:=by rw[UInt8.toNat_ofNat'];omega
 have n1:(UInt8.ofNat (T.off i).toNat).toNat=(T.off i).toNat:=by rw[UInt8.toNat_ofNat'];omega
 have hne:¬sb (text key T++tail) (24+18*i)=255:=by
  rw[e0];intro e;have:=congrArg UInt8.toNat e;rw[n0,show (255:UInt8).toNat=255 from rfl] at this;omega
 unfold FT FU FV;rw[if_neg hne,if_neg hne,if_neg hne,e0,e1,n0,n1];refine⟨by omega,by omega,wS ?_ (fun j hj=>?_)⟩
 ·rw[ng _ _ _ (by omega),m1];omega
 rw[ng _ _ _ (by omega)] at hj;rw[lH _ _ _ j (by omega) (by omega)];have:=tu key T tail h.2 i (2+j) hi (by omega);rw[show 26+18*i+j=24+18*i+(2+j) by omega,this,hl,show 2+j=j+1+1 by omega,List.getElem?_cons_succ,List.getElem?_cons_succ];unfold sb;rw[Array.getElem?_toList]
theorem Same.symm {T U:Tb} (h:Same T U):Same U T:=⟨h.1.symm,fun i hi=>⟨(h.2 i hi).1.symm,(h.2 i hi).2.1.symm,(h.2 i hi).2.2.symm⟩⟩
theorem Same.gJ {T U:Tb} (h:Same T U) {i:Nat} (hi:i<24) (hn:gJ T i):gJ U i:=by
 obtain⟨a,b,c⟩:=h.2 i hi;exact⟨a▸hn.1,b▸hn.2.1,c▸hn.2.2⟩
theorem Same.fine {T U:Tb} (h:Same T U) (hf:fine T 24):fine U 24:=fun i hi=>by
 obtain⟨a,b,c⟩:=h.2 i hi;rcases hf i hi with h1 | ⟨⟨m1,m2,m3,m4,m5⟩,h2⟩
 ·exact Or.inl (h.gJ hi h1)
 refine Or.inr ⟨⟨c▸m1,a▸m2,a▸m3,b▸m4,b▸m5⟩,?_⟩;rintro ⟨j,hj,hn,hz,ho⟩;obtain⟨a',b',_⟩:=h.2 j (by omega);exact h2 ⟨j,hj,fun hn'=>hn (h.gJ (by omega) hn'),by rw[a',hz,a],by rw[b',ho,b]⟩
theorem Same.rt {T U:Tb} (h:Same T U) (hr:Rt T):Rt U:=⟨⟨h.1▸hr.1.1,h.1▸hr.1.2⟩,h.fine hr.2⟩
theorem Same.text {T U:Tb} (h:Same T U) (key:ByteArray):text key T=text key U:=by
 have hc:∀i,i<24→cellL T i=cellL U i:=fun i hi=>by
  obtain⟨a,b,c⟩:=h.2 i hi;unfold cellL;by_cases hn:Tw.gJ T i
  ·rw[if_pos hn,if_pos (h.gJ hi hn)]
  rw[if_neg hn,if_neg (fun hn'=>hn (h.symm.gJ hi hn')),a,b,c]
 have hb:body T=body U:=by
  unfold body dY mM hd;rw[h.1,show (List.range 24).flatMap (cellL T)=(List.range 24).flatMap (cellL U) from by
   rw[List.flatMap_def,List.flatMap_def,List.map_congr_left (fun i hi=>hc i (List.mem_range.1 hi))]]
 unfold Tw.text;rw[hb]
end Tw
end Go.Proofs.YtmhcfaaggkidjaaGreatDoor
end
section
namespace Go.Proofs.YtmhcfaaggkidjaaGreatDoor
set_option maxRecDepth 100000
namespace Sm
open Go.RowKit
theorem Jv (kd:UInt8) (ps:Nat→ByteArray) (m:Nat) (hp:∀j,j<m→(ps j).size≤9000):∀n,n≤m→(bP kd ps n).length≤1+9008*n:=by
 intro n;induction n with
 | zero=>intro _;simp[bP]
 | succ n ih=>
  intro hn;have h1:=ih (by omega);have h2:=hp n (by omega);have h3:(ps n).data.size≤9000:=h2;simp[bP,strOfNums_data,uB];omega
set_option maxHeartbeats 1000000 in
theorem Ow (kd:UInt8) (pb po m cap:Nat) (ps:Nat→ByteArray) (w:World) (hm:m≤10) (hp:∀j,j<m→(ps j).size≤9000) (hT:jW w)
  (hc:∀j,j<m→w.cell? ⟨pb,po+j,none⟩=some (.string (ps j))) :
  Calls Tryz.prog 90 #[.int .u8 kd.toNat,.slice (some ⟨pb,po,none⟩) m cap] w fun e w'=>e=.returned (.string (cB ⟨(bP kd ps m).toArray⟩))∧Since w w':=by
 have h0:Lib.IsBuilderF 40 5 w.heap.size w.heap.size [] (w.alloc (.cells #[.pointer none,.slice none 0 0] 40)):=Lib.IsBuilderF.of (Lib.fresh_isBuilder 40 5 w);have b0:Since w (w.alloc (.cells #[.pointer none,.slice none 0 0] 40)):=(Since.refl w).alloc _;go_enter Tryz.func90,Tryz.ntmps90
 go_wp2_with fail
 refine(oZ w.heap.size w.heap.size [] kd.toNat _ h0 (by decide) b0.size).mono ?_;rintro e w1 ⟨rfl,h1,b1,_⟩;have s1:Since w w1:=Below.trans b0 b1;clear h0 b0 b1;go_wp2_with fail
 go_loopw [12] (fun i wr=>∃k:Nat,k≤m∧i=.int .i64 k∧Lib.IsBuilderF 40 5 w.heap.size w.heap.size (Lib.byteCells (bP kd ps k)) wr∧Since w wr) (fun i _=>m-(intOf i).toNat)
 case atStart=>exact⟨0,by omega,rfl,Or.inr h1,s1⟩
 obtain⟨k,hk,rfl,hB,hS⟩:=hrel;by_cases hlt:k<m
 ·have hck:wr.cell? ⟨pb,po+k,none⟩=some (.string (ps k)):=by
   have h:=hc k hlt;rw[hS.cell (p:=⟨pb,po+k,none⟩) (World.block_lt_of_cell? w _ h)];exact h
  have hpk:=hp k hlt;have hl:=Jv kd ps m hp k (by omega);go_wp2_with fail
  refine(lG _ _).mono ?_;rintro e w2 ⟨rfl,h2⟩;rw[Int.emod_eq_of_lt (by omega) (by omega)];have hB2:=bD hB h2;have hS2:=hS.trans h2;go_wp2_with fail
  refine(bq w.heap.size w.heap.size _ (strOfNums (uB (ps k).size)) _ hB2 (by rw[Lib.byteCells_length,strOfNums_size];simp[uB];omega) hS2.size).mono ?_;rintro e w3 ⟨rfl,h3,b3,_⟩;have fu:Since w w3:=Below.trans hS2 b3;go_wp2_with fail
  refine(bq w.heap.size w.heap.size _ (ps k) _ (Or.inr h3) (by rw[List.length_append,Lib.strCells_length,Lib.byteCells_length,strOfNums_size];simp[uB];omega) fu.size).mono ?_;rintro e w4 ⟨rfl,h4,b4,_⟩;have jX:Since w w4:=Below.trans fu b4;have hB4:Lib.IsBuilderF 40 5 w.heap.size w.heap.size (Lib.byteCells (bP kd ps (k+1))) w4:=by
   refine Or.inr ?_;rw[Lib.strCells_eq,Lib.strCells_eq] at h4
   simpa [Lib.byteCells,bP] using h4
  clear h3 h4 hB hB2 hl;go_wp2_with fail
  go_roundw
  case rel=>exact⟨k+1,by omega,by go_num,hB4,jX⟩
  case measure=>simp[intOf];omega
 have hkm:k=m:=by omega
 subst hkm;have hl:=Jv kd ps k hp k (Nat.le_refl _);go_wp2_with fail
 refine(jF w.heap.size w.heap.size _ _ hB hS.size).mono ?_;rintro e w2 ⟨rfl,_,b2,_⟩;have hS2:Since w w2:=Below.trans hS b2;clear hB b2;go_wp2_with fail
 refine(oh _ _ (by rw[show (⟨(bP kd ps k).toArray⟩:ByteArray).size=(bP kd ps k).length by simp[ByteArray.size]];omega) (hT.since hS2)).mono ?_;rintro e w3 ⟨rfl,h3⟩;generalize hS:gZ _=q;have HS:Hid (gZ ⟨(bP kd ps k).toArray⟩=q):=hS;clear hS;have hsz:(strOfNums q.bytes).size=32:=by rw[strOfNums_size];rfl
 go_wp2_with fail
 go_ret;exact⟨by unfold cB;rw[HS.out];rfl,hS2.trans h3⟩
end Sm
end Go.Proofs.YtmhcfaaggkidjaaGreatDoor
end
