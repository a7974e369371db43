import Derived.Test.YtlgbfkcpdelcbaaGreatDoorJ23
import Derived.Test.YtlgbfkcpdelcbaaGreatDoorJ42
set_option linter.unusedSimpArgs false
set_option linter.unusedVariables false
set_option maxHeartbeats 8000000
set_option maxRecDepth 100000
namespace Go.Proofs.YtlgbfkcpdelcbaaGreatDoor
section
namespace Sl
open Go.RowKit
open Sm (kM nM jg dW bT df lZ aN H0 kn dV)
open Sm.Sr (nA bR)
theorem fq (n lo hi:Int)(w:World):Calls Tryz.prog 110 #[.int .i64 n,.int .i64 lo,.int .i64 hi] w fun e w'=>e=.returned (.bool (decide (lo≤n)&&decide (n≤hi)))∧w'=w:=by
 by_cases h:lo≤n
 ·go_enter Tryz.func110,Tryz.ntmps110
  go_wp2_with fail
  go_ret;exact⟨by simp[h],rfl⟩
 go_enter Tryz.func110,Tryz.ntmps110
 go_wp2_with fail
 go_ret;exact⟨by simp[h];intro h2;omega,rfl⟩
theorem Za (b:Nat)(key:ByteArray)(cell:Int)(t:ByteArray)(w:World)(h:key.size=32)(h0:0≤cell)(h1:cell<24)(ht:80<t.size) :
  Calls Tryz.prog 132 #[.pointer (some ⟨b,0,none⟩),.string key,.int .i64 cell,.string t] w fun e w'=>e=.returned (.tuple #[.string ⟨#[]⟩,.int .i64 4])∧w'=w:=by
 have e1:(key.size:Int)=32:=by omega
 have e4:(80:Int)<t.size:=by omega
 have hn:(decide (0≤cell)&&decide (cell≤23))=true:=by simp;omega
 go_enter Tryz.func132,Tryz.ntmps132
 go_wp2_with fail
 refine(fq _ _ _ _).mono ?_;rintro e w1 ⟨rfl,rfl⟩;rw[hn];go_wp2_with fail
 go_ret2;exact⟨rfl,rfl⟩
theorem rmk (hsum:nM)(b:Nat)(kd:UInt8)(key:ByteArray)(cell:Int)(t:ByteArray)(w:World)(hk:key.size≤900)(ht:t.size≤900)(hh:aN w b 0 8 H0.fn)(hkn:aN w b 8 64 kn) :
  Calls Tryz.prog 125 #[.pointer (some ⟨b,0,none⟩),.int .u8 kd.toNat,.slice (some ⟨w.heap.size,0,none⟩) 3 3] (w.alloc (.cells #[.string key,.string (nW cell),.string t] 9)) fun e w'=>e=.returned (.string (mk kd key cell t))∧Since w w':=by
 have hS:Since w (w.alloc (.cells #[.string key,.string (nW cell),.string t] 9)):=(Since.refl w).alloc _;refine(jg hsum b kd w.heap.size 0 3 3 (three key (nW cell) t) _ (by omega) (fun j _=>wS key (nW cell) t hk (by rw[zI];omega) ht j) (hh.since hS) (hkn.since hS) (fun j hj=>uF w key (nW cell) t 9 j hj)).mono ?_;rintro e w2 ⟨rfl,h2⟩;exact⟨by unfold mk;rfl,hS.trans h2⟩
theorem nC {W w4:World}{a:Int}{ty:TypeId}(h4:Since (W.alloc (.cells #[.int .u8 a] ty)) w4)(cap:Nat) :
  (convert 159 9 (.slice (some ⟨W.heap.size,0,none⟩) 1 cap)).run Tryz.prog w4=.ok (.string (strOfNums [a])) w4:=by
 refine dV w4 [a] W.heap.size 1 cap rfl (fun i hi=>?_);have hi0:i=0:=by simp at hi;omega
 subst hi0;rw[h4.cell (p:=⟨W.heap.size,0,none⟩) (by simp),World.cell?_alloc_new]
 rfl
theorem PY (W:World)(a:Int)(ty:TypeId)(cap:Nat) :
  (convert 159 9 (.slice (some ⟨W.heap.size,0,none⟩) 1 cap)).run Tryz.prog (W.alloc (.cells #[.int .u8 a] ty))=.ok (.string (strOfNums [a])) (W.alloc (.cells #[.int .u8 a] ty)):=nC (Since.refl _) cap
theorem Fg {W w4:World}{a:Int}{ty:TypeId}(h4:Since (W.alloc (.cells #[.int .u8 a] ty)).drew w4)(cap:Nat) :
  (convert 159 9 (.slice (some ⟨W.heap.size,0,none⟩) 1 cap)).run Tryz.prog w4=.ok (.string (strOfNums [a])) w4:=nC ((Since.refl _).drew.trans h4) cap
theorem PZ (W:World)(a:Int)(ty:TypeId)(cap:Nat) :
  (convert 159 9 (.slice (some ⟨W.heap.size,0,none⟩) 1 cap)).run Tryz.prog (W.alloc (.cells #[.int .u8 a] ty)).drew=.ok (.string (strOfNums [a])) (W.alloc (.cells #[.int .u8 a] ty)).drew:=nC (Since.refl _).drew cap
attribute [local go_sem ↓] PY PZ
theorem Uz (hsum:nM)(b:Nat)(key:ByteArray)(cell:Int)(t:ByteArray)(w:World)(h:key.size=32)(h0:0≤cell)(h1:cell<24)(ht:t.size≤80)(hh:aN w b 0 8 H0.fn)(hkn:aN w b 8 64 kn) :
  Calls Tryz.prog 132 #[.pointer (some ⟨b,0,none⟩),.string key,.int .i64 cell,.string t] w fun e w'=>e=.returned (.tuple #[.string (bL key cell t),.int .i64 0])∧Since w w':=by
 have e1:(key.size:Int)=32:=by omega
 have e4:¬(80:Int)<t.size:=by omega
 have hn:(decide (0≤cell)&&decide (cell≤23))=true:=by simp;omega
 have HH:=hid hh;have HK:=hid hkn;clear hh hkn;go_enter Tryz.func132,Tryz.ntmps132
 go_wp2_with fail
 refine(fq _ _ _ _).mono ?_;rintro e w1 ⟨rfl,rfl⟩;rw[hn];go_wp2_with fail
 refine(dW cell _).mono ?_;rintro e w2 ⟨rfl,h2⟩;have HN8:strOfNums (lZ (cell % 18446744073709551616))=nW cell:=rfl;rw[HN8];clear HN8;go_wp2_with fail
 have hm:=rmk hsum b 110 key cell t w2 (by omega) (by omega) (HH.o.since h2) (HK.o.since h2);rw[show ((110:UInt8).toNat:Int)=110 from rfl] at hm;refine hm.mono ?_;clear hm;rintro e w3 ⟨rfl,h3⟩;have dZ:=hid (h2.trans h3);clear h2 h3;have m1:=jB 110 key cell t;have YX:Hid ((mk 110 key cell t).extract 0 12=gD key cell t):=show _=gD key cell t from rfl
 have n1:=kC key cell t;generalize hmk:mk 110 key cell t=M at *;clear hmk;go_wp2_with fail
 rw[YX.o];generalize hn:gD key cell t=nn at *;have VZ:=hid hn;clear hn YX;have f1:=pz t;have Qz:=hid (QM t ht);have hl:=fun W=>pu t 80 W (by omega)
 have HL:=hid hl;clear hl;have p1:(txt 80 (sb t)).size=80:=bG _ _;generalize txt 80 (sb t)=L at *;generalize hf:fill t=F at *;have HF:=hid hf;clear hf;have hx:=fun W=>nA key nn F W h n1 (by omega)
 have HX:=hid hx;clear hx;have x1:(strOfNums (bR key nn F)).size=81:=by rw[jK,f1]
 generalize hB:strOfNums (bR key nn F)=B at *;have HB:=hid hB;clear hB;have q8:IntKind.u8.wrap (t.size:Int)=t.size:=by simp[IntKind.wrap,IntKind.bits,IntKind.signed];omega
 have l1:(strOfNums [(t.size:Int)]).size=1:=strOfNums_size _;go_region_with (first
  | (go_simp;go_at_call 130;refine(HL.o _).mono ?_;rintro e w4 ⟨rfl,h4⟩;(first | (have hcv:=fun cap=>Fg h4 cap) | (have hcv:=fun cap=>nC h4 cap) | skip);dsimp only)
  | (go_simp;go_at_call 197;rw[Qz.o];refine(HX.o _).mono ?_;rintro e w5 ⟨rfl,h5⟩;dsimp only))
 all_goals
  have jX:Hid (Since w1 w5):=show Since w1 w5 from dZ.o.trans (by
   first
    | exact(((Since.refl _).alloc _).drew.trans h4).trans h5
    | exact((Since.refl _).drew.trans h4).trans (((Since.refl _).alloc _).trans h5)
    | exact(((Since.refl _).drew.trans h4).alloc _).trans h5)
  clear h4 h5 dZ HL HX Qz q8 l1
  try clear hcv
  go_wp2_with fail
  refine(dW cell _).mono ?_;rintro e w6 ⟨rfl,h6⟩;have HN8:strOfNums (lZ (cell % 18446744073709551616))=nW cell:=rfl;rw[HN8];clear HN8;have r1:(nn++B).size=93:=by rw[ByteArray.size_append];omega
  have hsm:nn.size+B.size≤9223372036854775807:=by omega
  go_wp2_with fail
  generalize hR:nn++B=R at *;have HR:=hid hR;clear hR;have iL:=hid (jX.o.trans h6);have hm:=rmk hsum b 103 key cell R w6 (by omega) (by omega) (HH.o.since iL.o) (HK.o.since iL.o);rw[show ((103:UInt8).toNat:Int)=103 from rfl] at hm;refine hm.mono ?_;clear hm;rintro e w7 ⟨rfl,h7⟩;have mH:=hid (iL.o.trans h7);clear h6 h7;have m2:=jB 103 key cell R;generalize hT2:mk 103 key cell R=T at *;have HT2:=hid hT2;clear hT2;have t1:(T++nn).size=28:=by rw[ByteArray.size_append];omega
  have b4D:T.size+nn.size≤9223372036854775807:=by omega
  have b4E:(T++nn).size+B.size≤9223372036854775807:=by omega
  go_wp2_with fail
  go_ret2;refine⟨?_,mH.o⟩;unfold bL fK mD;rw[VZ.o,HF.o,HB.o,HR.o,HT2.o,←HR.o,←ByteArray.append_assoc]
  rfl
end Sl
end
section
namespace Sl
open Go.RowKit
open Sm (kM nM jg dW bT df lZ aN H0 kn dV)
open Sm.Sr (nA bR)
theorem VK (b:Nat)(key:ByteArray)(cell:Int)(s:ByteArray)(w:World)(h:key.size=32)(hs:s.size<109) :
  Calls Tryz.prog 149 #[.pointer (some ⟨b,0,none⟩),.string key,.int .i64 cell,.string s] w fun e w'=>e=.returned (.tuple #[.string ⟨#[]⟩,.string ⟨#[]⟩,.int .i64 15])∧Since w w':=by
 have e1:(key.size:Int)=32:=by omega
 have e2:(s.size:Int)<109:=by omega
 go_enter Tryz.func149,Tryz.ntmps149
 go_wp2_with fail
 go_quiet (fail)
 go_wp2_with fail
 go_ret3;exact⟨rfl,(Since.refl _).drewN _⟩
def RMk (b:Nat)(key:ByteArray)(cell:Int)(x T:ByteArray):Prop:=∀w w0:World,aN w0 b 0 8 H0.fn→aN w0 b 8 64 kn→Since w0 w→
  Calls Tryz.prog 125 #[.pointer (some ⟨b,0,none⟩),.int .u8 103,.slice (some ⟨w.heap.size,0,none⟩) 3 3] (w.alloc (.cells #[.string key,.string (nW cell),.string x] 9)) fun e w'=>e=.returned (.string T)∧Since w w'
theorem Nn (hsum:nM)(b:Nat)(key:ByteArray)(cell:Int)(x:ByteArray)(hk:key.size≤900)(hx:x.size≤900):RMk b key cell x (mk 103 key cell x):=by
 intro w w0 h1 h2 h3;have hm:=rmk hsum b 103 key cell x w hk hx (h1.since h3) (h2.since h3);rw[show ((103:UInt8).toNat:Int)=103 from rfl] at hm;exact hm
theorem Fh (hsum:nM)(b:Nat)(key:ByteArray)(cell:Int)(s:ByteArray)(w:World)(h:key.size=32)(hs:109≤s.size)(hz:s.size≤900)(hb:s.extract 0 16≠kT key cell s)(hh:aN w b 0 8 H0.fn)(hkn:aN w b 8 64 kn) :
  Calls Tryz.prog 149 #[.pointer (some ⟨b,0,none⟩),.string key,.int .i64 cell,.string s] w fun e w'=>e=.returned (.tuple #[.string ⟨#[]⟩,.string ⟨#[]⟩,.int .i64 15])∧Since w w':=by
 have e1:(key.size:Int)=32:=by omega
 have e2:decide ((s.size:Int)<109)=false:=by simp;omega
 have e3:(109:Int)≤s.size:=by omega
 have e4:(16:Int)≤s.size:=by omega
 have z1:(s.extract 16 109).size=93:=by rw[ByteArray.size_extract];omega
 have HH:=hid hh;have HK:=hid hkn;have hb2:¬mk 103 key cell (s.extract 16 109)=s.extract 0 16:=fun e=>hb e.symm
 have hb3:=fD hb2;have HM:=hid (Nn hsum b key cell (s.extract 16 109) (by omega) (by omega));clear hb2 hb hh hkn;generalize mk 103 key cell (s.extract 16 109)=T at *;go_enter Tryz.func149,Tryz.ntmps149
 go_wp2_with fail
 go_region_held3 (fun _=>True) (trivial) (first
  | (go_simp;go_at_call 124;refine(dW cell _).mono ?_;rintro e w2 ⟨rfl,h2⟩;rw[show strOfNums (lZ (cell % 18446744073709551616))=nW cell from rfl];dsimp only)
  | (go_simp;go_at_call 125;refine(HM.o w2 w HH.o HK.o ((Since.refl _).drew.trans h2)).mono ?_;rintro e w3 ⟨rfl,h3⟩;dsimp only))
 all_goals
  have dZ:Hid (Since w w3):=((Since.refl _).drew.trans h2).trans h3;clear h2 h3;go_wp2_with fail
  go_ret3;exact⟨rfl,dZ.o⟩
theorem Ka (hsum:nM)(b:Nat)(key:ByteArray)(cell:Int)(s:ByteArray)(w:World)(h:key.size=32)(hs:109≤s.size)(hz:s.size≤900)(hb:s.extract 0 16=kT key cell s)(hh:aN w b 0 8 H0.fn)(hkn:aN w b 8 64 kn) :
  Calls Tryz.prog 149 #[.pointer (some ⟨b,0,none⟩),.string key,.int .i64 cell,.string s] w fun e w'=>e=.returned (.tuple #[.string (s.extract 0 16),.string (textOf key s),.int .i64 0])∧Since w w':=by
 have e1:(key.size:Int)=32:=by omega
 have e2:decide ((s.size:Int)<109)=false:=by simp;omega
 have e3:(109:Int)≤s.size:=by omega
 have e4:(16:Int)≤s.size:=by omega
 have e5:(28:Int)≤s.size:=by omega
 have z1:(s.extract 16 109).size=93:=by rw[ByteArray.size_extract];omega
 have z2:(s.extract 16 28).size=12:=by rw[ByteArray.size_extract];omega
 have z3:(s.extract 28 109).size=81:=by rw[ByteArray.size_extract];omega
 have HH:=hid hh;have HK:=hid hkn;have hb2:mk 103 key cell (s.extract 16 109)=s.extract 0 16:=hb.symm;have HM:Hid (RMk b key cell (s.extract 16 109) (mk 103 key cell (s.extract 16 109))):=Nn hsum b key cell (s.extract 16 109) (by omega) (by omega);rw[hb2] at HM;clear hb2 hb hh hkn;have x1:(strOfNums (bR key (s.extract 16 28) (s.extract 28 109))).size=81:=by rw[jK,z3]
 have hx:=fun w=>nA key (s.extract 16 28) (s.extract 28 109) w h z2 (by omega)
 have HX:Hid (Da (strOfNums (bR key (s.extract 16 28) (s.extract 28 109)))=textOf key s):=by
  show Da _=textOf key s
  unfold textOf
  rfl
 generalize hB:strOfNums (bR key (s.extract 16 28) (s.extract 28 109))=B at *;clear hB;generalize hq:textOf key s=q at *;clear hq;have HXc:=hid hx;clear hx;have b0:0<B.size:=by omega
 have bI:(B.size:Int)=81:=by omega
 have hb:=sb0 B b0;have HC:Hid (B.extract 1 (1+min (sb B 0).toNat 80)=q):=HX.o;clear HX;generalize sb B 0=y at *;have hy:=y.toNat_lt;go_enter Tryz.func149,Tryz.ntmps149
 go_wp2_with fail
 go_region_held3 (fun _=>True) (trivial) (first
  | (go_simp;go_at_call 124;refine(dW cell _).mono ?_;rintro e w2 ⟨rfl,h2⟩;rw[show strOfNums (lZ (cell % 18446744073709551616))=nW cell from rfl];dsimp only)
  | (go_simp;go_at_call 125;refine(HM.o w2 w HH.o HK.o ((Since.refl _).drew.trans h2)).mono ?_;rintro e w3 ⟨rfl,h3⟩;dsimp only))
 have dZ:Hid (Since w w3):=((Since.refl _).drew.trans h2).trans h3;clear h2 h3 HM;go_wp2_with fail
 go_region_held3 (fun _=>True) (trivial) (first
  | (go_simp;go_at_call 197;refine(HXc.o _).mono ?_;rintro e w4 ⟨rfl,h4⟩;dsimp only))
 have fO:Hid (Since w w4):=dZ.o.trans ((Since.refl _).drew.trans h4);clear h4 dZ HXc;by_cases hy2:y.toNat≤80
 ·have y2:¬(80:Int)<y.toNat:=by omega
  have hc:=HC.o;rw[Nat.min_eq_left hy2] at hc;have nO:=hid hc;clear hc HC;go_wp2_with fail
  go_quiet (fail)
  go_wp2_with fail
  go_ret3;exact⟨by rw[←nO.o];rfl,fO.o.drewN _⟩
 have y2:(80:Int)<y.toNat:=by omega
 have hc:=HC.o;rw[Nat.min_eq_right (by omega)] at hc;have nO:=hid hc;clear hc HC;go_wp2_with fail
 go_quiet (fail)
 go_wp2_with fail
 go_ret3;exact⟨by rw[←nO.o];rfl,fO.o.drewN _⟩
end Sl
end
end Go.Proofs.YtlgbfkcpdelcbaaGreatDoor
