import Derived.Test.YtlgbfkcpdelcbaaGreatDoorJ12
import Derived.Test.YtlgbfkcpdelcbaaGreatDoorJ22
set_option linter.unusedSimpArgs false
set_option linter.unusedVariables false
set_option maxHeartbeats 8000000
set_option maxRecDepth 100000
namespace Go.Proofs.YtlgbfkcpdelcbaaGreatDoor
section
namespace Sm
open Go.RowKit
attribute [local go_sem] gQ eF iB iC lq iD iE iG dU eG cZ dG bu fe dC
def ZP:List Nat:=[5411319704,6194414737,7344290767,8215976869,9551921755,10098905585,11043570340,11460697813,12214315672,13195500289,13492127166,14311783875,14809980276,15046980094,15499789991,16133124468,16720292289,16907126662,17444216262,17784676812,17950125167,18429019306,18734950876,19175934170,19734090066,20001703533,20132865992,20390182855,20516441075,20764397895,21588763473,21813078375,22141143685,22248366392,22769593852,22871018771,23170020180,23461497531,23651862830,23931792517,24205322401,24295138891,24734567280,24820601251,24990902297,25075189284,25569408389,26045227120,26200031510,26276752392,26428864332,26653801653,26727943347,27092625994,27306805839,27517677555,27725365998,27793908591,27997534228,28131656200,28198240250,28526537963,28973835255,29099129074]
def ZQ:List Nat:=[6074000999,7439101573,9603838834,11363415354,14244795007,15485724812,17708603819,18721328409]
def xA (i:Nat):Nat:=(jT 310).getD i 0
theorem WK:∀i,i<64→(ZP.getD i 0) ^ 3≤xA i*65536 ^ (2*3)∧xA i*65536 ^ (2*3)<(ZP.getD i 0+1) ^ 3∧BitVec.ofNat 32 (ZP.getD i 0)=kn i:=by decide +kernel
theorem WL:∀i,i<8→(ZQ.getD i 0) ^ 2≤xA i*65536 ^ (2*2)∧xA i*65536 ^ (2*2)<(ZQ.getD i 0+1) ^ 2∧BitVec.ofNat 32 (ZQ.getD i 0)=H0.fn i:=by decide +kernel
theorem ZR:∀i,i<64→2≤xA i∧xA i<312:=by decide +kernel
theorem WM (i r:Nat)(hi:i<64)(h1:r ^ 3≤xA i*65536 ^ (2*3))(h2:xA i*65536 ^ (2*3)<(r+1) ^ 3):BitVec.ofNat 32 r=kn i:=by
 obtain⟨a,b,c⟩:=WK i hi;rw[DK 3 _ r _ h1 h2 a b,c]
theorem Sb (i r:Nat)(hi:i<8)(h1:r ^ 2≤xA i*65536 ^ (2*2))(h2:xA i*65536 ^ (2*2)<(r+1) ^ 2):BitVec.ofNat 32 r=H0.fn i:=by
 obtain⟨a,b,c⟩:=WL i hi;rw[DK 2 _ r _ h1 h2 a b,c]
theorem a3S (i:Nat)(hi:i<64)(w:World):Calls Tryz.prog 32 #[.int .u64 (xA i:Int),.int .i64 3] w fun e w'=>e=.returned (U (kn i))∧Since w w':=by
 have hp:=ZR i hi;refine(DN (xA i) 3 w (by omega) (by omega) (by omega) ?_).mono ?_
 ·exact Nat.lt_of_le_of_lt (Nat.mul_le_mul_right _ (show xA i≤311 by omega)) (by decide)
 rintro e w' ⟨r,rfl,h1,h2,hS⟩;exact⟨by rw[WM i r hi h1 h2],hS⟩
theorem a3T (i:Nat)(hi:i<8)(w:World):Calls Tryz.prog 32 #[.int .u64 (xA i:Int),.int .i64 2] w fun e w'=>e=.returned (U (H0.fn i))∧Since w w':=by
 have hp:=ZR i (by omega);refine(DN (xA i) 2 w (by omega) (by omega) (by omega) ?_).mono ?_
 ·exact Nat.lt_of_le_of_lt (Nat.mul_le_mul_right _ (show xA i≤311 by omega)) (by decide)
 rintro e w' ⟨r,rfl,h1,h2,hS⟩;exact⟨by rw[Sb i r hi h1 h2],hS⟩
def upto (k:Nat)(f:Nat→BitVec 32):Nat→BitVec 32:=fun j=>if j<k then f j else 0
theorem zU (k:Nat)(f:Nat→BitVec 32)(j:Nat):upd (upto k f) k (f k) j=upto (k+1) f j:=by
 unfold upd upto;by_cases e:j=k
 ·subst e;rw[if_pos rfl,if_pos (by omega)]
 rw[if_neg e];by_cases h:j<k
 ·rw[if_pos h,if_pos (by omega)]
 rw[if_neg h,if_neg (by omega)]
theorem Ow (k m:Nat)(f:Nat→BitVec 32)(h:m≤k)(j:Nat)(hj:j<m):upto k f j=upto (k+1) f j:=by
 unfold upto;rw[if_pos (by omega),if_pos (by omega)]
theorem aN.part {w:World}{b n m o:Nat}{f:Nat→BitVec 32}(h:aN w b 0 n f)(ho:o+m≤n):aN w b o m (fun j=>f (o+j)) where
 cell j hj:=by have:=h.cell (o+j) (by omega);rwa [Nat.zero_add] at this
 frozen j hj:=by have:=h.frozen (o+j) (by omega);rwa [Nat.zero_add] at this
theorem aN.apart {w:World}{b o n:Nat}{f:Nat→BitVec 32}(h:aN w b o n f)(i:Nat)(hi:i<o∨o+n≤i)(v:Value):aN (w.setCell ⟨b,i,none⟩ v) b o n f where
 cell j hj:=by rw[nU _ _ _ _ _ (by omega)];exact h.cell j hj
 frozen j hj:=by simp;exact h.frozen j hj
theorem Sc (w:World) :
  Calls Tryz.prog 4 #[] w fun e w'=>∃b,e=.returned (.pointer (some ⟨b,0,none⟩))∧w.heap.size≤b∧aN w' b 0 8 H0.fn∧aN w' b 8 64 kn∧Since w w':=by
 go_enter Tryz.func4,Tryz.ntmps4
 go_wp2_with fail
 have hZ:aN (w.alloc (.cells Tryz.zeroCells85 85)) w.heap.size 0 72 (fun _=>0):=aN.new w 72 (fun _=>0) 85 Tryz.zeroCells85 (by kernel_rfl) _ rfl;have VE:aN (w.alloc (.cells Tryz.zeroCells85 85)) w.heap.size 0 8 (upto 0 H0.fn):=(hZ.part (o:=0) (m:=8) (by omega)).congr (fun j _=>by simp[upto]);have hK0:aN (w.alloc (.cells Tryz.zeroCells85 85)) w.heap.size 8 64 (upto 0 kn):=(hZ.part (o:=8) (m:=64) (by omega)).congr (fun j _=>by simp[upto]);refine(IM _).mono ?_;rintro e w1 ⟨g,cap,rfl,Zn,hS1⟩;have hA1:=VE.since hS1;have hK1:=hK0.since hS1;have hSw:Since w w1:=((Since.refl w).alloc _).trans hS1;have hgw:w.heap.size<g:=by
  rcases Zn.form with⟨h,_⟩ | ⟨g',c',h,h2,_⟩
  ·cases h
  injection h with h _ _;injection h with h;injection h with h _;rw[h];simp at h2;omega
 have hcl:∀j,j<64→w1.cell? ⟨g,j,none⟩=some (.int .i64 (xA j:Int)):=by
  intro j hj;rw[Zn.cell (by rw[List.length_map,qK]) j (by rw[List.length_map,qK];exact hj)];simp[iv,xA,List.getD_eq_getElem?_getD,List.getElem?_eq_getElem (show j<(jT 310).length by rw[qK];exact hj)]
 clear hZ VE hK0 Zn hS1;go_wp2_with fail
 go_loopw [8] (fun i wr=>∃k:Nat,k≤64∧i=.int .i64 k∧aN wr w.heap.size 0 8 (upto k H0.fn)∧aN wr w.heap.size 8 64 (upto k kn)∧(∀j,j<64→wr.cell? ⟨g,j,none⟩=some (.int .i64 (xA j:Int)))∧Since w wr) (fun i _=>64-(intOf i).toNat)
 case atStart=>exact⟨0,by omega,rfl,hA1,hK1,hcl,hSw⟩
 obtain⟨k,hk,rfl,hA,hK,hC,hS⟩:=hrel;by_cases hlt:k<64
 ·have hck:=hC k hlt;have hpl:=ZR k hlt;have hlb:=hA.lt (by omega);have z0:(0:Int)≤k:=by omega
  have z1:(k:Int)<64:=by omega
  have hcv:IntKind.u64.wrap (xA k:Int)=xA k:=by simp[IntKind.wrap,IntKind.bits,IntKind.signed];omega
  have kc0:=hK.cell k hlt;have kf0:=hK.frozen k hlt;go_wp2_with fail
  go_region_with (first | (go_at_call 32;refine(a3S k hlt _).mono ?_;rintro e w2 ⟨rfl,h2⟩;have hS2:=(Since.refl wr).drew.trans h2;have kc:=(hK.since hS2).cell k hlt;have kf:=(hK.since hS2).frozen k hlt))
  generalize hw3:World.setCell _ _ _=w3;have hA3:aN w3 w.heap.size 0 8 (upto k H0.fn):=by rw[←hw3];exact(hA.since hS2).apart _ (by omega) _
  have hK3:aN w3 w.heap.size 8 64 (upto (k+1) kn):=by rw[←hw3];exact((hK.since hS2).set k hlt (kn k)).congr (fun j _=>zU k kn j)
  have gW:∀j,j<64→w3.cell? ⟨g,j,none⟩=some (.int .i64 (xA j:Int)):=by
   intro j hj;rw[←hw3,World.cell?_setCell_other _ _ _ _ (by intro hc;injection hc with h1 _;omega)];have h:=hC j hj;rw[hS2.cell (p:=⟨g,j,none⟩) (World.block_lt_of_cell? wr _ h)];exact h
  have bQ:Since w w3:=by rw[←hw3];exact(hS.trans hS2).setCell (Nat.le_refl _) _
  clear hw3 kc kf kc0 kf0 hA hK hC hck hS2 h2;by_cases h8:k<8
  ·have ac0:=hA3.cell k h8;have af0:=hA3.frozen k h8;rw[Nat.zero_add] at ac0 af0;go_wp2_with fail
   go_region_with (first | (go_at_call 32;refine(a3T k h8 _).mono ?_;rintro e w4 ⟨rfl,h4⟩;have cz:=(Since.refl w3).drew.trans h4;have ac:=(hA3.since cz).cell k h8;have af:=(hA3.since cz).frozen k h8;rw[Nat.zero_add] at ac af))
   all_goals
    generalize hw5:World.setCell _ _ _=w5;have xB:aN w5 w.heap.size 0 8 (upto (k+1) H0.fn):=by
     rw[←hw5];have h:=((hA3.since cz).set k h8 (H0.fn k)).congr (fun j _=>zU k H0.fn j);rw[Nat.zero_add] at h;exact h
    have hK5:aN w5 w.heap.size 8 64 (upto (k+1) kn):=by rw[←hw5];exact(hK3.since cz).apart _ (by omega) _
    have hC5:∀j,j<64→w5.cell? ⟨g,j,none⟩=some (.int .i64 (xA j:Int)):=by
     intro j hj;rw[←hw5,World.cell?_setCell_other _ _ _ _ (by intro hc;injection hc with h1 _;omega)];have h:=gW j hj;rw[cz.cell (p:=⟨g,j,none⟩) (World.block_lt_of_cell? w3 _ h)];exact h
    have hS5:Since w w5:=by rw[←hw5];exact(bQ.trans cz).setCell (Nat.le_refl _) _
    clear hw5 ac af ac0 af0 hA3 hK3 gW cz h4;go_wp2_with fail
    go_roundw
    case rel=>exact⟨k+1,by omega,by go_num,xB,hK5,hC5,hS5⟩
    case measure=>simp[intOf];omega
  go_wp2_with fail
  go_roundw
  case rel=>exact⟨k+1,by omega,by go_num,hA3.congr (fun j hj=>Ow k 8 _ (by omega) j hj),hK3,gW,bQ⟩
  case measure=>simp[intOf];omega
 have Hz:k=64:=by omega
 subst Hz;go_wp2_with fail
 go_ret;exact⟨w.heap.size,rfl,Nat.le_refl _,hA.congr (fun j hj=>by simp[upto];omega),hK.congr (fun j hj=>by simp[upto,hj]),hS⟩
end Sm
end
section
namespace Sm
open Go.RowKit
attribute [local go_sem ↓] uz
def nM:Prop:=∀(b:Nat) (s:ByteArray) (w:World),s.size≤10000→aN w b 0 8 H0.fn→aN w b 8 64 kn→
  Calls Tryz.prog 196 #[.pointer (some ⟨b,0,none⟩),.string s] w fun e w'=>e=.returned (.string (strOfNums (iQ s).bytes))∧Since w w'
def acc (kd:UInt8)(ps:Nat→ByteArray)(n:Nat):ByteArray:=⟨(df kd ps n).toArray⟩
theorem a3V (kd:UInt8)(ps:Nat→ByteArray):strOfNums [(kd.toNat:Int)]=acc kd ps 0:=by
 apply ByteArray.ext
 simp[strOfNums,acc,df]
theorem a3W (kd:UInt8)(ps:Nat→ByteArray)(n:Nat):acc kd ps n++strOfNums (lZ (ps n).size)++ps n=acc kd ps (n+1):=by
 apply ByteArray.ext
 simp[acc,df,ByteArray.data_append,Array.append_assoc]
theorem DR (kd:UInt8)(ps:Nat→ByteArray)(n:Nat):(acc kd ps n).size=(df kd ps n).length:=by
 simp[acc,ByteArray.size]
theorem jg (hsum:nM)(b:Nat)(kd:UInt8)(pb po m cap:Nat)(ps:Nat→ByteArray)(w:World)(hm:m≤10)(hp:∀j,j<m→(ps j).size≤900)(hh:aN w b 0 8 H0.fn)(hk:aN w b 8 64 kn)(hc:∀j,j<m→w.cell? ⟨pb,po+j,none⟩=some (.string (ps j))) :
  Calls Tryz.prog 125 #[.pointer (some ⟨b,0,none⟩),.int .u8 kd.toNat,.slice (some ⟨pb,po,none⟩) m cap] w fun e w'=>e=.returned (.string (bT ⟨(df kd ps m).toArray⟩))∧Since w w':=by
 have HC:=(show Hid (∀j,j<m→w.cell? ⟨pb,po+j,none⟩=some (.string (ps j))) from hc)
 have HP:=(show Hid (∀j,j<m→(ps j).size≤900) from hp)
 clear hc hp;go_enter Tryz.func125,Tryz.ntmps125
 go_wp2_with fail
 rw[a3V kd ps];go_loopw [15,7] (fun i o wr=>∃k:Nat,k≤m∧i=.int .i64 k∧o=.string (acc kd ps k)∧Since w wr) (fun i _ _=>m-(intOf i).toNat)
 case atStart=>exact⟨0,by omega,rfl,rfl,by first | exact(Since.refl w).alloc _ | exact Since.refl w⟩
 obtain⟨k,Zu,rfl,rfl,hS⟩:=hrel;by_cases hlt:k<m
 ·have hck:wr.cell? ⟨pb,po+k,none⟩=some (.string (ps k)):=by
   have h:=HC.o k hlt;rw[hS.cell (p:=⟨pb,po+k,none⟩) (World.block_lt_of_cell? w _ h)];exact h
  have hpk:=HP.o k hlt;have hl:=vL kd ps m HP.o k (by omega);rw[←DR] at hl;have Hac:Hid _:=a3W kd ps k;generalize acc kd ps k=X at *;go_wp2_with fail
  refine(dW _ _).mono ?_;rintro e w2 ⟨rfl,h2⟩;rw[Int.emod_eq_of_lt (by omega) (by omega)];have Ro:(strOfNums (lZ (ps k).size)).size=8:=by rw[strOfNums_size];rfl
  have hS2:=hS.trans h2;generalize hY:strOfNums (lZ (ps k).size)=Y at *;clear hY;go_wp2_with fail
  go_roundw
  case rel=>exact⟨k+1,by omega,by go_num,by rw[←Hac.o],hS2⟩
  case measure=>simp[intOf];omega
 have Zu:k=m:=by omega
 subst Zu;have hl:=vL kd ps k HP.o k (Nat.le_refl _);rw[←DR] at hl;go_wp2_with fail
 refine(hsum b _ _ (by omega) (hh.since hS) (hk.since hS)).mono ?_;rintro e w3 ⟨rfl,h3⟩;generalize YP:iQ _=q;have HS:=hid YP;clear YP;have hsz:(strOfNums q.bytes).size=32:=by rw[strOfNums_size];rfl
 go_wp2_with fail
 go_ret;exact⟨by unfold bT;rw[show (⟨(df kd ps k).toArray⟩:ByteArray)=acc kd ps k from rfl,HS.o];rfl,hS.trans h3⟩
end Sm
end
section
namespace Mt
open Go.RowKit Sm
def two (a b:ByteArray):Nat→ByteArray:=fun j=>if j=0 then a else b
def keyOf (secret word:ByteArray):ByteArray:=strOfNums (iQ (bT ⟨(df 107 (two secret word) 2).toArray⟩)).bytes
theorem pI (s:ByteArray):(bT s).size=16:=by
 unfold bT;have h:(strOfNums (iQ s).bytes).size=32:=by rw[strOfNums_size];rfl
 simp[ByteArray.size_extract,h]
theorem lJ (w:World)(a b:ByteArray)(t:TypeId)(j:Nat)(hj:j<2):(w.alloc (.cells #[.string a,.string b] t)).cell? ⟨w.heap.size,0+j,none⟩=some (.string (two a b j)):=by
 rw[Nat.zero_add,World.cell?_alloc_new]
 match j,hj with
 | 0,_=>rfl
 | 1,_=>rfl
theorem nZ (a b:ByteArray)(ha:a.size≤900)(hb:b.size≤900)(j:Nat):(two a b j).size≤900:=by
 unfold two;split<;>assumption
theorem Ox (u:Int)(h1:u≠98)(h2:u≠116):Instr.findNow (.int .u8) (.int .u8 u) uses.toList 0=some none:=by
 have q1:(u==98)=false:=by simpa using h1
 have q2:(u==116)=false:=by simpa using h2
 simp only[uses,Instr.findNow,Instr.sameNow,if_true,q1,q2]
theorem a3X (s:ByteArray)(u:Int)(w:World)(h:s.size=16)(h1:u≠98)(h2:u≠116) :
  Calls Tryz.prog 157 #[.string s,.int .u8 u] w fun e w'=>e=.returned (.tuple #[.string ⟨#[]⟩,.iface 32 (.int .i64 8)])∧Since w w':=by
 have e1:(s.size:Int)=16:=by omega
 go_enter Tryz.func157,Tryz.ntmps157
 go_wp2_with fail
 refine(ru _).mono ?_;rintro e w1 ⟨rfl,hw1⟩;have hS1:Since w w1:=by rw[hw1];exact(Since.refl w).alloc _
 have hl:=Mh w1 uses 2 w.heap.size u none (by rw[hw1];show (w.heap.push _)[w.heap.size]?=_;simp) (Ox u h1 h2);simp only at hl;clear hw1;go_wp2_with fail
 go_ret2;refine⟨rfl,?_⟩;first | exact hS1.alloc _ | exact(hS1.alloc _).setCell hS1.size _
theorem ME (s:ByteArray)(u:Int)(word:ByteArray)(w:World)(h:s.size=16)(hu:u=98∧word=jA∨u=116∧word=jO)(hT:kM w) :
  Calls Tryz.prog 157 #[.string s,.int .u8 u] w fun e w'=>e=.returned (.tuple #[.string (keyOf s word),.nilIface])∧Since w w':=by
 have e1:(s.size:Int)=16:=by omega
 have hws:word.size≤900:=by rcases hu with⟨_,rfl⟩ | ⟨_,rfl⟩<;>decide
 have hfn:∃i,Instr.findNow (.int .u8) (.int .u8 u) uses.toList 0=some (some (i,.agg #[.string word])):=by
  rcases hu with⟨rfl,rfl⟩ | ⟨rfl,rfl⟩
  ·exact⟨0,rfl⟩
  exact⟨1,rfl⟩
 obtain⟨i0,hfn⟩:=hfn;clear hu;go_enter Tryz.func157,Tryz.ntmps157
 go_wp2_with fail
 refine(ru _).mono ?_;rintro e w1 ⟨rfl,hw1⟩;have hS1:Since w w1:=by rw[hw1];exact(Since.refl w).alloc _
 have hl:=Mh w1 uses 2 w.heap.size u (some (i0,.agg #[.string word])) (by rw[hw1];show (w.heap.push _)[w.heap.size]?=_;simp) hfn;simp only at hl;clear hw1 hfn;go_wp2_with fail
 have hm:=lF 107 (w1.heap.size+1) 0 2 2 (two s word) ((w1.alloc (.cells #[.string word] 285)).alloc (.cells #[.string s,.string word] 9)) (by omega) (fun j _=>nZ s word (by omega) hws j) (hT.since ((hS1.alloc _).alloc _))
  (fun j hj=>by have h:=lJ (w1.alloc (.cells #[.string word] 285)) s word 9 j hj;rw[World.size_alloc] at h;exact h)
 rw[show ((107:UInt8).toNat:Int)=107 from rfl] at hm;refine hm.mono ?_;rintro e w2 ⟨rfl,h2⟩;have hS2:Since w w2:=((hS1.alloc _).alloc _).trans h2;clear hm h2 hl;have hms:(bT ⟨(df 107 (two s word) 2).toArray⟩).size≤100000:=by rw[pI];omega
 generalize hmk:bT ⟨(df 107 (two s word) 2).toArray⟩=mk at *;have Cq:=hid hmk;clear hmk;go_wp2_with fail
 refine(Mq mk _ hms (hT.since hS2)).mono ?_;rintro e w3 ⟨rfl,h3⟩;generalize YP:strOfNums (iQ mk).bytes=q;have HS:=hid YP;clear YP;go_wp2_with fail
 go_ret2;exact⟨by unfold keyOf;rw[Cq.o,HS.o];rfl,hS2.trans h3⟩
theorem DT (hsum:nM)(b:Nat)(s:ByteArray)(u:Int)(word:ByteArray)(w:World)(h:s.size=16)(hu:u=98∧word=jA∨u=116∧word=jO)(hh:aN w b 0 8 H0.fn)(hk:aN w b 8 64 kn) :
  Calls Tryz.prog 126 #[.pointer (some ⟨b,0,none⟩),.string s,.int .u8 u] w fun e w'=>e=.returned (.tuple #[.string (keyOf s word),.int .i64 0])∧Since w w':=by
 have e1:(s.size:Int)=16:=by omega
 have hws:word.size≤900:=by rcases hu with⟨_,rfl⟩ | ⟨_,rfl⟩<;>decide
 have hms:(bT ⟨(df 107 (two s word) 2).toArray⟩).size≤10000:=by rw[pI];omega
 rcases hu with⟨rfl,hwd⟩ | ⟨rfl,hwd⟩
 all_goals
  have HW:=hid hwd;clear hwd;go_enter Tryz.func126,Tryz.ntmps126
  go_wp2_with fail
  have hS1:Since w (w.alloc (.cells #[.string s,.string word] 9)):=(Since.refl w).alloc _;have hm:=jg hsum b 107 w.heap.size 0 2 2 (two s word) (w.alloc (.cells #[.string s,.string word] 9)) (by omega) (fun j _=>nZ s word (by omega) hws j) (hh.since hS1) (hk.since hS1) (fun j hj=>lJ w s word 9 j hj);rw[show ((107:UInt8).toNat:Int)=107 from rfl] at hm;have hwe:=HW.o;simp only[jA,jO] at hwe;rw[←hwe];clear hwe;refine hm.mono ?_;clear hm;rintro e w2 ⟨rfl,h2⟩;have hS2:Since w w2:=hS1.trans h2;clear h2;generalize hmk:bT ⟨(df 107 (two s word) 2).toArray⟩=mk at *;have Cq:=hid hmk;clear hmk;go_wp2_with fail
  refine(hsum b mk _ hms (hh.since hS2) (hk.since hS2)).mono ?_;rintro e w3 ⟨rfl,h3⟩;generalize YP:strOfNums (iQ mk).bytes=q;have HS:=hid YP;clear YP;go_wp2_with fail
  go_ret2;exact⟨by unfold keyOf;rw[Cq.o,HS.o];rfl,hS2.trans h3⟩
end Mt
end
section
namespace Tw
open Go.RowKit
open Sm (kM nM jg dW bT df lZ aN H0 kn dV)
open Sl (eH)
theorem Sd (W:World)(x y:Int)(ty:TypeId)(cap:Nat) :
  (convert 159 9 (.slice (some ⟨W.heap.size,0,none⟩) 2 cap)).run Tryz.prog (W.alloc (.cells #[.int .u8 x,.int .u8 y] ty))=.ok (.string (strOfNums [x,y])) (W.alloc (.cells #[.int .u8 x,.int .u8 y] ty)):=by
 refine dV _ [x,y] W.heap.size 2 cap rfl (fun i hi=>?_);have hi2:i<2:=hi;rw[World.cell?_alloc_new]
 match i,hi2 with
 | 0,_=>rfl
 | 1,_=>rfl
attribute [local go_sem ↓] Sd
def kF (T:Tb)(k:Nat):ByteArray:=⟨(eu T k).toArray⟩
theorem IP {T:Tb}{n:Nat}(h:fine T n)(k:Nat)(hk:k≤n):(kF T k).size=8+18*k:=by
 show (eu T k).toArray.size=_
 rw[List.size_toArray,tN h k hk]
theorem IQ (T:Tb):kF T 0=hd T:=by
 unfold kF eu;rw[uy,List.append_nil]
theorem Oy {T:Tb}{k:Nat}(hn:ig T k):kF T k++((⟨#[255]⟩:ByteArray)++txt 17 (fun _=>0))=kF T (k+1):=by
 apply ByteArray.ext
 unfold kF;rw[qG,ByteArray.data_append,ByteArray.data_append];have:cellL T k=255::List.replicate 17 0:=by unfold cellL;rw[if_pos hn]
 rw[this];have e:(⟨#[255]⟩:ByteArray).data++(txt 17 (fun _=>0)).data=(255::List.replicate 17 0).toArray:=by rfl
 rw[e];simp
theorem Oz {T:Tb}{k:Nat}(hn:¬ig T k)(z o:Nat)(hz:T.az k=z)(ho:T.off k=o):kF T k++strOfNums [(z:Int),(o:Int)]++T.tag k=kF T (k+1):=by
 apply ByteArray.ext
 unfold kF;rw[qG,ByteArray.data_append,ByteArray.data_append];have:cellL T k=UInt8.ofNat z::UInt8.ofNat o::(T.tag k).data.toList:=by unfold cellL;rw[if_neg hn,hz,ho];rfl
 rw[this];simp[strOfNums]
theorem IR (b:Nat)(key:ByteArray)(T:Tb)(w:World)(h:key.size=32)(hr:uG T=false) :
  Calls Tryz.prog 61 #[.pointer (some ⟨b,0,none⟩),.string key,aY T] w fun e w'=>e=.returned (.tuple #[.string ⟨#[]⟩,.int .i64 1])∧Since w w':=by
 have e1:(key.size:Int)=32:=by omega
 have hR:=bJ (dP T w);have mG:=fun W=>kE T W
 rw[hr] at mG;have Wi:=hid mG;clear mG hr;have hL:(ak 73 (ae T)).length=73:=ax _ _;unfold aY at *;generalize ak 73 (ae T)=cs at *;have HS:Hid (Since w (w.alloc (.cells cs.toArray 72))):=(Since.refl w).alloc _;go_enter Tryz.func61,Tryz.ntmps61
 go_wp2_with fail
 refine wp_load_mid 72 _ (by rfl) w.heap.size 0 (by rfl) _ _ hR Tryz.underlying72 (by rfl) (by rw[hL];kernel_rfl) ?_;clear hR hL;go_wp2_with fail
 refine(Wi.o _).mono ?_;rintro e w1 ⟨rfl,h1⟩;go_wp2_with fail
 go_ret2;exact⟨rfl,HS.o.trans h1⟩
end Tw
end
section
namespace Tw
open Go.RowKit
open Sm (kM nM jg dW bT df lZ aN H0 kn dV)
open Sl (eH)
attribute [local go_sem ↓] Sd
theorem tY (hsum:nM)(b:Nat)(key:ByteArray)(T:Tb)(w:World)(h:key.size=32)(hr:Rt T)(hh:aN w b 0 8 H0.fn)(hkn:aN w b 8 64 kn) :
  Calls Tryz.prog 61 #[.pointer (some ⟨b,0,none⟩),.string key,aY T] w fun e w'=>e=.returned (.tuple #[.string (text key T),.int .i64 0])∧Since w w':=by
 have e1:(key.size:Int)=32:=by omega
 have NN:=hid hr;have HH:=hid hh;have HK:=hid hkn;have hC:=dP T w;have hR:=bJ hC;have mG:=fun W=>kE T W
 rw[rE hr] at mG;have Wi:=hid mG;clear mG hr hh hkn;have hL:(ak 73 (ae T)).length=73:=ax _ _;unfold aY at *;generalize ak 73 (ae T)=cs at *;have HC:=hid hC;have HS:Hid (Since w (w.alloc (.cells cs.toArray 72))):=(Since.refl w).alloc _;clear hC;go_enter Tryz.func61,Tryz.ntmps61
 go_wp2_with fail
 refine wp_load_mid 72 _ (by rfl) w.heap.size 0 (by rfl) _ _ hR Tryz.underlying72 (by rfl) (by rw[hL];kernel_rfl) ?_;clear hR hL;go_wp2_with fail
 refine(Wi.o _).mono ?_;rintro e w1 ⟨rfl,h1⟩;have jS:=hid (HC.o.since h1);have cK:=hid (HS.o.trans h1);clear HS HC h1 Wi;have q0:=jS.o.cell 0 (by omega);rw[show ae T 0=.int .i64 T.count from rfl] at q0;go_wp2_with fail
 refine(dW _ _).mono ?_;rintro e w2 ⟨rfl,h2⟩;have HHD:strOfNums (lZ (T.count % 18446744073709551616))=kF T 0:=by rw[IQ];rfl
 rw[HHD];clear HHD q0;have nO:=hid (jS.o.since h2);have HS2:=hid (cK.o.trans h2);clear h2 jS cK;have hR:=fJ nO.o;have hL:(ak 72 (aU T)).length=72:=ax _ _;have NL:Hid (∀(k:Nat) (hk:k<24) (w:World),(Instr.index 70 (.agg (ak 72 (aU T)).toArray) (.int .i64 (k:Int))).run Tryz.prog w=.ok (.agg #[.int .i64 (T.az k),.int .i64 (T.off k),.string (T.tag k)]) w):=fun k hk w=>gX T k hk w
 generalize hcs:ak 72 (aU T)=cs2 at *;clear hcs;go_wp2_with (refine wpList_load_mid (by rfl) 70 _ (by rfl) w.heap.size 1 (by rfl) _ _ hR Tryz.underlying70 (by rfl) (by rw[hL];kernel_rfl) ?_)
 clear hR hL;go_loopw [24,8] (fun i s wr=>∃k:Nat,k≤24∧i=.int .i64 k∧s=.string (kF T k)∧Since w wr) (fun i _ _=>24-(intOf i).toNat)
 case atStart=>exact⟨0,by omega,rfl,rfl,HS2.o⟩
 obtain⟨k,hk,rfl,rfl,hs⟩:=hrel;have ed:=hid hs;clear hs;have hbz:=IP NN.o.2 k hk;by_cases hlt:k<24
 ·have hlt2:(k:Int)<24:=by omega
  have hix:=NL.o k hlt;by_cases hn:ig T k
  ·have HBN:=hid (Oy hn);obtain⟨z0,o0,t0⟩:=hn;rw[z0,o0,t0] at hix;clear z0 o0 t0;have HZ:Hid (∀W,Calls Tryz.prog 33 #[.int .i64 17] W fun e w'=>e=.returned (.string (txt 17 (fun _=>0)))∧Since W w'):=fun W=>eH 17 W (by omega)
   have b3o:(txt 17 (fun _=>0)).size=17:=bG _ _;generalize txt 17 (fun _=>0)=Z at *;generalize kF T k=B at *;go_wp2_with fail
   refine(HZ.o _).mono ?_;rintro e w4 ⟨rfl,h4⟩;have fO:Hid (Since w w4):=(ed.o.alloc _).trans h4;clear h4;have hx1:(⟨#[255]⟩:ByteArray).size+Z.size≤9223372036854775807:=by show 1+Z.size≤_;omega
   have hx2:((⟨#[255]⟩:ByteArray)++Z).size=18:=by rw[ByteArray.size_append];show 1+Z.size=18;omega
   have hx3:B.size+((⟨#[255]⟩:ByteArray)++Z).size≤9223372036854775807:=by omega
   go_wp2_with fail
   rw[HBN.o];go_roundw
   case rel=>exact⟨k+1,by omega,by go_num,rfl,fO.o⟩
   case measure=>simp[intOf];omega
  have hm:may T k:=(Bz NN.o.2 hlt).resolve_left hn;obtain⟨m1,m2,m3,m4,m5⟩:=hm;obtain⟨z,hz⟩:∃z:Nat,T.az k=z:=⟨(T.az k).toNat,by omega⟩
  obtain⟨o,ho⟩:∃o:Nat,T.off k=o:=⟨(T.off k).toNat,by omega⟩
  have HBN:=hid (Oz hn z o hz ho);rw[hz,ho] at hix;rw[hz] at m2 m3;rw[ho] at m4 m5;have hwz:IntKind.u8.wrap (z:Int)=z:=by simp[IntKind.wrap,IntKind.bits,IntKind.signed];omega
  have hwo:IntKind.u8.wrap (o:Int)=o:=by simp[IntKind.wrap,IntKind.bits,IntKind.signed];omega
  have ht1:¬(T.tag k).toList=[]:=by
   rw[ByteArray.toList_eq];intro e;have h2:(T.tag k).data.toList.length=16:=by rw[Array.length_toList];exact m1
   rw[e] at h2;exact absurd h2 (by decide)
  have ht2:(T.tag k).toList.isEmpty=false:=by
   cases hq:(T.tag k).toList with
   | nil=>exact absurd hq ht1
   | cons _ _=>rfl
  clear hz ho hn m2 m3 m4 m5;have hx0:(strOfNums [(z:Int),(o:Int)]).size=2:=strOfNums_size _;generalize T.tag k=t at *;generalize kF T k=B at *;have hx1:B.size+(strOfNums [(z:Int),(o:Int)]).size≤9223372036854775807:=by omega
  have hx2:(B++strOfNums [(z:Int),(o:Int)]).size+t.size≤9223372036854775807:=by rw[ByteArray.size_append];omega
  have hcv:=Sd (wr.alloc (.cells #[.int .i64 (z:Int),.int .i64 (o:Int),.string t] 69)) z o 5 2;rw[World.size_alloc] at hcv;go_wp2_with fail
  rw[HBN.o];go_roundw
  case rel=>exact⟨k+1,by omega,by go_num,rfl,(ed.o.alloc _).alloc _⟩
  case measure=>simp[intOf];omega
 have hke:k=24:=by omega
 subst hke;have ZA:Hid (kF T 24=body T):=show kF T 24=body T from rfl
 have HM:Hid (Wh key (body T)++body T=text key T):=rfl;have hms:=og key (body T);rw[ZA.o] at hbz ⊢;clear ZA;generalize hbd:body T=bd at *;clear hbd;go_wp2_with fail
 have hm:=jg hsum b 116 wr.heap.size 0 2 2 (two key bd) (wr.alloc (.cells #[.string key,.string bd] 9)) (by omega) (fun j _=>nZ key bd (by omega) (by omega) j) (HH.o.since (ed.o.alloc _)) (HK.o.since (ed.o.alloc _)) (fun j hj=>lJ wr key bd 9 j hj);rw[show ((116:UInt8).toNat:Int)=116 from rfl] at hm;refine hm.mono ?_;clear hm;rintro e w6 ⟨rfl,h6⟩;have Cq:bT ⟨(df 116 (two key bd) 2).toArray⟩=Wh key bd:=rfl;rw[Cq];clear Cq;have iL:Hid (Since w w6):=(ed.o.alloc _).trans h6;clear h6;generalize Wh key bd=M at *;have hx:M.size+bd.size≤9223372036854775807:=by omega
 go_wp2_with fail
 go_ret2;exact⟨by rw[←HM.o];rfl,iL.o⟩
end Tw
end
section
namespace Tw
open Go.RowKit
open Sm (kM nM aN H0 kn)
open Sl (eH)
def OA (b:Nat)(key:ByteArray)(T:Tb)(A:ByteArray)(n:Int):Prop:=∀W,aN W b 0 8 H0.fn→aN W b 8 64 kn→Calls Tryz.prog 61 #[.pointer (some ⟨b,0,none⟩),.string key,aY T] W fun e w'=>e=.returned (.tuple #[.string A,.int .i64 n])∧Since W w'
theorem OB (s:ByteArray)(k:Nat)(h:sb s (24+18*k)=255):ae (bY s (k+1))=ae (bY s k):=by
 have hz:vO s k=0:=by unfold vO;rw[if_pos h]
 have ho:vP s k=0:=by unfold vP;rw[if_pos h]
 have ht:vQ s k=⟨#[]⟩:=by unfold vQ;rw[if_pos h]
 have hq:∀{α:Type} (f:Nat→α) (d:α) (i:Nat),f k=d→(if i<k+1 then f i else d)=if i<k then f i else d:=fun f d i hf=>by
  by_cases h1:i<k
  ·rw[if_pos h1,if_pos (by omega)]
  rw[if_neg h1];by_cases h2:i=k
  ·subst h2;rw[if_pos (by omega),hf]
  rw[if_neg (by omega)]
 have:bY s (k+1)=bY s k:=Rp rfl (funext fun i=>hq (vO s) 0 i hz) (funext fun i=>hq (vP s) 0 i ho) (funext fun i=>hq (vQ s) ⟨#[]⟩ i ht);rw[this]
theorem Sg (n b:Nat)(hn:n*256+b<18446744073709551616)(hb:b<256):IntKind.u64.wrap (IntKind.u64.wrap ((n:Int)*256)+IntKind.u64.wrap (b:Int))=((n*256+b:Nat):Int):=by
 have w1:∀x:Int,IntKind.u64.wrap x=x % 18446744073709551616:=fun x=>by simp[IntKind.wrap,IntKind.bits,IntKind.signed]
 rw[w1,w1,w1];omega
theorem IU (s:ByteArray)(j:Nat):aJ (ae Tb.zero) 0 (.int .i64 (wrap64 (bU s 16 8:Int))) j=ae (bY s 0) j:=by
 unfold aJ;by_cases e:j=0
 ·rw[if_pos e];unfold ae;rw[if_pos e];unfold bY;dsimp only
 rw[if_neg e];unfold ae;rw[if_neg e,if_neg e];unfold eY bY Tb.zero;dsimp only;rw[if_neg (Nat.not_lt_zero _),if_neg (Nat.not_lt_zero _),if_neg (Nat.not_lt_zero _)]
theorem oz (b:Nat)(key s:ByteArray)(w:World)(h:key.size=32)(hs:456≤s.size)(hz:s.size≤900)(hh:aN w b 0 8 H0.fn)(hkn:aN w b 8 64 kn)(A:ByteArray)(n:Int)(res:Value)(hA:A.size≤900)(hw:OA b key (rd s) A n)(hres:(n=1∧res=.tuple #[aY Tb.zero,.int .i64 15])∨(n=0∧¬s=A++txt (s.size-456) (fun _=>0)∧res=.tuple #[aY Tb.zero,.int .i64 15])∨(n=0∧s=A++txt (s.size-456) (fun _=>0)∧res=.tuple #[aY (rd s),.int .i64 0])) :
  Calls Tryz.prog 147 #[.pointer (some ⟨b,0,none⟩),.string key,.string s] w fun e w'=>e=.returned res∧Since w w':=by
 have e1:(key.size:Int)=32:=by omega
 have e2:¬(s.size:Int)<456:=by omega
 have HH:=hid hh;have HK:=hid hkn;have HW:=hid hw;have VC:=hid hres;have VD:Hid (aA ((w.alloc (.cells Tryz.zeroCells72 72)).alloc (.cells Tryz.zeroCells72 72)) w.heap.size 73 (ae Tb.zero)):=(bA w w.heap.size rfl).since ((Since.refl _).alloc _);have HD0:Hid (aA ((w.alloc (.cells Tryz.zeroCells72 72)).alloc (.cells Tryz.zeroCells72 72)) (w.heap.size+1) 73 (ae Tb.zero)):=bA _ (w.heap.size+1) (by simp);have qI:Hid (Since w ((w.alloc (.cells Tryz.zeroCells72 72)).alloc (.cells Tryz.zeroCells72 72))):=((Since.refl w).alloc _).alloc _;clear hh hkn hw hres;go_enter Tryz.func147,Tryz.ntmps147
 go_wp2_with fail
 generalize (w.alloc (.cells Tryz.zeroCells72 72)).alloc (.cells Tryz.zeroCells72 72)=w0 at *;go_loopw [23,9,10] (fun i c _ wr=>∃k:Nat,k≤8∧i=.int .i64 k∧c=.int .u64 (bU s 16 k:Int)∧wr=w0) (fun i _ _ _=>8-(intOf i).toNat)
 case atStart=>exact⟨0,by omega,rfl,rfl,rfl⟩
 obtain⟨k,hk,rfl,rfl,rfl⟩:=hrel;by_cases hlt:k<8
 ·have hlt2:(k:Int)<8:=by omega
  have hlt3:16+k<s.size:=by omega
  have hb:s[16+k]=sb s (16+k):=tK s (16+k) hlt3;have Rc:=CJ s 16 (k+1);have hle:256 ^ (k+1)≤256 ^ 8:=Nat.pow_le_pow_right (by omega) (by omega);have HO:Hid (IntKind.u64.wrap (IntKind.u64.wrap ((bU s 16 k:Int)*256)+IntKind.u64.wrap ((sb s (16+k)).toNat:Int))=((bU s 16 (k+1):Nat):Int)):=by
   have h2:bU s 16 (k+1)=bU s 16 k*256+(sb s (16+k)).toNat:=by rw[bU]
   rw[h2] at Rc ⊢;exact Sg _ _ (by omega) ((sb s (16+k)).toNat_lt)
  clear Rc hle;go_wp2_with fail
  go_roundw
  case rel=>exact⟨k+1,by omega,by go_num,by rw[HO.o],trivial⟩
  case measure=>simp[intOf];omega
 have hke:k=8:=by omega
 subst hke;have q0:=HD0.o.cell 0 (by omega);have f0:=HD0.o.frozen 0 (by omega);have HD1:Hid (aA (wr.setCell ⟨w.heap.size+1,0,none⟩ (.int .i64 (wrap64 (bU s 16 8:Int)))) (w.heap.size+1) 73 (ae (bY s 0))):=(HD0.o.set 0 (by omega) _).congr (fun j hj=>IU s j);have jS:Hid (aA (wr.setCell ⟨w.heap.size+1,0,none⟩ (.int .i64 (wrap64 (bU s 16 8:Int)))) w.heap.size 73 (ae Tb.zero)):=VD.o.other (by show w.heap.size+1≠w.heap.size;omega) _;have cK:Hid (Since w (wr.setCell ⟨w.heap.size+1,0,none⟩ (.int .i64 (wrap64 (bU s 16 8:Int))))):=qI.o.setCell (by show w.heap.size≤w.heap.size+1;omega) _;clear HD0 VD qI;go_wp2_with fail
 generalize wr.setCell ⟨w.heap.size+1,0,none⟩ (.int .i64 (wrap64 (bU s 16 8:Int)))=w1 at *;generalize (bU s 16 8:Int)=c at *;clear q0 f0;go_loopw [38,11,12] (fun i _ _ wq=>∃k:Nat,k≤24∧i=.int .i64 k∧aA wq (w.heap.size+1) 73 (ae (bY s k))∧aA wq w.heap.size 73 (ae Tb.zero)∧Since w wq) (fun i _ _ _=>24-(intOf i).toNat)
 case atStart=>exact⟨0,by omega,rfl,HD1.o,jS.o,cK.o⟩
 obtain⟨k,hk,rfl,hc,hd,hs2⟩:=hrel;have zn:=hid hc;have HDK:=hid hd;have ed:=hid hs2;clear hc hd hs2 HD1 jS cK;by_cases a3Z:k<24
 ·have RG:(k:Int)<24:=by omega
  have hle1:((42+18*k:Nat):Int)≤s.size:=by omega
  have z2:(s.extract (24+18*k) (42+18*k)).size=18:=by rw[ByteArray.size_extract];omega
  have x0:sb (s.extract (24+18*k) (42+18*k)) 0=sb s (24+18*k):=by rw[kD s _ _ 0 (by omega) (by omega),Nat.add_zero]
  have x1:sb (s.extract (24+18*k) (42+18*k)) 1=sb s (25+18*k):=by rw[kD s _ _ 1 (by omega) (by omega),show 24+18*k+1=25+18*k by omega]
  have x2:(s.extract (24+18*k) (42+18*k)).extract 2 18=s.extract (26+18*k) (42+18*k):=by rw[Bv s _ _ 2 18 (by omega),show 24+18*k+2=26+18*k by omega,show 24+18*k+18=42+18*k by omega]
  have hb0:=tK (s.extract (24+18*k) (42+18*k)) 0 (by omega);have hb1:=tK (s.extract (24+18*k) (42+18*k)) 1 (by omega);have hxI:((s.extract (24+18*k) (42+18*k)).size:Int)=18:=by omega
  rw[x0] at hb0;rw[x1] at hb1;clear x0 x1;by_cases DU:sb s (24+18*k)=255
  ·have iM:Hid (aA wr (w.heap.size+1) 73 (ae (bY s (k+1)))):=by
    show aA _ _ _ _
    rw[OB s k DU];exact zn.o
   rw[DU] at hb0;clear DU hb1 x2;go_wp2_with fail
   go_roundw
   case rel=>exact⟨k+1,by omega,by go_num,iM.o,HDK.o,ed.o⟩
   case measure=>simp[intOf];omega
  have HZ:Hid (vO s k=((sb s (24+18*k)).toNat:Int)):=by show vO s k=_;unfold vO;rw[if_neg DU]
  have HO:Hid (vP s k=((sb s (25+18*k)).toNat:Int)):=by show vP s k=_;unfold vP;rw[if_neg DU]
  have HTG:Hid (vQ s k=s.extract (26+18*k) (42+18*k)):=by show vQ s k=_;unfold vQ;rw[if_neg DU]
  have hu:¬((sb s (24+18*k)).toNat:Int)=255:=by
   intro e;exact DU (UInt8.toNat_inj.1 (by rw[show (255:UInt8).toNat=255 from rfl];omega))
  have hw0:=Ms (sb s (24+18*k));have hw1:=Ms (sb s (25+18*k));have iM:Hid (aA wr.drew (w.heap.size+1) 73 (ae (bY s k))):=zn.o.since (Since.refl _).drew;have HD5:Hid (aA wr.drew w.heap.size 73 (ae Tb.zero)):=HDK.o.since (Since.refl _).drew;have jX:=hid ed.o.drew;have q0:=iM.o.cell (1+k*3) (by omega);have q1:=iM.o.cell (1+k*3+1) (by omega);have q2:=iM.o.cell (1+k*3+2) (by omega);have f0:=iM.o.frozen (1+k*3) (by omega);have f1:=iM.o.frozen (1+k*3+1) (by omega);have f2:=iM.o.frozen (1+k*3+2) (by omega);have p0:=zn.o.cell (1+k*3) (by omega);have p1:=zn.o.cell (1+k*3+1) (by omega);have p2:=zn.o.cell (1+k*3+2) (by omega);have g0:=zn.o.frozen (1+k*3) (by omega);have g1:=zn.o.frozen (1+k*3+1) (by omega);have g2:=zn.o.frozen (1+k*3+2) (by omega)
  have uH:=((zn.o.set (1+k*3) (by omega) (.int .i64 (vO s k))).set (1+k*3+1) (by omega) (.int .i64 (vP s k))).set (1+k*3+2) (by omega) (.string (vQ s k));have QZ:=uH.congr (fun j hj=>Dh s k a3Z j hj);have hD6:=((HDK.o.other (a:=⟨w.heap.size+1,1+k*3,none⟩) (by show w.heap.size+1≠w.heap.size;omega) (.int .i64 (vO s k))).other (a:=⟨w.heap.size+1,1+k*3+1,none⟩) (by show w.heap.size+1≠w.heap.size;omega) (.int .i64 (vP s k))).other (a:=⟨w.heap.size+1,1+k*3+2,none⟩) (by show w.heap.size+1≠w.heap.size;omega) (.string (vQ s k));have gH:=((ed.o.setCell (p:=⟨w.heap.size+1,1+k*3,none⟩) (by show w.heap.size≤w.heap.size+1;omega) (.int .i64 (vO s k))).setCell (p:=⟨w.heap.size+1,1+k*3+1,none⟩) (by show w.heap.size≤w.heap.size+1;omega) (.int .i64 (vP s k))).setCell (p:=⟨w.heap.size+1,1+k*3+2,none⟩) (by show w.heap.size≤w.heap.size+1;omega) (.string (vQ s k))
  rw[HZ.o,HO.o,HTG.o] at QZ hD6 gH;have Qw:Hid (aA _ (w.heap.size+1) 73 (ae (bY s (k+1)))):=QZ.since (Since.refl _).drew;have HD7:Hid (aA _ w.heap.size 73 (ae Tb.zero)):=hD6.since (Since.refl _).drew;have mH:=hid gH.drew;clear uH QZ hD6 gH DU;go_wp2_with fail
  go_region
  clear p0 p1 p2 g0 g1 g2 q0 q1 q2 f0 f1 f2;go_wp2_with fail
  go_roundw
  case rel=>exact⟨k+1,by omega,by go_num,Qw.o,HD7.o,mH.o⟩
  case measure=>simp[intOf];omega
 have hke:k=24:=by omega
 subst hke;have hR:=bJ zn.o;have hL:=jc (bY s 24);have hV:aY (rd s)=.agg (ak 73 (ae (bY s 24))).toArray:=rfl;rw[hV] at VC;have HW2:=hid HW.o;clear HW hV;go_wp2_with (refine wpList_load_mid (by rfl) 72 _ (by rfl) (w.heap.size+1) 0 (by rfl) _ _ hR Tryz.underlying72 (by rfl) (by rw[hL];kernel_rfl) ?_)
 refine(HW2.o _ (HH.o.since ed.o) (HK.o.since ed.o)).mono ?_;rintro e w5 ⟨rfl,h5⟩;have iM:=hid (zn.o.since h5);have HD5:=hid (HDK.o.since h5);have jX:=hid (ed.o.trans h5);clear h5 zn HDK ed hR HW2;rcases VC.o with⟨he,hr⟩ | ⟨he,hne,hr⟩ | ⟨he,heq,hr⟩
 ·subst he;have HR:=hid hr;clear hr VC;obtain⟨hst,hR⟩:=iI HD5.o;have rF:=hid hR;have iL:Hid (Since w (w5.setCells w.heap.size 0 Tryz.zeroCells72.toList)):=jX.o.setCells (Nat.le_refl _) _ _;clear hR;go_wp2_with fail
  exact bodyPost_ret (aR Tryz.results147 _ _ _ w.heap.size _ _ _ (by rfl) rF.o Tryz.underlying72 (by rfl) (by rw[jc];kernel_rfl) rfl) rfl ⟨by rw[HR.o];rfl,iL.o⟩
 ·subst he;have HR:=hid hr;have hnl:=fD hne;clear hr VC hne;have E1:Hid ((s.size:Int)-456=((s.size-456:Nat):Int)):=show (s.size:Int)-456=((s.size-456:Nat):Int) by omega
  have HZZ:Hid (∀W,Calls Tryz.prog 33 #[.int .i64 ((s.size-456:Nat):Int)] W fun e w'=>e=.returned (.string (txt (s.size-456) (fun _=>0)))∧Since W w'):=fun W=>eH (s.size-456) W (by omega)
  have hzz:(txt (s.size-456) (fun _=>0)).size=s.size-456:=bG _ _;go_wp2_with fail
  rw[E1.out];generalize txt (s.size-456) (fun _=>0)=Z at *;refine(HZZ.o _).mono ?_;rintro e w6 ⟨rfl,h6⟩;have HD6:=hid (HD5.o.since h6);have iL:=hid (jX.o.trans h6);clear h6;have hadd:A.size+Z.size≤9223372036854775807:=by omega
  obtain⟨hst,hR⟩:=iI HD6.o;have rF:=hid hR;have mH:Hid (Since w (w6.setCells w.heap.size 0 Tryz.zeroCells72.toList)):=iL.o.setCells (Nat.le_refl _) _ _;clear hR;go_wp2_with fail
  exact bodyPost_ret (aR Tryz.results147 _ _ _ w.heap.size _ _ _ (by rfl) rF.o Tryz.underlying72 (by rfl) (by rw[jc];kernel_rfl) rfl) rfl ⟨by rw[HR.o];rfl,mH.o⟩
 subst he;have HR:=hid hr;have HEQ:=hid heq.symm;clear hr VC heq;have E1:Hid ((s.size:Int)-456=((s.size-456:Nat):Int)):=show (s.size:Int)-456=((s.size-456:Nat):Int) by omega
 have HZZ:Hid (∀W,Calls Tryz.prog 33 #[.int .i64 ((s.size-456:Nat):Int)] W fun e w'=>e=.returned (.string (txt (s.size-456) (fun _=>0)))∧Since W w'):=fun W=>eH (s.size-456) W (by omega)
 have hzz:(txt (s.size-456) (fun _=>0)).size=s.size-456:=bG _ _;go_wp2_with fail
 rw[E1.out];generalize txt (s.size-456) (fun _=>0)=Z at *;refine(HZZ.o _).mono ?_;rintro e w6 ⟨rfl,h6⟩;have Hd:=hid (iM.o.since h6);have HD6:=hid (HD5.o.since h6);have iL:=hid (jX.o.trans h6);clear h6;have hadd:A.size+Z.size≤9223372036854775807:=by omega
 have heq2:=HEQ.o;obtain⟨hst,QZ⟩:=di HD6.o (bY s 24);have rF:=hid (bJ QZ);have mH:Hid (Since w (w6.setCells w.heap.size 0 (ak 73 (ae (bY s 24))))):=iL.o.setCells (Nat.le_refl _) _ _;have hR:=bJ Hd.o;clear QZ;go_wp2_with (refine wpList_load_mid (by rfl) 72 _ (by rfl) (w.heap.size+1) 0 (by rfl) _ _ hR Tryz.underlying72 (by rfl) (by rw[hL];kernel_rfl) ?_)
 exact bodyPost_ret (aR Tryz.results147 _ _ _ w.heap.size _ _ _ (by rfl) rF.o Tryz.underlying72 (by rfl) (by rw[jc];kernel_rfl) rfl) rfl ⟨by rw[HR.o];rfl,mH.o⟩
end Tw
end
end Go.Proofs.YtlgbfkcpdelcbaaGreatDoor
