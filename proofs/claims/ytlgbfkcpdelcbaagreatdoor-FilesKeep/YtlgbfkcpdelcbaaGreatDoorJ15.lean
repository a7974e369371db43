import Derived.Test.YtlgbfkcpdelcbaaGreatDoorJ12
import Derived.Test.YtlgbfkcpdelcbaaGreatDoorJ14
set_option linter.unusedSimpArgs false
set_option linter.unusedVariables false
set_option maxHeartbeats 8000000
set_option maxRecDepth 100000
namespace Go.Proofs.YtlgbfkcpdelcbaaGreatDoor
section
namespace Sm
theorem jC (x:BitVec 32)(n:Nat)(h1:n<32):GY x n=kJ x (32-n):=by
 unfold GY kJ;rw[show 32-(32-n)=n by omega,BitVec.or_comm];apply BitVec.add_eq_or_of_and_eq_zero
 apply BitVec.eq_of_getLsbD_eq
 intro i hi;simp only[BitVec.getLsbD_and,BitVec.getLsbD_ushiftRight,BitVec.getLsbD_shiftLeft,BitVec.getLsbD_zero];by_cases h:i<32-n
 ·simp[h]
 have:x.getLsbD (n+i)=false:=BitVec.getLsbD_of_ge x (n+i) (by omega);simp[this]
theorem NT (e f g:BitVec 32):g ^^^ e &&& (f ^^^ g)=e &&& f ^^^ ~~~e &&& g:=by
 apply BitVec.eq_of_getLsbD_eq
 intro i hi;simp only[BitVec.getLsbD_and,BitVec.getLsbD_xor,BitVec.getLsbD_not,hi];cases e.getLsbD i<;>cases f.getLsbD i<;>cases g.getLsbD i<;>rfl
theorem Wp (a b c:BitVec 32):a &&& b ||| c &&& (a ||| b)=a &&& b ^^^ a &&& c ^^^ b &&& c:=by
 apply BitVec.eq_of_getLsbD_eq
 intro i hi;simp only[BitVec.getLsbD_and,BitVec.getLsbD_xor,BitVec.getLsbD_or];cases a.getLsbD i<;>cases b.getLsbD i<;>cases c.getLsbD i<;>rfl
theorem horner (x:BitVec 32)(d:UInt8):x*BitVec.ofInt 32 256+BitVec.ofNat 32 d.toNat=x <<< 8 ||| BitVec.ofNat 32 d.toNat:=by
 have e:x*BitVec.ofInt 32 256=x <<< 8:=by
  apply BitVec.eq_of_toNat_eq
  have h:(BitVec.ofInt 32 256).toNat=256:=by decide
  rw[BitVec.toNat_mul,BitVec.toNat_shiftLeft,Nat.shiftLeft_eq,h]
 rw[e];apply BitVec.add_eq_or_of_and_eq_zero
 apply BitVec.eq_of_getLsbD_eq
 intro i hi;simp only[BitVec.getLsbD_and,BitVec.getLsbD_shiftLeft,BitVec.getLsbD_zero];by_cases h:i<8
 ·simp[h]
 have hd:=d.toNat_lt;have:(BitVec.ofNat 32 d.toNat).getLsbD i=false:=by
  rw[BitVec.getLsbD_ofNat,Nat.testBit_lt_two_pow (Nat.lt_of_lt_of_le hd (Nat.pow_le_pow_right (by decide) (show 8≤i by omega)))];simp
 simp[this]
theorem oq (a b c d:UInt8):(((0*BitVec.ofInt 32 256+BitVec.ofNat 32 a.toNat)*BitVec.ofInt 32 256+BitVec.ofNat 32 b.toNat)*BitVec.ofInt 32 256+BitVec.ofNat 32 c.toNat)*BitVec.ofInt 32 256+BitVec.ofNat 32 d.toNat=nH a b c d:=by
 rw[horner,horner,horner,horner];unfold nH;simp only[BitVec.shiftLeft_or_distrib,←BitVec.shiftLeft_add];have e0:(0:BitVec 32) <<< (8+8+8+8)=0#32:=by decide
 rw[e0,BitVec.zero_or]
def msg (s:ByteArray):ByteArray:=s++strOfNums (pad s.size)
theorem Dq (s:ByteArray):(msg s).size=s.size+(72-(s.size+8) % 64):=by
 unfold msg;rw[ByteArray.size_append,strOfNums_size,mi]
theorem Wq (s:ByteArray):(msg s).size % 64=0:=by rw[Dq];omega
theorem Rx (a b:ByteArray)(i j:Nat)(h:j≤a.size):(a++b).extract i j=a.extract i j:=by
 apply ByteArray.ext
 rw[ByteArray.data_extract,ByteArray.data_extract,ByteArray.data_append,Array.extract_append];have e:a.data.size=a.size:=rfl;have:(b.data.extract (i-a.data.size) (j-a.data.size))=#[]:=by
  apply Array.eq_empty_of_size_eq_zero;simp;omega
 rw[this,Array.append_empty]
theorem NU (a b:ByteArray)(i j:Nat)(h:a.size≤i):(a++b).extract i j=b.extract (i-a.size) (j-a.size):=by
 apply ByteArray.ext
 rw[ByteArray.data_extract,ByteArray.data_extract,ByteArray.data_append,Array.extract_append];have e:a.data.size=a.size:=rfl;have:(a.data.extract i j)=#[]:=by
  apply Array.eq_empty_of_size_eq_zero;simp;omega
 rw[this,Array.empty_append]
 rfl
theorem NV (s:ByteArray)(i:Nat)(h:i≤s.size):s.extract 0 i++s.extract i s.size=s:=by
 apply ByteArray.ext
 rw[ByteArray.data_append,ByteArray.data_extract,ByteArray.data_extract];have e:s.data.size=s.size:=rfl;rw[←e,Array.extract_append_extract];simp;omega
theorem head_size (s:ByteArray):(kz s).size=s.size-s.size % 64:=by unfold kz;simp[ByteArray.size_extract]
theorem zQ (s:ByteArray):kz s++tH s=msg s:=by
 unfold kz tH msg;rw[←ByteArray.append_assoc,NV s _ (by omega)]
theorem Iq (st:St)(a b:ByteArray):∀n,n*64≤a.size→dI st (a++b) n=dI st a n:=by
 intro n;induction n with
 | zero=>intro _;rfl
 | succ n ih=>
  intro h;unfold dI;rw[ih (by omega)];unfold blk;rw[Rx a b _ _ (by omega)]
theorem Dr (st:St)(a b:ByteArray)(k:Nat)(hk:a.size=k*64):∀n,dI st (a++b) (k+n)=dI (dI st a k) b n:=by
 intro n;induction n with
 | zero=>exact Iq st a b k (by omega)
 | succ n ih=>
  show (dI st (a++b) (k+n)).mix (blk (a++b) (k+n))=(dI (dI st a k) b n).mix (blk b n)
  rw[ih];unfold blk;rw[NU a b _ _ (by omega),hk,show (k+n)*64-k*64=n*64 by omega,show (k+n+1)*64-k*64=(n+1)*64 by omega]
theorem Ws (s:ByteArray):iQ s=dI H0 (msg s) ((msg s).size / 64):=by
 have h1:=head_size s;have h2:(kz s).size=(kz s).size / 64*64:=by omega
 have h3:(msg s).size / 64=(kz s).size / 64+(tH s).size / 64:=by
  have e:=congrArg ByteArray.size (zQ s);rw[ByteArray.size_append] at e;omega
 rw[←zQ s] at h3 ⊢;rw[h3,Dr H0 _ _ _ h2]
 rfl
theorem NW (a b:ByteArray)(j:Nat)(h:j<a.size):ik (a++b) j=ik a j:=by
 unfold ik;have e:(a++b).data.toList=a.data.toList++b.data.toList:=by rw[ByteArray.data_append];simp
 have h':j<a.data.toList.length:=by simpa using h
 rw[e,List.getD_eq_getElem?_getD,List.getElem?_append_left h',←List.getD_eq_getElem?_getD]
theorem Ir (a b:ByteArray)(j:Nat):ik (a++b) (a.size+j)=ik b j:=by
 unfold ik;have e:(a++b).data.toList=a.data.toList++b.data.toList:=by rw[ByteArray.data_append];simp
 have h':a.data.toList.length=a.size:=by simp
 rw[e,List.getD_eq_getElem?_getD,List.getElem?_append_right (by omega),h',show a.size+j-a.size=j by omega,←List.getD_eq_getElem?_getD]
theorem NY (l:List Int)(j:Nat)(hj:j<l.length)(h:∀x ∈ l,0≤x∧x<256):ik (strOfNums l) j=l.getD j 0:=by
 unfold ik;rw[strOfNums_data,List.getD_eq_getElem?_getD,List.getElem?_map,List.getElem?_eq_getElem hj,List.getD_eq_getElem?_getD,List.getElem?_eq_getElem hj];have hx:=h l[j] (List.getElem_mem hj);simp;omega
theorem ZE (n:Int)(h0:0≤n)(h1:n<18446744073709551616):∀x ∈ lZ n,0≤x∧x<256:=by
 intro x hx;simp only[lZ,List.mem_cons,List.not_mem_nil,or_false] at hx;omega
theorem ZF (n:Nat)(h:n≤1000000):∀x ∈ pad n,0≤x∧x<256:=by
 intro x hx;unfold pad at hx;rcases List.mem_append.1 hx with hx | hx
 ·rcases List.mem_append.1 hx with hx | hx
  ·simp at hx;omega
  rw[List.eq_of_mem_replicate hx];omega
 exact ZE _ (by omega) (by omega) x hx
def iR (n:Nat):Nat:=n+1+(63-(n+8) % 64)
theorem Iu (s:ByteArray)(j:Nat)(h:s.size≤1000000)(h1:s.size≤j)(h2:j<iR s.size+8):ik (msg s) j=(pad s.size).getD (j-s.size) 0:=by
 obtain⟨k,rfl⟩:=Nat.exists_eq_add_of_le h1;unfold msg;rw[Ir,NY _ _ (by rw[mi];unfold iR at h2;omega) (ZF _ h),show s.size+k-s.size=k by omega]
theorem Wt (s:ByteArray)(h:s.size≤1000000):ik (msg s) s.size=128:=by
 rw[Iu s _ h (Nat.le_refl _) (by unfold iR;omega),Nat.sub_self];rfl
theorem a3E (s:ByteArray)(j:Nat)(h:s.size≤1000000)(h1:s.size<j)(h2:j<iR s.size):ik (msg s) j=0:=by
 rw[Iu s _ h (by omega) (by omega)];unfold iR at h2;unfold pad;rw[List.getD_eq_getElem?_getD,List.getElem?_append_left (by simp;omega),List.getElem?_append_right (by simp;omega),List.getElem?_replicate,if_pos (by simp;omega)]
 rfl
theorem a3F (s:ByteArray)(t:Nat)(h:s.size≤1000000)(ht:t<8):ik (msg s) (iR s.size+t)=(lZ (8*s.size)).getD t 0:=by
 rw[Iu s _ h (by unfold iR;omega) (by omega)];unfold pad;have e:iR s.size+t-s.size=([128]++List.replicate (63-(s.size+8) % 64) (0:Int)).length+t:=by unfold iR;simp;omega
 rw[e,List.getD_eq_getElem?_getD,List.getElem?_append_right (by omega),Nat.add_sub_cancel_left,←List.getD_eq_getElem?_getD]
theorem BF (s:ByteArray):(msg s).size=iR s.size+8:=by rw[Dq];unfold iR;omega
theorem Bs.congr {w:World}{B g n cap:Nat}{f f':Nat→Int}(h:Bs w B g n cap f)(e:∀j,j<n→f j=f' j):Bs w B g n cap f':=
 ⟨h.new,h.le,h.lt,fun j hj=>by rw[←e j hj];exact h.holds j hj,h.there⟩
theorem Bs.more {w:World}{B g n cap:Nat}{f:Nat→Int}{d:Int}(h:Bs w B g (n+1) cap (uI f n d))(hd:f n=d):Bs w B g (n+1) cap f:=
 h.congr (fun j hj=>by
  unfold uI;by_cases h1:j<n
  ·rw[if_pos h1]
  rw[if_neg h1,show j=n by omega,hd])
theorem ZG (a b c d:UInt8):((BitVec.ofInt 32 (a.toNat:Int)*256#32+BitVec.ofInt 32 (b.toNat:Int))*256#32+BitVec.ofInt 32 (c.toNat:Int))*256#32+BitVec.ofInt 32 (d.toNat:Int)=nH a b c d:=by
 rw[←oq a b c d];have e:BitVec.ofInt 32 256=256#32:=by decide
 simp only[BitVec.ofInt_natCast,e]
 congr 6
 have z:(0:BitVec 32)*256#32=0#32:=by decide
 rw[z,BitVec.zero_add]
theorem rG (M:ByteArray)(t i:Nat)(h:(t+1)*64≤M.size)(hi:i<64):aT (blk M t) i=aT M (64*t+i):=by
 have h1:i<(blk M t).size:=by unfold blk;simp[ByteArray.size_extract];omega
 have e:aT (blk M t) i=(blk M t)[i]:=by
  unfold aT;rw[List.getD_eq_getElem?_getD,List.getElem?_eq_getElem (by simpa using h1)];rfl
 rw[e];exact(gU M (t*64) ((t+1)*64) i h1 h).trans (by rw[Nat.mul_comm t 64])
theorem Ry (M:ByteArray)(t k:Nat)(h:(t+1)*64≤M.size)(hk:k<16) :
  ((BitVec.ofInt 32 (ik M (64*t+4*k))*256#32+BitVec.ofInt 32 (ik M (64*t+4*k+1)))*256#32+BitVec.ofInt 32 (ik M (64*t+4*k+2)))*256#32+BitVec.ofInt 32 (ik M (64*t+4*k+3))=aC (blk M t) k:=by
 unfold aC;rw[rG M t _ h (by omega),rG M t _ h (by omega),rG M t _ h (by omega),rG M t _ h (by omega)];exact ZG (aT M (64*t+4*k)) (aT M (64*t+(4*k+1))) (aT M (64*t+(4*k+2))) (aT M (64*t+(4*k+3)))
def BG (b:ByteArray)(k:Nat):Nat→BitVec 32:=if k≤16 then zG b k else aH b (k-16)
theorem Rz {w:World}{b:Nat}{M:ByteArray}{t k:Nat}(hA:aN w b 0 64 (BG (blk M t) k))(h:(t+1)*64≤M.size)(hk:k<16) :
  aN (w.setCell ⟨b,k,none⟩ (U (((BitVec.ofInt 32 (ik M (64*t+4*k))*256#32+BitVec.ofInt 32 (ik M (64*t+4*k+1)))*256#32+BitVec.ofInt 32 (ik M (64*t+4*k+2)))*256#32+BitVec.ofInt 32 (ik M (64*t+4*k+3))))) b 0 64 (BG (blk M t) (k+1)):=by
 rw[Ry M t k h hk];have h3:=hA.set k (by omega) (aC (blk M t) k);rw[Nat.zero_add] at h3;refine h3.congr (fun j hj=>?_);unfold BG;rw[if_pos (by omega),if_pos (by omega)];exact CO _ k j
theorem tX (b:ByteArray)(k:Nat)(h:16≤k):BG b k=aH b (k-16):=by
 unfold BG;by_cases e:k=16
 ·subst e;rw[if_pos (by omega)];rfl
 rw[if_neg (by omega)]
theorem RA {wr:World}{b:Nat}{s:ByteArray}{k:Nat}(h:aN wr b 0 64 (aH s (k-16)))(hk:16≤k)(hlt:k<64) :
  aN (wr.setCell ⟨b,k,none⟩ (U ((GY (aH s (k-16) (k-2)) 17 ^^^ GY (aH s (k-16) (k-2)) 19 ^^^ aH s (k-16) (k-2) >>> 10)+aH s (k-16) (k-7)+(GY (aH s (k-16) (k-15)) 7 ^^^ GY (aH s (k-16) (k-15)) 18 ^^^ aH s (k-16) (k-15) >>> 3)+aH s (k-16) (k-16)))) b 0 64 (BG s (k+1)):=by
 rw[tX s (k+1) (by omega),jC _ 17 (by decide),jC _ 19 (by decide),jC _ 7 (by decide),jC _ 18 (by decide)];exact Ml h hk hlt
theorem round_eq (r:St)(k w:BitVec 32) :
  (⟨(r.h+(GY r.e 6 ^^^ GY r.e 11 ^^^ GY r.e 25)+(r.g ^^^ r.e &&& (r.f ^^^ r.g))+k+w)+((GY r.a 2 ^^^ GY r.a 13 ^^^ GY r.a 22)+(r.a &&& r.b ||| r.c &&& (r.a ||| r.b))),r.a,r.b,r.c,
   r.d+(r.h+(GY r.e 6 ^^^ GY r.e 11 ^^^ GY r.e 25)+(r.g ^^^ r.e &&& (r.f ^^^ r.g))+k+w),r.e,r.f,r.g⟩:St)=r.step k w:=by
 unfold St.step St.one St.two;rw[jC _ 6 (by decide),jC _ 11 (by decide),jC _ 25 (by decide),jC _ 2 (by decide),jC _ 13 (by decide),jC _ 22 (by decide),NT,Wp]
theorem Iw (g t T cap:Nat):Value.slice (if cap-64*t=64 then some ⟨g,64*t,none⟩ else some ⟨g,64*t+64,none⟩) (64*T-64*t-64) (cap-64*t-64)=.slice (some ⟨g,if cap-64*t=64 then 64*t else 64*t+64,none⟩) (64*T-64*(t+1)) (cap-64*(t+1)):=by
 rw[show 64*T-64*(t+1)=64*T-64*t-64 by omega,show cap-64*(t+1)=cap-64*t-64 by omega];split<;>rfl
theorem NZ (w:World)(b g j:Nat)(t:St)(h:g≠b) :
  ((((((((w.setCell ⟨b,0,none⟩ (U t.a)).setCell ⟨b,1,none⟩ (U t.b)).setCell ⟨b,2,none⟩ (U t.c)).setCell ⟨b,3,none⟩ (U t.d)).setCell ⟨b,4,none⟩ (U t.e)).setCell ⟨b,5,none⟩ (U t.f)).setCell ⟨b,6,none⟩ (U t.g)).setCell ⟨b,7,none⟩ (U t.h)).cell? ⟨g,j,none⟩=w.cell? ⟨g,j,none⟩:=by
 have e:∀(w:World) (o:Nat) (v:Value),(w.setCell ⟨b,o,none⟩ v).cell? ⟨g,j,none⟩=w.cell? ⟨g,j,none⟩:=fun w o v=>
  World.cell?_setCell_other _ _ _ _ (by intro hc;injection hc with h1 _;exact h h1.symm)
 rw[e,e,e,e,e,e,e,e]
theorem Oa (w:World)(b:Nat)(t:St) :
  ((((((((w.setCell ⟨b,0,none⟩ (U t.a)).setCell ⟨b,1,none⟩ (U t.b)).setCell ⟨b,2,none⟩ (U t.c)).setCell ⟨b,3,none⟩ (U t.d)).setCell ⟨b,4,none⟩ (U t.e)).setCell ⟨b,5,none⟩ (U t.f)).setCell ⟨b,6,none⟩ (U t.g)).setCell ⟨b,7,none⟩ (U t.h)).heap.size=w.heap.size:=by
 simp[World.setCell]
end Sm
end
section
namespace Sm
open Go.RowKit
attribute [local go_sem] gQ eF iB iC lq iD iE iG eG cZ dG bu fe dC zl
attribute [local go_sem ↓] dU uz QO QP fo Bf Bg strOfNums_size
def Wu:Value→Nat
 | .slice _ n _=>n
 | _=>0
theorem RD (b:Nat)(s:ByteArray)(w:World)(hs:s.size≤10000)(hh:aN w b 0 8 H0.fn)(hk:aN w b 8 64 kn) :
  Calls Tryz.prog 196 #[.pointer (some ⟨b,0,none⟩),.string s] w fun e w'=>e=.returned (.string (strOfNums (iQ s).bytes))∧Since w w':=by
 obtain⟨_,c0,c1,c2,c3,c4,c5,c6,c7,_,_,_,_,_,_,_,_⟩:=qD.of hh;have hcv:=xg;have hW0:(w.alloc (.cells #[U H0.a,U H0.b,U H0.c,U H0.d,U H0.e,U H0.f,U H0.g,U H0.h] 82)).heap.size=w.heap.size+1:=by simp
 have hBs:=Wo (w.alloc (.cells #[U H0.a,U H0.b,U H0.c,U H0.d,U H0.e,U H0.f,U H0.g,U H0.h] 82)) s;rw[hW0] at hBs;have HBs:=hid hBs;have hB1:∀o,w.heap.size+1≤((Lib.bytesWorld (w.alloc (.cells #[U H0.a,U H0.b,U H0.c,U H0.d,U H0.e,U H0.f,U H0.g,U H0.h] 82)) 5 s).alloc o).heap.size:=by
  intro o;have:=Lib.bytesWorld_size (w.alloc (.cells #[U H0.a,U H0.b,U H0.c,U H0.d,U H0.e,U H0.f,U H0.g,U H0.h] 82)) 5 s;simp at this ⊢;omega
 have HB1:=(show Hid (∀o,w.heap.size+1≤((Lib.bytesWorld (w.alloc (.cells #[U H0.a,U H0.b,U H0.c,U H0.d,U H0.e,U H0.f,U H0.g,U H0.h] 82)) 5 s).alloc o).heap.size) from hB1)
 clear hBs hB1 hW0;go_enter Tryz.func196,Tryz.ntmps196
 go_wp2_with (at_builtin;refine tV _ (by rfl) _ _ (by rfl) (w.heap.size+1) (w.heap.size+1) s.size _ (ik s) (by rfl) (HBs.o.since ((Since.refl _).alloc _)) 128 _ 1 (by rfl) (mM _ _ _ _ rfl) (HB1.o _) (by omega) ?_;intro g cap w2 hb hsi)
 have hs0:=hsi _ ((qJ (w.alloc (.cells #[U H0.a,U H0.b,U H0.c,U H0.d,U H0.e,U H0.f,U H0.g,U H0.h] 82)) s).alloc _) (by simp);have VE:aN (w.alloc (.cells #[U H0.a,U H0.b,U H0.c,U H0.d,U H0.e,U H0.f,U H0.g,U H0.h] 82)) w.heap.size 0 8 H0.fn:=aN.new w 8 H0.fn _ _ (by rfl) _ rfl;have hSw:Since w (w.alloc (.cells #[U H0.a,U H0.b,U H0.c,U H0.d,U H0.e,U H0.f,U H0.g,U H0.h] 82)):=(Since.refl w).alloc _;have hz0:(w.alloc (.cells #[U H0.a,U H0.b,U H0.c,U H0.d,U H0.e,U H0.f,U H0.g,U H0.h] 82)).heap.size=w.heap.size+1:=by simp
 clear HBs HB1 hsi hcv c0 c1 c2 c3 c4 c5 c6 c7;generalize w.alloc _=w0 at *;have hb1:Bs w2 (w.heap.size+1) g (s.size+1) cap (ik (msg s)):=by
  refine Bs.more (d:=128) (hb.congr (fun j hj=>?_)) (Wt s (by omega));unfold uI;by_cases h1:j<s.size
  ·rw[if_pos h1,if_pos h1];unfold msg;rw[NW _ _ _ h1]
  rw[if_neg h1,if_neg h1]
 clear hb;have hze:iR s.size % 64=56:=by unfold iR;omega
 have hzl:∀n,s.size+1≤n→n<iR s.size→n % 64≠56:=by intro n h1 h2;unfold iR at h2;omega
 have hzb:iR s.size≤s.size+64:=by unfold iR;omega
 have hza:s.size+1≤iR s.size:=by unfold iR;omega
 have HZL:=(show Hid (∀n,s.size+1≤n→n<iR s.size→n % 64≠56) from hzl)
 have HZE:=(show Hid (iR s.size % 64=56) from hze)
 clear hzl hze;go_loopw [7] (fun m wr=>∃(n g cap:Nat),s.size+1≤n∧n≤iR s.size∧m=.slice (some ⟨g,0,none⟩) n cap∧Bs wr (w.heap.size+1) g n cap (ik (msg s))∧Since w0 wr) (fun m _=>iR s.size-Wu m)
 case atStart=>exact⟨s.size+1,g,cap,Nat.le_refl _,hza,rfl,hb1,hs0⟩
 clear hb1 hs0;obtain⟨n,g,cap,hn1,hn2,rfl,hb,kK⟩:=hrel;have hbs:=kK.size;have hB:∀o,w.heap.size+1≤(wr.alloc o).heap.size:=by intro o;simp;omega
 by_cases hlt:n<iR s.size
 ·have hne:=HZL.o n hn1 hlt;have hnI:(((n:Int) % 64) != 56)=true:=by simp;omega
  go_wp2_with (at_builtin;refine tV _ (by rfl) _ _ (by rfl) (w.heap.size+1) g n cap (ik (msg s)) (by rfl) (hb.since ((Since.refl _).alloc _)) 0 _ 1 (by rfl) (mM _ _ _ _ rfl) (hB _) (by omega) ?_;intro g2 cap2 w3 hb3 hsi)
  have hb4:=hb3.more (a3E s n (by omega) (by omega) hlt);have hs4:=hsi w0 (kK.alloc _) (by omega);clear hb3 hsi hb kK hB;go_wp2_with fail
  go_roundw
  case rel=>exact⟨n+1,g2,cap2,by omega,by omega,rfl,hb4,hs4⟩
  case measure=>simp[Wu];omega
 have hne:n=iR s.size:=by omega
 have Zt:=HZE.o;rw[←hne] at Zt;have hnI:(((n:Int) % 64) != 56)=false:=by simp;omega
 clear Zt hB;subst hne;go_wp2_with fail
 go_loopw [7,8] (fun m i wr=>∃(t g cap:Nat),t≤8∧i=.int .i64 (56-8*(t:Int))∧m=.slice (some ⟨g,0,none⟩) (iR s.size+t) cap∧Bs wr (w.heap.size+1) g (iR s.size+t) cap (ik (msg s))∧Since w0 wr) (fun _ i _=>(intOf i+8).toNat)
 case atStart=>exact⟨0,g,cap,by omega,rfl,rfl,hb,kK⟩
 clear hb kK hbs hnI HZL HZE;obtain⟨t,g,cap,ht,rfl,rfl,hb,kK⟩:=hrel;have hbs:=kK.size;have hB:∀o,w.heap.size+1≤(wr.alloc o).heap.size:=by intro o;simp;omega
 by_cases hlt:t<8
 ·have hm8:=a3F s t (by omega) hlt;have htc:t=0∨t=1∨t=2∨t=3∨t=4∨t=5∨t=6∨t=7:=by omega
  rcases htc with rfl | rfl | rfl | rfl | rfl | rfl | rfl | rfl
  all_goals
   simp only[lZ,List.getD_cons_zero,List.getD_cons_succ] at hm8;have HM:=hid hm8;clear hm8;go_wp2_with (at_builtin;refine tV _ (by rfl) _ _ (by rfl) (w.heap.size+1) g _ cap (ik (msg s)) (by rfl) (hb.since ((Since.refl _).alloc _)) _ _ 1 (by rfl) (mM _ _ _ _ rfl) (hB _) (by omega) ?_;intro g2 cap2 w3 hb3 hsi)
   have hb4:=hb3.more (by have e:=HM.o;(try rw[Nat.add_zero] at e);(first | exact e | (rw[e];omega)));have hs4:=hsi w0 (kK.alloc _) (by omega);clear hb3 hsi hb kK hB;go_wp2_with fail
   go_roundw
   case rel=>first | exact⟨1,g2,cap2,by omega,rfl,rfl,hb4,hs4⟩ | exact⟨2,g2,cap2,by omega,rfl,rfl,hb4,hs4⟩ | exact⟨3,g2,cap2,by omega,rfl,rfl,hb4,hs4⟩ | exact⟨4,g2,cap2,by omega,rfl,rfl,hb4,hs4⟩ | exact⟨5,g2,cap2,by omega,rfl,rfl,hb4,hs4⟩ | exact⟨6,g2,cap2,by omega,rfl,rfl,hb4,hs4⟩ | exact⟨7,g2,cap2,by omega,rfl,rfl,hb4,hs4⟩ | exact⟨8,g2,cap2,by omega,rfl,rfl,hb4,hs4⟩
   case measure=>simp[intOf]
 have ht8:t=8:=by omega
 subst ht8;have hT:=Wq s;rw[BF] at hT;obtain⟨T,hTe⟩:∃T,iR s.size+8=64*T:=⟨(iR s.size+8) / 64,by omega⟩
 have hTb:T≤200:=by omega
 have hsum:iQ s=dI H0 (msg s) T:=by
  rw[Ws,BF,hTe,Nat.mul_div_cancel_left _ (by decide)]
 have a3G:=hid hsum;rw[hTe] at hb ⊢;have HME:Hid ((msg s).size=64*T):=by show (msg s).size=64*T;rw[BF,hTe]
 have hcap:=hb.le;have hgl:=hb.lt;have hgn:=hb.new;have hms:=hb.holds;have hAr:=VE.since kK;have hSr:=hSw.trans kK;clear hT hTe hsum hb kK hbs hB hlt hzb hza hn1 hn2 VE hSw hz0 ht;go_wp2_with fail
 go_loopw [7] (fun m wr2=>∃t o:Nat,t≤T∧m=.slice (some ⟨g,o,none⟩) (64*T-64*t) (cap-64*t)∧(t<T→o=64*t)∧aN wr2 w.heap.size 0 8 (dI H0 (msg s) t).fn∧(∀j,j<64*T→wr2.cell? ⟨g,j,none⟩=some (.int .u8 (ik (msg s) j)))∧Since w wr2∧g<wr2.heap.size) (fun m _=>Wu m)
 case atStart=>exact⟨0,0,by omega,by simp,by simp,hAr,hms,hSr,hgl⟩
 clear hAr hms hSr hgl;obtain⟨t,o,ht,rfl,ho,hA,hM,hS,hgl⟩:=hrel;by_cases hlt:t<T
 ·have hoe:=ho hlt;subst hoe;clear ho;have hm1:0<64*T-64*t:=by omega
  have hm2:(0:Int)<((64*T-64*t:Nat):Int):=by omega
  obtain⟨wq,hwq⟩:∃x,x=wr:=⟨wr,rfl⟩
  subst hwq;go_wp2_with fail
  go_loopw [65] (fun i wr2=>∃k:Nat,k≤64∧i=.int .i64 k∧aN wr2 wq.heap.size 0 64 (BG (blk (msg s) t) k)∧Since wq wr2) (fun i _=>64-(intOf i).toNat)
  case atStart=>exact⟨0,by omega,rfl,aN.new wq 64 _ _ _ (by rfl) _ rfl,(Since.refl wq).alloc _⟩
  obtain⟨k,hk4,rfl,hW,cz⟩:=hrel;by_cases Hz:k<64
  ·by_cases Bj:k<16
   ·have hMk:∀j,j<64*T→wr.cell? ⟨g,j,none⟩=some (.int .u8 (ik (msg s) j)):=fun j hj=>by
     rw[cz.cell (p:=⟨g,j,none⟩) hgl];exact hM j hj
    have e0:=hMk (64*t+4*k) (by omega);have e1:=hMk (64*t+4*k+1) (by omega);have e2:=hMk (64*t+4*k+2) (by omega);have e3:=hMk (64*t+4*k+3) (by omega);have hck:=hW.cell k (by omega);have ZH:=hW.frozen k (by omega);have hv0:BG (blk (msg s) t) k k=0:=by unfold BG zG;rw[if_pos (by omega),if_neg (by omega)]
    rw[hv0] at hck;rw[Nat.zero_add] at hck ZH;clear hMk hv0;have hc4:4*k+4≤cap-64*t:=by omega
    have b2Z:4*(k:Int)+4≤((cap-64*t:Nat):Int):=by omega
    go_wp2_with fail
    refine wp_loop_rounds 5 ?_;iterate 5 (rw[rounds_succ];go_wp2_with fail)
    go_roundw
    case rel=>
     exact⟨k+1,by omega,by go_num,Rz hW (by rw[HME.o];omega) Bj,cz.setCell (Nat.le_refl _) _⟩
    case measure=>simp[intOf];omega
   have hW2:=hW;rw[tX _ _ (by omega)] at hW2;have c2:=hW2.cell (k-2) (by omega);have c15:=hW2.cell (k-15) (by omega);have c7:=hW2.cell (k-7) (by omega);have c16:=hW2.cell (k-16) (by omega);have f0:=hW2.frozen k (by omega);have cc0:=hW2.cell k (by omega);rw[Nat.zero_add] at c2 c15 c7 c16 cc0 f0;have n7:¬k=k-7:=by omega
   have n16:¬k=k-16:=by omega
   have a7:(7:Int)≤k:=by omega
   have b7:(k:Int)-7<64:=by omega
   have a16:(16:Int)≤k:=by omega
   have b16:(k:Int)-16<64:=by omega
   have a0:(0:Int)≤k:=by omega
   have t7:((k:Int)-7).toNat=k-7:=by omega
   have t16:((k:Int)-16).toNat=k-16:=by omega
   have v7:IntKind.i64.wrap ((k:Int)-7)=k-7:=by simp[IntKind.wrap,IntKind.bits,IntKind.signed];omega
   have v16:IntKind.i64.wrap ((k:Int)-16)=k-16:=by simp[IntKind.wrap,IntKind.bits,IntKind.signed];omega
   have b0:(k:Int)<64:=by omega
   go_wp2_with fail
   go_quiet (fail)
   go_wp2_with fail
   go_region_held3 (fun w'=>w'.cell? ⟨wq.heap.size,k-7,none⟩=some (U (aH (blk (msg s) t) (k-16) (k-7)))∧w'.cell? ⟨wq.heap.size,k-16,none⟩=some (U (aH (blk (msg s) t) (k-16) (k-16)))) (simp[nU,n7,n16,c7,c16])
    (first | (go_at_call 253;refine(Bi _ _ _ (by decide) (by decide)).mono ?_;rintro e w' ⟨rfl,n,rfl⟩))
   go_wp2_with fail
   go_roundw
   case rel=>
    (repeat apply Exists.intro)
    exact⟨⟨k+1,by omega,by go_num,RA (hW2.drewN _) (by omega) Hz,(cz.drewN _).setCell (Nat.le_refl _) _⟩,rfl⟩
   case measure=>simp[intOf];omega
  have a6P:k=64:=by omega
  subst a6P;rw[tX _ _ (by omega)] at hW;have Zr:=hA.since cz;have hS5:=hS.trans cz;have hM4:∀j,j<64*T→wr.cell? ⟨g,j,none⟩=some (.int .u8 (ik (msg s) j)):=fun j hj=>by
   rw[cz.cell (p:=⟨g,j,none⟩) hgl];exact hM j hj
  have ZI:=Nat.lt_of_lt_of_le hgl cz.size;have hcb:b≠w.heap.size:=by have:=hh.lt (by omega);omega
  have YE:Hid (dI H0 (msg s) (t+1)=(dI H0 (msg s) t).mix (blk (msg s) t)):=rfl;clear hA hM cz hgl;generalize a6Q:dI H0 (msg s) t=st at *;clear a6Q;obtain⟨wp,hwp⟩:∃x,x=wr:=⟨wr,rfl⟩
  subst hwp;obtain⟨_,c0,c1,c2,c3,c4,c5,c6,c7,_,_,_,_,_,_,_,_⟩:=qD.of Zr;go_wp2_with fail
  go_quiet (fail)
  go_wp2_with fail
  go_loopw [150,15,16,17,18,19,20,21,22] (fun i a b c d e f g h wr=>∃k:Nat,k≤64∧Since wp wr∧i=.int .i64 k∧a=U (st.to kn (aH (blk (msg s) t) 48) k).a∧b=U (st.to kn (aH (blk (msg s) t) 48) k).b∧c=U (st.to kn (aH (blk (msg s) t) 48) k).c∧d=U (st.to kn (aH (blk (msg s) t) 48) k).d∧e=U (st.to kn (aH (blk (msg s) t) 48) k).e∧f=U (st.to kn (aH (blk (msg s) t) 48) k).f∧g=U (st.to kn (aH (blk (msg s) t) 48) k).g∧h=U (st.to kn (aH (blk (msg s) t) 48) k).h) (fun i _ _ _ _ _ _ _ _ _=>64-(intOf i).toNat)
  case atStart=>exact⟨0,by omega,(Since.refl _).drewN _,rfl,rfl,rfl,rfl,rfl,rfl,rfl,rfl,rfl⟩
  clear c0 c1 c2 c3 c4 c5 c6 c7;obtain⟨k,YM,hSr,rfl,rfl,rfl,rfl,rfl,rfl,rfl,rfl,rfl⟩:=hrel;by_cases RG:k<64
  ·have g1:=(hk.since (hS5.trans hSr)).cell k RG;have g2:=(hW.since hSr).cell k RG;rw[Nat.zero_add] at g2;generalize hr:st.to kn (aH (blk (msg s) t) 48) k=r at *;have Hr:=(show Hid (st.to kn (aH (blk (msg s) t) 48) k=r) from hr)
   clear hr;go_wp2_with fail
   go_quiet ((go_at_call 253;exact Calls.quiet_of (Bi _ _ _ (by decide) (by decide))))
   go_wp2_with (go_at_call 253;refine(Bi _ _ _ (by decide) (by decide)).mono ?_;rintro e w' ⟨rfl,nq2,rfl⟩)
   go_roundw
   case rel=>
    have e1:st.to kn (aH (blk (msg s) t) 48) (k+1)=r.step (kn k) (aH (blk (msg s) t) 48 k):=by rw[←Hr.o];rfl
    (repeat apply Exists.intro)
    refine⟨⟨k+1,by omega,?_,by go_num,?_⟩,rfl⟩
    ·first | exact hSr.drewN _ | exact(hSr.drewN _).drewN _ | exact((hSr.drewN _).drewN _).drewN _ | exact(((hSr.drewN _).drewN _).drewN _).drewN _
    rw[e1,←round_eq];exact⟨rfl,rfl,rfl,rfl,rfl,rfl,rfl,rfl⟩
   case measure=>simp[intOf];omega
  have a6R:k=64:=by omega
  subst a6R;have tJ:=Zr.since hSr;have hM6:∀j,j<64*T→wr.cell? ⟨g,j,none⟩=some (.int .u8 (ik (msg s) j)):=fun j hj=>by
   rw[hSr.cell (p:=⟨g,j,none⟩) ZI];exact hM4 j hj
  have gH:=hS5.trans hSr;have a6S:=Nat.lt_of_lt_of_le ZI hSr.size;clear Zr hM4 hS5 ZI hSr hW;generalize hr:st.to kn (aH (blk (msg s) t) 48) 64=r at *;have Hr:=(show Hid (st.to kn (aH (blk (msg s) t) 48) 64=r) from hr)
  clear hr;obtain⟨_,c0,c1,c2,c3,c4,c5,c6,c7,_,_,_,_,_,_,_,_⟩:=qD.of tJ;have i0:∀w,(Instr.index 82 (.agg #[U r.a,U r.b,U r.c,U r.d,U r.e,U r.f,U r.g,U r.h]) (.int .i64 0)).run Tryz.prog w=.ok (U r.a) w:=fun _=>by kernel_rfl
  have i1:∀w,(Instr.index 82 (.agg #[U r.a,U r.b,U r.c,U r.d,U r.e,U r.f,U r.g,U r.h]) (.int .i64 1)).run Tryz.prog w=.ok (U r.b) w:=fun _=>by kernel_rfl
  have i2:∀w,(Instr.index 82 (.agg #[U r.a,U r.b,U r.c,U r.d,U r.e,U r.f,U r.g,U r.h]) (.int .i64 2)).run Tryz.prog w=.ok (U r.c) w:=fun _=>by kernel_rfl
  have i3:∀w,(Instr.index 82 (.agg #[U r.a,U r.b,U r.c,U r.d,U r.e,U r.f,U r.g,U r.h]) (.int .i64 3)).run Tryz.prog w=.ok (U r.d) w:=fun _=>by kernel_rfl
  have i4:∀w,(Instr.index 82 (.agg #[U r.a,U r.b,U r.c,U r.d,U r.e,U r.f,U r.g,U r.h]) (.int .i64 4)).run Tryz.prog w=.ok (U r.e) w:=fun _=>by kernel_rfl
  have i5:∀w,(Instr.index 82 (.agg #[U r.a,U r.b,U r.c,U r.d,U r.e,U r.f,U r.g,U r.h]) (.int .i64 5)).run Tryz.prog w=.ok (U r.f) w:=fun _=>by kernel_rfl
  have i6:∀w,(Instr.index 82 (.agg #[U r.a,U r.b,U r.c,U r.d,U r.e,U r.f,U r.g,U r.h]) (.int .i64 6)).run Tryz.prog w=.ok (U r.g) w:=fun _=>by kernel_rfl
  have i7:∀w,(Instr.index 82 (.agg #[U r.a,U r.b,U r.c,U r.d,U r.e,U r.f,U r.g,U r.h]) (.int .i64 7)).run Tryz.prog w=.ok (U r.h) w:=fun _=>by kernel_rfl
  go_wp2_with fail
  refine wp_loop_rounds 9 ?_;iterate 9 (rw[rounds_succ];go_wp2_with fail)
  have e2:dI H0 (msg s) (t+1)=st.add r:=by rw[YE.o];unfold St.mix;rw[Hr.o]
  refine⟨⟨t+1,_,by omega,Iw g t T cap,fun h=>by rw[if_neg (by omega)];omega,?_,fun j hj=>?_,?_,?_⟩,by simp[Wu];omega⟩
  ·rw[e2];exact tJ.Bl (st.add r)
  ·exact(NZ wr w.heap.size g j (st.add r) (by omega)).trans (hM6 j hj)
  ·exact gH.Bl (Nat.le_refl _) (st.add r)
  exact Nat.lt_of_lt_of_le a6S (Nat.le_of_eq (Oa wr w.heap.size (st.add r)).symm)
 have hte:t=T:=by omega
 subst hte;have hz0:64*t-64*t=0:=by omega
 have HS2:=a3G;clear hM a3G ho;generalize hqe:dI H0 (msg s) t=q at *;clear hqe;obtain⟨_,c0,c1,c2,c3,c4,c5,c6,c7,_,_,_,_,_,_,_,_⟩:=qD.of hA;have i0:∀w,(Instr.index 82 (.agg #[U q.a,U q.b,U q.c,U q.d,U q.e,U q.f,U q.g,U q.h]) (.int .i64 0)).run Tryz.prog w=.ok (U q.a) w:=fun _=>by kernel_rfl
 have i1:∀w,(Instr.index 82 (.agg #[U q.a,U q.b,U q.c,U q.d,U q.e,U q.f,U q.g,U q.h]) (.int .i64 1)).run Tryz.prog w=.ok (U q.b) w:=fun _=>by kernel_rfl
 have i2:∀w,(Instr.index 82 (.agg #[U q.a,U q.b,U q.c,U q.d,U q.e,U q.f,U q.g,U q.h]) (.int .i64 2)).run Tryz.prog w=.ok (U q.c) w:=fun _=>by kernel_rfl
 have i3:∀w,(Instr.index 82 (.agg #[U q.a,U q.b,U q.c,U q.d,U q.e,U q.f,U q.g,U q.h]) (.int .i64 3)).run Tryz.prog w=.ok (U q.d) w:=fun _=>by kernel_rfl
 have i4:∀w,(Instr.index 82 (.agg #[U q.a,U q.b,U q.c,U q.d,U q.e,U q.f,U q.g,U q.h]) (.int .i64 4)).run Tryz.prog w=.ok (U q.e) w:=fun _=>by kernel_rfl
 have i5:∀w,(Instr.index 82 (.agg #[U q.a,U q.b,U q.c,U q.d,U q.e,U q.f,U q.g,U q.h]) (.int .i64 5)).run Tryz.prog w=.ok (U q.f) w:=fun _=>by kernel_rfl
 have i6:∀w,(Instr.index 82 (.agg #[U q.a,U q.b,U q.c,U q.d,U q.e,U q.f,U q.g,U q.h]) (.int .i64 6)).run Tryz.prog w=.ok (U q.g) w:=fun _=>by kernel_rfl
 have i7:∀w,(Instr.index 82 (.agg #[U q.a,U q.b,U q.c,U q.d,U q.e,U q.f,U q.g,U q.h]) (.int .i64 7)).run Tryz.prog w=.ok (U q.h) w:=fun _=>by kernel_rfl
 go_wp2_with fail
 refine wp_loop_rounds 9 ?_;iterate 9 (rw[rounds_succ];go_wp2_with fail)
 go_ret;refine⟨?_,?_⟩
 ·rw[HS2.o];exact Bh rfl
 repeat (first | exact hS | refine Since.alloc ?_ _)
end Sm
end
end Go.Proofs.YtlgbfkcpdelcbaaGreatDoor
