import Derived.Deep.RegionHeld3
import Derived.Test.YtmhcfaaggkidjaaGreatDoorJ06
import Derived.Test.YtmhcfaaggkidjaaGreatDoorJ07
set_option linter.unusedSimpArgs false
set_option linter.unusedVariables false
section
namespace Go.Proofs.YtmhcfaaggkidjaaGreatDoor
set_option maxRecDepth 100000
namespace Sm
open Go.RowKit
attribute [local go_sem ↓] jr fO jw jy pK jA jB jC fP fQ dU bI
def mD (x:BitVec 32) (s:Nat):BitVec 32:=x <<< s ||| x >>> (32-s)
theorem NN (k:Int):bits BinOp.and IntKind.u64 (IntKind.u64.wrap k) 31=k % 32:=by
 have e:IntKind.u64.wrap k=k % 18446744073709551616:=by simp[IntKind.wrap,IntKind.bits,IntKind.signed]
 have h:=bits_mask .u64 64 (by decide) (fun n h0 h1=>by simp[IntKind.wrap,IntKind.bits,IntKind.signed];omega) 5 (by decide) (IntKind.u64.wrap k) (by omega) (by omega);have e2:(2:Int) ^ 5-1=31:=by decide
 rw[e2] at h;rw[h,e];omega
set_option maxHeartbeats 400000 in
theorem nZ (x:BitVec 32) (k:Int) (w:World) :
  Calls Tryz.prog 292 #[U x,.int .i64 k] w fun e w'=>e=.returned (U (mD x (k % 32).toNat))∧w'=w:=by
 have hb:=NN k;have h1:(0:Int)≤k % 32:=by omega
 have h2:IntKind.u64.wrap (32-k % 32)=32-k % 32:=by
  simp[IntKind.wrap,IntKind.bits,IntKind.signed];omega
 have h4:k % 32≤32:=by omega
 have h3:(32-k % 32).toNat=32-(k % 32).toNat:=by omega
 go_enter Tryz.func292,Tryz.ntmps292
 go_wp2
 go_ret;exact⟨rfl,rfl⟩
set_option maxHeartbeats 400000 in
theorem NP (x:BitVec 32) (w:World) :
  Calls Tryz.prog 255 #[U x,.int .i64 6,.int .i64 11,.int .i64 25] w fun e w'=>e=.returned (U (mD x 26 ^^^ mD x 21 ^^^ mD x 7))∧w'=w:=by
 go_enter Tryz.func255,Tryz.ntmps255
 go_wp2_with (go_at_call 292;refine(nZ _ _ _).mono ?_;rintro e w' ⟨rfl,rfl⟩)
 go_ret;exact⟨rfl,rfl⟩
set_option maxHeartbeats 400000 in
theorem NQ (x:BitVec 32) (w:World) :
  Calls Tryz.prog 255 #[U x,.int .i64 2,.int .i64 13,.int .i64 22] w fun e w'=>e=.returned (U (mD x 30 ^^^ mD x 19 ^^^ mD x 10))∧w'=w:=by
 go_enter Tryz.func255,Tryz.ntmps255
 go_wp2_with (go_at_call 292;refine(nZ _ _ _).mono ?_;rintro e w' ⟨rfl,rfl⟩)
 go_ret;exact⟨rfl,rfl⟩
set_option maxHeartbeats 400000 in
theorem Kn (x:BitVec 32) (w:World) :
  Calls Tryz.prog 291 #[U x,.int .i64 17,.int .i64 19,.int .i64 10] w fun e w'=>e=.returned (U (mD x 15 ^^^ mD x 13 ^^^ x >>> 10))∧∃n,w'=w.drewN n:=by
 go_enter Tryz.func291,Tryz.ntmps291
 go_wp2_with fail
 go_quiet ((go_at_call 292;exact Calls.quiet_of_same (nZ _ _ _)))
 go_wp2_with fail
 go_ret;exact⟨rfl,_,rfl⟩
set_option maxHeartbeats 400000 in
theorem Ko (x:BitVec 32) (w:World) :
  Calls Tryz.prog 291 #[U x,.int .i64 7,.int .i64 18,.int .i64 3] w fun e w'=>e=.returned (U (mD x 25 ^^^ mD x 14 ^^^ x >>> 3))∧∃n,w'=w.drewN n:=by
 go_enter Tryz.func291,Tryz.ntmps291
 go_wp2_with fail
 go_quiet ((go_at_call 292;exact Calls.quiet_of_same (nZ _ _ _)))
 go_wp2_with fail
 go_ret;exact⟨rfl,_,rfl⟩
def wC (a b c d:UInt8):BitVec 32:=BitVec.ofNat 32 a.toNat <<< 24 ||| BitVec.ofNat 32 b.toNat <<< 16 ||| BitVec.ofNat 32 c.toNat <<< 8 ||| BitVec.ofNat 32 d.toNat
set_option maxHeartbeats 400000 in
theorem qP (s:ByteArray) (w:World) (hs:s.size=4) :
  Calls Tryz.prog 290 #[.string s] w fun e w'=>e=.returned (U (wC (s[0]'(by omega)) (s[1]'(by omega)) (s[2]'(by omega)) (s[3]'(by omega))))∧∃n,w'=w.drewN n:=by
 go_enter Tryz.func290,Tryz.ntmps290
 go_wp2_with fail
 go_quiet (fail)
 go_wp2_with fail
 go_ret;exact⟨rfl,_,rfl⟩
end Sm
end Go.Proofs.YtmhcfaaggkidjaaGreatDoor
end
section
namespace Go.Proofs.YtmhcfaaggkidjaaGreatDoor
set_option maxRecDepth 100000
namespace Sm
open Go.RowKit
attribute [local go_sem] jr fO jw jy pK jA jB jC fP fQ dU fo bI fe dE
def bJ (s:ByteArray) (i:Nat):UInt8:=s.data.toList.getD i 0
def eP (s:ByteArray) (i:Nat):BitVec 32:=wC (bJ s (4*i)) (bJ s (4*i+1)) (bJ s (4*i+2)) (bJ s (4*i+3))
def aM (s:ByteArray):Nat→Nat→BitVec 32
 | 0=>fun i=>if i<16 then eP s i else 0
 | n+1=>upd (aM s n) (16+n) ((mD (aM s n (14+n)) 15 ^^^ mD (aM s n (14+n)) 13 ^^^ aM s n (14+n) >>> 10)+aM s n (9+n)+(mD (aM s n (1+n)) 25 ^^^ mD (aM s n (1+n)) 14 ^^^ aM s n (1+n) >>> 3)+aM s n n)
def Jl (s:ByteArray) (n:Nat):Nat→BitVec 32:=fun i=>if i<n then eP s i else 0
theorem NR (s:ByteArray) (k j:Nat):upd (Jl s k) k (eP s k) j=Jl s (k+1) j:=by
 unfold upd Jl;by_cases e:j=k
 ·subst e;rw[if_pos rfl,if_pos (by omega)]
 rw[if_neg e];by_cases h:j<k
 ·rw[if_pos h,if_pos (by omega)]
 rw[if_neg h,if_neg (by omega)]
theorem gK (s:ByteArray) (a b i:Nat) (h:i<(s.extract a b).size) (hb:b≤s.size):(s.extract a b)[i]=bJ s (a+i):=by
 have h2:a+i<s.size:=by simp[ByteArray.size_extract] at h;omega
 unfold bJ;rw[ByteArray.getElem_extract];rw[List.getD_eq_getElem?_getD,List.getElem?_eq_getElem (by simpa using h2)]
 rfl
theorem NS (s:ByteArray) (k:Nat) (h:16≤k):aM s (k+1-16)=upd (aM s (k-16)) k ((mD (aM s (k-16) (k-2)) 15 ^^^ mD (aM s (k-16) (k-2)) 13 ^^^ aM s (k-16) (k-2) >>> 10)+aM s (k-16) (k-7)+(mD (aM s (k-16) (k-15)) 25 ^^^ mD (aM s (k-16) (k-15)) 14 ^^^ aM s (k-16) (k-15) >>> 3)+aM s (k-16) (k-16)):=by
 obtain⟨n,rfl⟩:=Nat.exists_eq_add_of_le h;rw[show 16+n+1-16=n+1 by omega,show 16+n-16=n by omega,show 16+n-2=14+n by omega,show 16+n-7=9+n by omega,show 16+n-15=1+n by omega]
 rfl
theorem Td {wr:World} {b:Nat} {s:ByteArray} {k:Nat} (h:bA wr b 0 64 (aM s (k-16))) (hk:16≤k) (hlt:k<64) :
  bA (wr.setCell ⟨b,k,none⟩ (U ((mD (aM s (k-16) (k-2)) 15 ^^^ mD (aM s (k-16) (k-2)) 13 ^^^ aM s (k-16) (k-2) >>> 10)+aM s (k-16) (k-7)+(mD (aM s (k-16) (k-15)) 25 ^^^ mD (aM s (k-16) (k-15)) 14 ^^^ aM s (k-16) (k-15) >>> 3)+aM s (k-16) (k-16)))) b 0 64 (aM s (k+1-16)):=by
 have h3:=h.set k hlt ((mD (aM s (k-16) (k-2)) 15 ^^^ mD (aM s (k-16) (k-2)) 13 ^^^ aM s (k-16) (k-2) >>> 10)+aM s (k-16) (k-7)+(mD (aM s (k-16) (k-15)) 25 ^^^ mD (aM s (k-16) (k-15)) 14 ^^^ aM s (k-16) (k-15) >>> 3)+aM s (k-16) (k-16));rw[←NS s k hk,Nat.zero_add] at h3;exact h3
set_option maxHeartbeats 1000000 in
set_option maxRecDepth 100000 in
theorem FH (s:ByteArray) (w:World) (hs:s.size=64) :
  Calls Tryz.prog 254 #[.string s] w fun e w'=>e=.returned (.agg (row 64 (aM s 48)).toArray)∧Since w w':=by
 go_enter Tryz.func254,Tryz.ntmps254
 go_wp2_with fail
 go_loopw [8] (fun i wr=>∃k:Nat,k≤16∧i=.int .i64 k∧bA wr w.heap.size 0 64 (fun _=>0)∧bA wr (w.heap.size+1) 0 64 (Jl s k)∧Since w wr) (fun i _=>16-(intOf i).toNat)
 case atStart=>
  refine⟨0,by omega,rfl,?_,?_,?_⟩
  ·exact(bA.new w 64 (fun _=>0) _ _ (by rfl) _ rfl).alloc _
  ·exact bA.new (w.alloc _) 64 _ _ _ (by rfl) _ (by simp)
  exact((Since.refl _).alloc _).alloc _
 obtain⟨k,hk,rfl,hA,hB,hS⟩:=hrel;by_cases hlt:k<16
 ·go_wp2_with fail
  have hex:(s.extract (4*k) (4*k+4)).size=4:=by simp[ByteArray.size_extract];omega
  refine(qP _ _ hex).mono ?_;rintro e w1 ⟨rfl,n,rfl⟩;have hB1:=hB.drewN n;have c1:=hB.cell k (by omega);have c2:=hB.frozen k (by omega);rw[Nat.zero_add] at c1 c2;have hw4:wC (s.extract (4*k) (4*k+4))[0] (s.extract (4*k) (4*k+4))[1] (s.extract (4*k) (4*k+4))[2] (s.extract (4*k) (4*k+4))[3]=eP s k:=by
   unfold eP;rw[gK s _ _ _ _ (by omega),gK s _ _ _ _ (by omega),gK s _ _ _ _ (by omega),gK s _ _ _ _ (by omega),Nat.add_zero]
  rw[hw4];clear hw4;go_wp2_with fail
  go_roundw
  case rel => 
   have h3:=hB1.set k (by omega) (eP s k);rw[Nat.zero_add] at h3;exact⟨k+1,by omega,by go_num,(hA.drewN n).other (by simp) _,h3.congr (fun j hj=>NR s k j),(hS.drewN n).setCell (by simp) _⟩
  case measure=>simp[intOf];omega
 have NT:k=16:=by omega
 subst NT;go_wp2_with fail
 go_loopw [5] (fun i wr=>∃k:Nat,16≤k∧k≤64∧i=.int .i64 k∧bA wr w.heap.size 0 64 (fun _=>0)∧bA wr (w.heap.size+1) 0 64 (aM s (k-16))∧Since w wr) (fun i _=>64-(intOf i).toNat)
 case atStart=>exact⟨16,by omega,by omega,rfl,hA,hB,hS⟩
 clear hA hB hS;obtain⟨k,hk0,hk,rfl,hA,hB,hS⟩:=hrel;by_cases hlt:k<64
 ·have c2:=hB.cell (k-2) (by omega);have c15:=hB.cell (k-15) (by omega);have c7:=hB.cell (k-7) (by omega);have c16:=hB.cell (k-16) (by omega);have f0:=hB.frozen k (by omega);have c0:=hB.cell k (by omega);rw[Nat.zero_add] at c2 c15 c7 c16 c0 f0;go_wp2_with fail
  go_quiet (fail)
  go_wp2_with fail
  have n7:¬k=k-7:=by omega
  have n16:¬k=k-16:=by omega
  have a7:(7:Int)≤k:=by omega
  have a7':7≤k:=by omega
  have b7:(k:Int)-7<64:=by omega
  have a16:(16:Int)≤k:=by omega
  have b16:(k:Int)-16<64:=by omega
  have a0:(0:Int)≤k:=by omega
  have t7:((k:Int)-7).toNat=k-7:=by omega
  have t16:((k:Int)-16).toNat=k-16:=by omega
  have v7:IntKind.i64.wrap ((k:Int)-7)=k-7:=by simp[IntKind.wrap,IntKind.bits,IntKind.signed];omega
  have v16:IntKind.i64.wrap ((k:Int)-16)=k-16:=by simp[IntKind.wrap,IntKind.bits,IntKind.signed];omega
  have b0:(k:Int)<64:=by omega
  go_region_held3 (fun w'=>w'.cell? ⟨w.heap.size+1,k-7,none⟩=some (U (aM s (k-16) (k-7)))∧w'.cell? ⟨w.heap.size+1,k-16,none⟩=some (U (aM s (k-16) (k-16)))) (simp[CG,n7,n16,c7,c16])
   (first | (go_at_call_of 291 (Value.int IntKind.i64 17);refine(Kn _ _).mono ?_;rintro e w' ⟨rfl,n,rfl⟩) | (go_at_call_of 291 (Value.int IntKind.i64 7);refine(Ko _ _).mono ?_;rintro e w' ⟨rfl,n,rfl⟩))
  go_wp2_with fail
  go_roundw
  case rel=>
   (repeat apply Exists.intro)
   exact⟨⟨k+1,by omega,by omega,by go_num,(hA.drewN _).other (by simp) _,Td (hB.drewN _) hk0 hlt,(hS.drewN _).setCell (by simp) _⟩,rfl⟩
  case measure=>simp[intOf];omega
 have WS:k=64:=by omega
 subst WS;have hR:=hB.range;have hL:(row 64 (aM s (64-16))).length=64:=aC _ _;have hst:=hA.store Tryz.prog (aM s (64-16));go_wp2_with (refine wpList_load_mid (by rfl) 289 _ (by rfl) (w.heap.size+1) 0 (by rfl) _ _ hR Tryz.underlying289 (by rfl) (by rw[aC];kernel_rfl) ?_)
 exact bodyPost_ret (aQ Tryz.results254 _ _ _ w.heap.size _ _ (by rfl) (hA.setRow (aM s 48)).range Tryz.underlying289 (by rfl) (by rw[aC];kernel_rfl)) rfl ⟨rfl,hS.setCells (Nat.le_refl _) _ _⟩
end Sm
end Go.Proofs.YtmhcfaaggkidjaaGreatDoor
end
section
namespace Go.Proofs.YtmhcfaaggkidjaaGreatDoor
set_option maxRecDepth 100000
namespace Sm
open Go.RowKit
attribute [local go_sem] jr fO jw jy pK jA jB jC fP fQ dU fo bI fe dE
structure St where
 a:BitVec 32
 b:BitVec 32
 c:BitVec 32
 d:BitVec 32
 e:BitVec 32
 f:BitVec 32
 g:BitVec 32
 h:BitVec 32
def St.one (s:St) (k w:BitVec 32):BitVec 32:=s.h+(mD s.e 26 ^^^ mD s.e 21 ^^^ mD s.e 7)+(s.e &&& s.f ^^^ ~~~s.e &&& s.g)+k+w
def St.two (s:St):BitVec 32:=(mD s.a 30 ^^^ mD s.a 19 ^^^ mD s.a 10)+(s.a &&& s.b ^^^ s.a &&& s.c ^^^ s.b &&& s.c)
def St.step (s:St) (k w:BitVec 32):St:=⟨s.one k w+s.two,s.a,s.b,s.c,s.d+s.one k w,s.e,s.f,s.g⟩
def St.to (s:St) (K W:Nat→BitVec 32):Nat→St
 | 0=>s
 | n+1=>(s.to K W n).step (K n) (W n)
def St.add (s t:St):St:=⟨s.a+t.a,s.b+t.b,s.c+t.c,s.d+t.d,s.e+t.e,s.f+t.f,s.g+t.g,s.h+t.h⟩
def St.val (s:St):Value:=.agg #[U s.a,U s.b,U s.c,U s.d,U s.e,U s.f,U s.g,U s.h]
def a2h:List Nat:=[1116352408,1899447441,3049323471,3921009573,961987163,1508970993,2453635748,2870763221,3624381080,310598401,607225278,1426881987,1925078388,2162078206,2614888103,3248222580,3835390401,4022224774,264347078,604807628,770255983,1249150122,1555081692,1996064986,2554220882,2821834349,2952996808,3210313671,3336571891,3584528711,113926993,338241895,666307205,773529912,1294757372,1396182291,1695183700,1986661051,2177026350,2456956037,2730485921,2820302411,3259730800,3345764771,3516065817,3600352804,4094571909,275423344,430227734,506948616,659060556,883997877,958139571,1322822218,1537002063,1747873779,1955562222,2024104815,2227730452,2361852424,2428436474,2756734187,3204031479,3329325298]
def kn (i:Nat):BitVec 32:=BitVec.ofNat 32 (a2h.getD i 0)
def jW (w:World):Prop:=∀j,j<64→w.cell? ⟨5,j,none⟩=some (U (kn j))
theorem jW.since {w w':World} (h:jW w) (hs:Since w w'):jW w':=fun j hj=>by
 have hc:=h j hj;rw[hs.cell (p:=⟨5,j,none⟩) (World.block_lt_of_cell? w _ hc)];exact hc
def St.fn (s:St):Nat→BitVec 32
 | 0=>s.a
 | 1=>s.b
 | 2=>s.c
 | 3=>s.d
 | 4=>s.e
 | 5=>s.f
 | 6=>s.g
 | 7=>s.h
 | _=>0
set_option maxHeartbeats 1000000 in
set_option maxRecDepth 100000 in
theorem Te (st:St) (s:ByteArray) (w:World) (hs:s.size=64) (hT:jW w) :
  Calls Tryz.prog 203 #[st.val,.string s] w fun e w'=>e=.returned (st.add (st.to kn (aM s 48) 64)).val∧Since w w':=by
 have hL:(row 64 (aM s 48)).length=64:=aC _ _;unfold St.val;go_enter Tryz.func203,Tryz.ntmps203
 go_wp2_with fail
 refine(FH _ _ hs).mono ?_;rintro e w1 ⟨rfl,hS1⟩;have hA1:bA w1 w.heap.size 0 8 st.fn:=((bA.new w 8 st.fn _ _ (by rfl) _ rfl).alloc _).since hS1;have hR1:bA w1 (w.heap.size+1) 0 8 (fun _=>0):=(bA.new _ 8 (fun _=>0) _ _ (by rfl) _ (by simp)).since hS1;have hS:Since w w1:=(((Since.refl w).alloc _).alloc _).trans hS1;have hT1:=hT.since hS;clear hS1 hT;go_wp2_with fail
 rw[bA.store (f:=fun _=>0) (bA.new _ _ _ _ _ (by rfl) _ rfl)];go_simp
 generalize hw2:World.setCells _ _ _ _=w2;have l1:=hA1.lt (by omega);have l2:=hR1.lt (by omega);have hA:bA w2 w.heap.size 0 8 st.fn:=by rw[←hw2];exact(hA1.alloc _).setRow_other _ (by omega)
 have hR:bA w2 (w.heap.size+1) 0 8 (fun _=>0):=by rw[←hw2];exact(hR1.alloc _).setRow_other _ (by omega)
 have hB:bA w2 w1.heap.size 0 64 (aM s 48):=by rw[←hw2];exact bA.setRow (f:=fun _=>0) (bA.new _ _ _ _ _ (by rfl) _ rfl) _
 have hS2:Since w w2:=by rw[←hw2];exact(hS.alloc _).setCells (by omega) _ _
 have hT:jW w2:=by
  refine jW.since hT1 ?_;rw[←hw2];exact((Since.refl w1).alloc _).setCells (Nat.le_refl _) _ _
 clear hw2 hA1 hR1 hS hT1 l1;generalize w1.heap.size=bw at *;clear w1;have c0:w2.cell? ⟨w.heap.size,0,none⟩=some (U st.a):=hA.cell 0 (by omega);have c1:w2.cell? ⟨w.heap.size,1,none⟩=some (U st.b):=hA.cell 1 (by omega);have c2:w2.cell? ⟨w.heap.size,2,none⟩=some (U st.c):=hA.cell 2 (by omega);have c3:w2.cell? ⟨w.heap.size,3,none⟩=some (U st.d):=hA.cell 3 (by omega);have c4:w2.cell? ⟨w.heap.size,4,none⟩=some (U st.e):=hA.cell 4 (by omega);have c5:w2.cell? ⟨w.heap.size,5,none⟩=some (U st.f):=hA.cell 5 (by omega);have c6:w2.cell? ⟨w.heap.size,6,none⟩=some (U st.g):=hA.cell 6 (by omega);have c7:w2.cell? ⟨w.heap.size,7,none⟩=some (U st.h):=hA.cell 7 (by omega);go_wp2_with fail
 go_quiet (fail)
 go_wp2_with fail
 go_quiet (fail)
 go_wp2_with fail
 go_loopw [37,6,7,8,9,10,11,12,13] (fun i a b c d e f g h wr=>∃k:Nat,k≤64∧Since w2 wr∧i=.int .i64 k∧a=U (st.to kn (aM s 48) k).a∧b=U (st.to kn (aM s 48) k).b∧c=U (st.to kn (aM s 48) k).c∧d=U (st.to kn (aM s 48) k).d∧e=U (st.to kn (aM s 48) k).e∧f=U (st.to kn (aM s 48) k).f∧g=U (st.to kn (aM s 48) k).g∧h=U (st.to kn (aM s 48) k).h) (fun i _ _ _ _ _ _ _ _ _=>64-(intOf i).toNat)
 case atStart=>exact⟨0,by omega,((Since.refl _).drewN _).drewN _,rfl,rfl,rfl,rfl,rfl,rfl,rfl,rfl,rfl⟩
 obtain⟨k,hk,hSr,rfl,rfl,rfl,rfl,rfl,rfl,rfl,rfl,rfl⟩:=hrel;by_cases hlt:k<64
 ·have g1:=(hT.since hSr) k hlt;have g2:=(hB.since hSr).cell k hlt;rw[Nat.zero_add] at g2;generalize hr:st.to kn (aM s 48) k=r at *;have Hr:=(show Hid (st.to kn (aM s 48) k=r) from hr)
  clear hr;go_wp2_with fail
  go_quiet ((go_at_call 255;exact Calls.quiet_of_same (NP _ _)))
  go_wp2_with (go_at_call 255;refine(NQ _ _).mono ?_;rintro e w' ⟨rfl,rfl⟩)
  go_roundw
  case rel=>
   refine⟨k+1,by omega,hSr.drewN _,by go_num,?_⟩;have e1:st.to kn (aM s 48) (k+1)=r.step (kn k) (aM s 48 k):=by rw[←Hr.out];rfl
   rw[e1];exact⟨rfl,rfl,rfl,rfl,rfl,rfl,rfl,rfl⟩
  case measure=>simp[intOf];omega
 have WS:k=64:=by omega
 subst WS;generalize hr:st.to kn (aM s 48) 64=r at *;have Hr:=(show Hid (st.to kn (aM s 48) 64=r) from hr)
 clear hr;clear c0 c1 c2 c3 c4 c5 c6 c7;have hA':=hA.since hSr;have c0:wr.cell? ⟨w.heap.size,0,none⟩=some (U st.a):=hA'.cell 0 (by omega);have c1:wr.cell? ⟨w.heap.size,1,none⟩=some (U st.b):=hA'.cell 1 (by omega);have c2:wr.cell? ⟨w.heap.size,2,none⟩=some (U st.c):=hA'.cell 2 (by omega);have c3:wr.cell? ⟨w.heap.size,3,none⟩=some (U st.d):=hA'.cell 3 (by omega);have c4:wr.cell? ⟨w.heap.size,4,none⟩=some (U st.e):=hA'.cell 4 (by omega);have c5:wr.cell? ⟨w.heap.size,5,none⟩=some (U st.f):=hA'.cell 5 (by omega);have c6:wr.cell? ⟨w.heap.size,6,none⟩=some (U st.g):=hA'.cell 6 (by omega);have c7:wr.cell? ⟨w.heap.size,7,none⟩=some (U st.h):=hA'.cell 7 (by omega);have hTh:=(hR.since hSr).there
 go_wp2_with (refine wpList_store_mid (by rfl) 199 _ _ (by rfl) (w.heap.size+1) 0 #[U (st.a+r.a),U (st.b+r.b),U (st.c+r.c),U (st.d+r.d),U (st.e+r.e),U (st.f+r.f),U (st.g+r.g),U (st.h+r.h)] (by rfl) (by rfl) hTh (by kernel_rfl) (all_oneCell_toArray (cs:=row 8 (st.add r).fn) (row_one _ _)) ?_)
 generalize hw3:World.setCells _ _ _ _=w3;have AR:bA w3 (w.heap.size+1) 0 8 (st.add r).fn:=by rw[←hw3];exact(hR.since hSr).setRow (st.add r).fn
 have fu:Since w w3:=by rw[←hw3];exact(hS2.trans hSr).setCells (by omega) _ _
 exact bodyPost_ret (aQ Tryz.results203 _ _ _ (w.heap.size+1) (row 8 (st.add r).fn) _ (by rfl) AR.range Tryz.underlying199 (by rfl) (by rw[aC];kernel_rfl)) rfl ⟨by rw[Hr.out];rfl,fu⟩
end Sm
end Go.Proofs.YtmhcfaaggkidjaaGreatDoor
end
section
namespace Go.Proofs.YtmhcfaaggkidjaaGreatDoor
set_option maxRecDepth 100000
namespace Sm
open Go.RowKit
attribute [local go_sem] jr fO jw jy pK jA jB jC fP fQ dU fo bI fe dE
def blk (s:ByteArray) (n:Nat):ByteArray:=s.extract (n*64) ((n+1)*64)
def St.mix (st:St) (b:ByteArray):St:=st.add (st.to kn (aM b 48) 64)
def jI (st:St) (s:ByteArray):Nat→St
 | 0=>st
 | n+1=>(jI st s n).mix (blk s n)
theorem bA.FI {w:World} {b:Nat} {f:Nat→BitVec 32} (h:bA w b 0 8 f) (t:St) :
  bA ((((((((w.setCell ⟨b,0,none⟩ (U t.a)).setCell ⟨b,1,none⟩ (U t.b)).setCell ⟨b,2,none⟩ (U t.c)).setCell ⟨b,3,none⟩ (U t.d)).setCell ⟨b,4,none⟩ (U t.e)).setCell ⟨b,5,none⟩ (U t.f)).setCell ⟨b,6,none⟩ (U t.g)).setCell ⟨b,7,none⟩ (U t.h)) b 0 8 t.fn:=by
 have h8:=(((((((h.set 0 (by omega) t.a).set 1 (by omega) t.b).set 2 (by omega) t.c).set 3 (by omega) t.d).set 4 (by omega) t.e).set 5 (by omega) t.f).set 6 (by omega) t.g).set 7 (by omega) t.h;refine h8.congr (fun j hj=>?_)
 match j,hj with
 | 0,_=>rfl
 | 1,_=>rfl
 | 2,_=>rfl
 | 3,_=>rfl
 | 4,_=>rfl
 | 5,_=>rfl
 | 6,_=>rfl
 | 7,_=>rfl
theorem bA.WT {w:World} {b c o n:Nat} {f:Nat→BitVec 32} (h:bA w c o n f) (hb:b≠c) (t:St) :
  bA ((((((((w.setCell ⟨b,0,none⟩ (U t.a)).setCell ⟨b,1,none⟩ (U t.b)).setCell ⟨b,2,none⟩ (U t.c)).setCell ⟨b,3,none⟩ (U t.d)).setCell ⟨b,4,none⟩ (U t.e)).setCell ⟨b,5,none⟩ (U t.f)).setCell ⟨b,6,none⟩ (U t.g)).setCell ⟨b,7,none⟩ (U t.h)) c o n f:=
 (((((((h.other hb _).other hb _).other hb _).other hb _).other hb _).other hb _).other hb _).other hb _
theorem _root_.Go.Proofs.YtmhcfaaggkidjaaGreatDoor.Since.FI {a w:World} {b:Nat} (h:Since a w) (hb:a.heap.size≤b) (t:St) :
  Since a ((((((((w.setCell ⟨b,0,none⟩ (U t.a)).setCell ⟨b,1,none⟩ (U t.b)).setCell ⟨b,2,none⟩ (U t.c)).setCell ⟨b,3,none⟩ (U t.d)).setCell ⟨b,4,none⟩ (U t.e)).setCell ⟨b,5,none⟩ (U t.f)).setCell ⟨b,6,none⟩ (U t.g)).setCell ⟨b,7,none⟩ (U t.h)):=
 (((((((h.setCell hb _).setCell hb _).setCell hb _).setCell hb _).setCell hb _).setCell hb _).setCell hb _).setCell hb _
set_option maxHeartbeats 1000000 in
set_option maxRecDepth 100000 in
theorem wE (st:St) (s:ByteArray) (w:World) (hs:s.size≤1000000) (hT:jW w) :
  Calls Tryz.prog 148 #[st.val,.string s] w fun e w'=>e=.returned (jI st s (s.size / 64)).val∧Since w w':=by
 unfold St.val;go_enter Tryz.func148,Tryz.ntmps148
 go_wp2_with fail
 go_loopw [9] (fun i wr=>∃k:Nat,k≤s.size / 64∧i=.int .i64 k∧bA wr w.heap.size 0 8 (jI st s k).fn∧bA wr (w.heap.size+1) 0 8 (fun _=>0)∧Since w wr) (fun i _=>s.size / 64-(intOf i).toNat)
 case atStart=>exact⟨0,by omega,rfl,(bA.new w 8 st.fn _ _ (by rfl) _ rfl).alloc _,bA.new _ 8 (fun _=>0) _ _ (by rfl) _ (by simp),((Since.refl w).alloc _).alloc _⟩
 obtain⟨k,hk,rfl,hA,hR,hS⟩:=hrel;by_cases hlt:k<s.size / 64
 ·generalize hr:jI st s k=r at *;have Hr:=(show Hid (jI st s k=r) from hr)
  clear hr;have c0:wr.cell? ⟨w.heap.size,0,none⟩=some (U r.a):=hA.cell 0 (by omega);have c1:wr.cell? ⟨w.heap.size,1,none⟩=some (U r.b):=hA.cell 1 (by omega);have c2:wr.cell? ⟨w.heap.size,2,none⟩=some (U r.c):=hA.cell 2 (by omega);have c3:wr.cell? ⟨w.heap.size,3,none⟩=some (U r.d):=hA.cell 3 (by omega);have c4:wr.cell? ⟨w.heap.size,4,none⟩=some (U r.e):=hA.cell 4 (by omega);have c5:wr.cell? ⟨w.heap.size,5,none⟩=some (U r.f):=hA.cell 5 (by omega);have c6:wr.cell? ⟨w.heap.size,6,none⟩=some (U r.g):=hA.cell 6 (by omega);have c7:wr.cell? ⟨w.heap.size,7,none⟩=some (U r.h):=hA.cell 7 (by omega);have hb:(k+1)*64≤s.size:=by omega
  have v1:IntKind.i64.wrap ((k:Int)*64)=k*64:=by simp[IntKind.wrap,IntKind.bits,IntKind.signed];omega
  have v2:IntKind.i64.wrap ((k:Int)+1)=k+1:=by simp[IntKind.wrap,IntKind.bits,IntKind.signed];omega
  have v3:IntKind.i64.wrap (((k:Int)+1)*64)=(k+1)*64:=by simp[IntKind.wrap,IntKind.bits,IntKind.signed];omega
  have b1:(0:Int)≤k*64:=by omega
  have b2:(k:Int)*64≤(k+1)*64:=by omega
  have b3:((k:Int)+1)*64≤s.size:=by omega
  have t1:((k:Int)*64).toNat=k*64:=by omega
  have t2:(((k:Int)+1)*64).toNat=(k+1)*64:=by omega
  have hx:(blk s k).size=64:=by unfold blk;simp[ByteArray.size_extract];omega
  have hTr:=hT.since hS;go_wp2_with fail
  go_region_with (first | (go_at_call 203;refine(Te r (blk s k) _ hx ?_).mono ?_;(exact hTr.since (Since.refl _).drew);rintro e w' ⟨rfl,hS'⟩;generalize hm:St.add _ _=q;have Hm:Hid (r.mix (blk s k)=q):=hm;clear hm;simp only[St.val];have hA':=hA.since ((Since.refl _).drew.trans hS');have d0:=hA'.cell 0 (by omega);have d1:=hA'.cell 1 (by omega);have d2:=hA'.cell 2 (by omega);have d3:=hA'.cell 3 (by omega);have d4:=hA'.cell 4 (by omega);have d5:=hA'.cell 5 (by omega);have d6:=hA'.cell 6 (by omega);have d7:=hA'.cell 7 (by omega);have f0:=hA'.frozen 0 (by omega);have f1:=hA'.frozen 1 (by omega);have f2:=hA'.frozen 2 (by omega);have f3:=hA'.frozen 3 (by omega);have f4:=hA'.frozen 4 (by omega);have f5:=hA'.frozen 5 (by omega);have f6:=hA'.frozen 6 (by omega);have f7:=hA'.frozen 7 (by omega);simp only[Nat.zero_add] at d0 d1 d2 d3 d4 d5 d6 d7 f0 f1 f2 f3 f4 f5 f6 f7))
  all_goals
   generalize hw3:World.setCell _ _ _=w3;have hA3:bA w3 w.heap.size 0 8 q.fn:=by rw[←hw3];exact hA'.FI q
   have AR:bA w3 (w.heap.size+1) 0 8 (fun _=>0):=by rw[←hw3];exact(hR.since ((Since.refl _).drew.trans hS')).WT (by omega) q
   have fu:Since w w3:=by rw[←hw3];exact(hS.trans ((Since.refl _).drew.trans hS')).FI (by omega) q
   clear hw3 d0 d1 d2 d3 d4 d5 d6 d7 f0 f1 f2 f3 f4 f5 f6 f7 c0 c1 c2 c3 c4 c5 c6 c7;go_wp2_with fail
   go_roundw
   case rel=>
    have e1:jI st s (k+1)=q:=by rw[←Hm.out,←Hr.out];rfl
    exact⟨k+1,by omega,by go_num,by rw[e1];exact hA3,AR,fu⟩
   case measure=>simp[intOf];omega
 have hke:k=s.size / 64:=by omega
 subst hke;have AU:=hA.range;have hL:(row 8 (jI st s (s.size / 64)).fn).length=8:=aC _ _;have hst:=hR.store Tryz.prog (jI st s (s.size / 64)).fn;go_wp2_with (refine wpList_load_mid (by rfl) 199 _ (by rfl) w.heap.size 0 (by rfl) _ _ AU Tryz.underlying199 (by rfl) (by rw[aC];kernel_rfl) ?_)
 exact bodyPost_ret (aQ Tryz.results148 _ _ _ (w.heap.size+1) _ _ (by rfl) (hR.setRow (jI st s (s.size / 64)).fn).range Tryz.underlying199 (by rfl) (by rw[aC];kernel_rfl)) rfl ⟨rfl,hS.setCells (by omega) _ _⟩
end Sm
end Go.Proofs.YtmhcfaaggkidjaaGreatDoor
end
section
namespace Go.Proofs.YtmhcfaaggkidjaaGreatDoor
set_option maxRecDepth 100000
namespace Sm
open Go.RowKit
attribute [local go_sem] jr fO jw jy pK jA jB jC fP fQ dU fo bI fe dE
def wb (x:BitVec 32):List Int:=[FC (x >>> 24),FC (x >>> 16),FC (x >>> 8),FC x]
def St.bytes (s:St):List Int:=wb s.a++wb s.b++wb s.c++wb s.d++wb s.e++wb s.f++wb s.g++wb s.h
set_option maxHeartbeats 1000000 in
set_option maxRecDepth 100000 in
theorem mU (st:St) (w:World) :
  Calls Tryz.prog 150 #[st.val] w fun e w'=>e=.returned (.string (strOfNums st.bytes))∧Since w w':=by
 have hmk:∀w,(Instr.makeSlice 38 (.int .i64 0) (.int .i64 32)).run Tryz.prog w=.ok (.slice (some ⟨w.heap.size,0,none⟩) 0 32) (w.alloc (.cells #[.int .u8 0,.int .u8 0,.int .u8 0,.int .u8 0,.int .u8 0,.int .u8 0,.int .u8 0,.int .u8 0,.int .u8 0,.int .u8 0,.int .u8 0,.int .u8 0,.int .u8 0,.int .u8 0,.int .u8 0,.int .u8 0,.int .u8 0,.int .u8 0,.int .u8 0,.int .u8 0,.int .u8 0,.int .u8 0,.int .u8 0,.int .u8 0,.int .u8 0,.int .u8 0,.int .u8 0,.int .u8 0,.int .u8 0,.int .u8 0,.int .u8 0,.int .u8 0] 5)):=fun _=>by kernel_rfl
 have i0:∀w,(Instr.index 199 (.agg #[U st.a,U st.b,U st.c,U st.d,U st.e,U st.f,U st.g,U st.h]) (.int .i64 0)).run Tryz.prog w=.ok (U st.a) w:=fun _=>by kernel_rfl
 have i1:∀w,(Instr.index 199 (.agg #[U st.a,U st.b,U st.c,U st.d,U st.e,U st.f,U st.g,U st.h]) (.int .i64 1)).run Tryz.prog w=.ok (U st.b) w:=fun _=>by kernel_rfl
 have i2:∀w,(Instr.index 199 (.agg #[U st.a,U st.b,U st.c,U st.d,U st.e,U st.f,U st.g,U st.h]) (.int .i64 2)).run Tryz.prog w=.ok (U st.c) w:=fun _=>by kernel_rfl
 have i3:∀w,(Instr.index 199 (.agg #[U st.a,U st.b,U st.c,U st.d,U st.e,U st.f,U st.g,U st.h]) (.int .i64 3)).run Tryz.prog w=.ok (U st.d) w:=fun _=>by kernel_rfl
 have i4:∀w,(Instr.index 199 (.agg #[U st.a,U st.b,U st.c,U st.d,U st.e,U st.f,U st.g,U st.h]) (.int .i64 4)).run Tryz.prog w=.ok (U st.e) w:=fun _=>by kernel_rfl
 have i5:∀w,(Instr.index 199 (.agg #[U st.a,U st.b,U st.c,U st.d,U st.e,U st.f,U st.g,U st.h]) (.int .i64 5)).run Tryz.prog w=.ok (U st.f) w:=fun _=>by kernel_rfl
 have i6:∀w,(Instr.index 199 (.agg #[U st.a,U st.b,U st.c,U st.d,U st.e,U st.f,U st.g,U st.h]) (.int .i64 6)).run Tryz.prog w=.ok (U st.g) w:=fun _=>by kernel_rfl
 have i7:∀w,(Instr.index 199 (.agg #[U st.a,U st.b,U st.c,U st.d,U st.e,U st.f,U st.g,U st.h]) (.int .i64 7)).run Tryz.prog w=.ok (U st.h) w:=fun _=>by kernel_rfl
 unfold St.val;go_enter Tryz.func150,Tryz.ntmps150
 go_wp2_with fail
 refine wp_loop_rounds 9 ?_;iterate 9 (rw[rounds_succ];go_wp2)
 rw[jG _ st.bytes (w.heap.size+1) 32 32 rfl ?hb]
 case hb=>
  intro i hi;iterate 8 rw[World.cell?_alloc_past _ _ _ (by simp<;>omega)]
  rw[World.cell?_alloc_at _ _ _ _ (by simp)];have e:∀l:List Int,i<l.length→(l.map (Value.int .u8)).toArray[i]?=some (.int .u8 (l.getD i 0)):=by
   intro l hl;simp[hl]
  exact e st.bytes hi
 go_wp2
 go_ret;exact⟨rfl,by repeat (first | exact Since.refl _ | refine Since.alloc ?_ _)⟩
end Sm
end Go.Proofs.YtmhcfaaggkidjaaGreatDoor
end
