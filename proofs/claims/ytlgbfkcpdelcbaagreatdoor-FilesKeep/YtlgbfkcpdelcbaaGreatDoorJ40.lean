import Derived.Test.YtlgbfkcpdelcbaaGreatDoorJ10
import Derived.Test.YtlgbfkcpdelcbaaGreatDoorJ13
set_option linter.unusedSimpArgs false
set_option linter.unusedVariables false
set_option maxHeartbeats 8000000
set_option maxRecDepth 100000
namespace Go.Proofs.YtlgbfkcpdelcbaaGreatDoor
section
namespace Sm.Sr
open Go.RowKit
attribute [local go_sem ↓] gQ eF iB iC lq iD iE iG dU eG cZ dG bu
theorem horner (x:BitVec 32)(d:UInt8):x*256#32+BitVec.ofNat 32 d.toNat=x <<< 8 ||| BitVec.ofNat 32 d.toNat:=by
 have e:x*256#32=x <<< 8:=by
  apply BitVec.eq_of_toNat_eq
  have h:(256#32).toNat=256:=by decide
  rw[BitVec.toNat_mul,BitVec.toNat_shiftLeft,Nat.shiftLeft_eq,h]
 rw[e];apply BitVec.add_eq_or_of_and_eq_zero
 apply BitVec.eq_of_getLsbD_eq
 intro i hi;simp only[BitVec.getLsbD_and,BitVec.getLsbD_shiftLeft,BitVec.getLsbD_zero];by_cases h:i<8
 ·simp[h]
 have hd:=d.toNat_lt;have:(BitVec.ofNat 32 d.toNat).getLsbD i=false:=by
  rw[BitVec.getLsbD_ofNat,Nat.testBit_lt_two_pow (Nat.lt_of_lt_of_le hd (Nat.pow_le_pow_right (by decide) (show 8≤i by omega)))];simp
 simp[this]
theorem a0I (t:TypeId)(x:BitVec 32):binOp .add t (.int .u32 0) (U x)=pure (U x):=by
 have h:(.int .u32 0:Value)=U 0:=rfl;rw[h,gQ]
 congr 2
 exact BitVec.zero_add x
attribute [local go_sem ↓] a0I
theorem oq (a b c d:UInt8):((BitVec.ofNat 32 d.toNat*256#32+BitVec.ofNat 32 c.toNat)*256#32+BitVec.ofNat 32 b.toNat)*256#32+BitVec.ofNat 32 a.toNat=nH a b c d:=by
 rw[horner,horner,horner];unfold nH;simp only[BitVec.shiftLeft_or_distrib,←BitVec.shiftLeft_add];show BitVec.ofNat 32 d.toNat <<< 24 ||| BitVec.ofNat 32 c.toNat <<< 16 ||| BitVec.ofNat 32 b.toNat <<< 8 ||| BitVec.ofNat 32 a.toNat=_
 apply BitVec.eq_of_getLsbD_eq
 intro i hi;simp only[BitVec.getLsbD_or];cases (BitVec.ofNat 32 d.toNat <<< 24).getLsbD i<;>cases (BitVec.ofNat 32 c.toNat <<< 16).getLsbD i<;>cases (BitVec.ofNat 32 b.toNat <<< 8).getLsbD i<;>cases (BitVec.ofNat 32 a.toNat).getLsbD i<;>rfl
theorem AV (s:ByteArray)(w:World)(hs:s.size≤1000) :
  Calls Tryz.prog 285 #[.string s] w fun e w'=>∃v,e=.returned v∧Row w' w.heap.size 81 v (row (s.size / 4) (aC s))∧Since w w':=by
 obtain⟨i0,hi,hz,hsz,hby⟩:∃i,Tryz.prog.info? 81=some i∧i.zero=some (.int .u32 0)∧i.size=1∧i.bytes=4:=⟨_,rfl,by kernel_rfl,by kernel_rfl,by kernel_rfl⟩
 go_enter Tryz.func285,Tryz.ntmps285
 go_wp2_with fail
 go_loopw [4,3] (fun i l wr=>∃k:Nat,k≤s.size / 4∧i=.int .i64 (4*k)∧Row wr w.heap.size 81 l (row k (aC s))∧Since w wr) (fun i _ _=>s.size+4-(intOf i).toNat)
 case atStart=>exact⟨0,by omega,rfl,Row.nil _ _ _,Since.refl w⟩
 obtain⟨k,hk,rfl,hR,hS⟩:=hrel;by_cases hlt:k<s.size / 4
 ·have z0:(4*(k:Int)+3)<s.size:=by omega
  have z1:(4*(k:Int)+2)<s.size:=by omega
  have z2:(4*(k:Int)+1)<s.size:=by omega
  have z3:(4*(k:Int))<s.size:=by omega
  have t0:(4*(k:Int)+3).toNat=4*k+3:=by omega
  have t1:(4*(k:Int)+2).toNat=4*k+2:=by omega
  have t2:(4*(k:Int)+1).toNat=4*k+1:=by omega
  have t3:(4*(k:Int)).toNat=4*k:=by omega
  have g0:4*k+3<s.size:=by omega
  have g1:4*k+2<s.size:=by omega
  have g2:4*k+1<s.size:=by omega
  have g3:4*k<s.size:=by omega
  have zz:4*(k:Int)+4≤s.size:=by omega
  go_wp2_with fail
  refine wp_loop_rounds 5 ?_;iterate 4 (rw[rounds_succ];go_wp2_with fail)
  have hw:((BitVec.ofNat 32 s[4*k+3].toNat*256#32+BitVec.ofNat 32 s[4*k+2].toNat)*256#32+BitVec.ofNat 32 s[4*k+1].toNat)*256#32+BitVec.ofNat 32 s[4*k].toNat=aC s k:=by
   rw[oq];unfold aC aT;rw[List.getD_eq_getElem?_getD,List.getElem?_eq_getElem (by simpa using g3),List.getD_eq_getElem?_getD,List.getElem?_eq_getElem (by simpa using g2),List.getD_eq_getElem?_getD,List.getElem?_eq_getElem (by simpa using g1),List.getD_eq_getElem?_getD,List.getElem?_eq_getElem (by simpa using g0)]
   rfl
  rw[hw];clear hw;generalize hx:aC s k=x at *;have HX:=(show Hid (aC s k=x) from hx)
  clear hx;have hrl:(row k (aC s)).length=k:=aB _ _;have il:(row k (aC s)).length+1≤maxLen:=by simp[maxLen,hrl];omega
  have hbb:((row k (aC s)).length+1)*4≤140737488355328:=by rw[hrl];omega
  have hbase:∀o,w.heap.size≤(wr.alloc o).heap.size:=by intro o;have:=hS.size;simp;omega
  rw[rounds_succ];go_wp2_with (at_builtin;refine wpList_append_lies _ (by rfl) _ _ 360 (by rfl) w.heap.size 81 i0 (.int .u32 0) 1 4 Tryz.underlying360 hi hz hsz hby (by rfl) (by decide) u3 (row k (aC s)).length (row k (aC s)) (by rfl) (hR.since ((Since.refl _).alloc _)) ⟨wr.heap.size,0,none⟩ 1 1 [U x] (by rfl) (by rfl) (mM _ _ _ _ rfl) (fun u hu=>by simp at hu;subst hu;rfl) (by decide) il hbb (hbase _) (wr.heap.size+1) (by simp) ?_;intro g cp w2 hown hgrow hat hlt2)
  have hR2:Row w2 w.heap.size 81 (.slice (some ⟨g,0,none⟩) (k+1) cp) (row (k+1) (aC s)):=by
   have e1:row (k+1) (aC s)=row k (aC s)++[U x]:=by unfold row;rw[List.range_succ,List.map_append,←HX.o];rfl
   unfold Row;rw[e1,List.length_append];rw[aB] at hown ⊢;exact hown
  have hS2:Since w w2:=(hS.alloc _).grown hgrow (fun k hk=>hR.own k hk);exact⟨⟨k+1,by omega,by congr 1<;>omega,hR2,hS2⟩,by simp[intOf];omega⟩
 have hke:k=s.size / 4:=by omega
 have zz:¬4*(k:Int)+4≤s.size:=by omega
 go_wp2_with fail
 go_ret;exact⟨_,rfl,by rw[←hke];exact hR,hS⟩
end Sm.Sr
end
section
namespace Sm.Sr
open Go.RowKit
attribute [local go_sem ↓] gQ eF iB iC lq iD iE iG dU eG cZ dG bu
theorem fu (n:Int)(w:World):Calls Tryz.prog 110 #[.int .i64 n,.int .i64 0,.int .i64 4294967295] w fun e w'=>e=.returned (.bool (decide (0≤n)&&decide (n≤4294967295)))∧w'=w:=by
 by_cases h:0≤n
 ·go_enter Tryz.func110,Tryz.ntmps110
  go_wp2_with fail
  go_ret;exact⟨by simp[h],rfl⟩
 go_enter Tryz.func110,Tryz.ntmps110
 go_wp2_with fail
 go_ret;exact⟨by simp[h];intro h2;omega,rfl⟩
def bC:ByteArray:=⟨#[101,120,112,97,110,100,32,51,50,45,98,121,116,101,32,107]⟩
theorem kY (a b:ByteArray)(j:Nat)(h:j<a.size):aT (a++b) j=aT a j:=by
 unfold aT;have e:(a++b).data.toList=a.data.toList++b.data.toList:=by rw[ByteArray.data_append];simp
 have h':j<a.data.toList.length:=by simpa using h
 rw[e,List.getD_eq_getElem?_getD,List.getElem?_append_left h',←List.getD_eq_getElem?_getD]
theorem jW (a b:ByteArray)(j:Nat):aT (a++b) (a.size+j)=aT b j:=by
 unfold aT;have e:(a++b).data.toList=a.data.toList++b.data.toList:=by rw[ByteArray.data_append];simp
 have h':a.data.toList.length=a.size:=by simp
 rw[e,List.getD_eq_getElem?_getD,List.getElem?_append_right (by omega),h',show a.size+j-a.size=j by omega,←List.getD_eq_getElem?_getD]
theorem kZ (b:ByteArray)(i:Nat)(h:i<4):aC (bC++b) i=aC bC i:=by
 have hs:bC.size=16:=rfl;unfold aC;rw[kY _ _ _ (by omega),kY _ _ _ (by omega),kY _ _ _ (by omega),kY _ _ _ (by omega)]
theorem dS (b:ByteArray)(i:Nat):aC (bC++b) (4+i)=aC b i:=by
 have hs:bC.size=16:=rfl;unfold aC;rw[show 4*(4+i)=bC.size+4*i by omega,show bC.size+4*i+1=bC.size+(4*i+1) by omega,show bC.size+4*i+2=bC.size+(4*i+2) by omega,show bC.size+4*i+3=bC.size+(4*i+3) by omega,jW,jW,jW,jW]
theorem Uw (key ah:ByteArray)(n:BitVec 32):row 12 (aC (bC++key))++[U n]++row 3 (aC ah)=row 16 (dx key ah n):=by
 have h0:=kZ key 0 (by omega);have h1:=kZ key 1 (by omega);have h2:=kZ key 2 (by omega);have h3:=kZ key 3 (by omega);have r0:=dS key 0;have r1:=dS key 1;have r2:=dS key 2;have r3:=dS key 3;have r4:=dS key 4;have r5:=dS key 5;have r6:=dS key 6;have r7:=dS key 7;have e0:aC bC 0=1634760805#32:=by decide
 have e1:aC bC 1=857760878#32:=by decide
 have e2:aC bC 2=2036477234#32:=by decide
 have e3:aC bC 3=1797285236#32:=by decide
 show [U (aC (bC++key) 0),U (aC (bC++key) 1),U (aC (bC++key) 2),U (aC (bC++key) 3),U (aC (bC++key) (4+0)),U (aC (bC++key) (4+1)),U (aC (bC++key) (4+2)),U (aC (bC++key) (4+3)),U (aC (bC++key) (4+4)),U (aC (bC++key) (4+5)),U (aC (bC++key) (4+6)),U (aC (bC++key) (4+7)),U n,U (aC ah 0),U (aC ah 1),U (aC ah 2)]=_
 rw[h0,h1,h2,h3,r0,r1,r2,r3,r4,r5,r6,r7,e0,e1,e2,e3]
 rfl
theorem _root_.Go.Proofs.YtlgbfkcpdelcbaaGreatDoor.Sm.Row.arr {w:World}{B:Nat}{e:TypeId}{g cap n:Nat}{f:Nat→BitVec 32}(h:Row w B e (.slice (some ⟨g,0,none⟩) n cap) (row n f)):aN w g 0 n f where
 cell j hj:=by
  rw[Nat.zero_add,h.cell (by rw[aB]) j (by rw[aB];exact hj)];have:=rA n f j hj;rw[List.getElem?_eq_some_iff] at this;obtain⟨_,h2⟩:=this;rw[h2]
 frozen j hj:=by
  rw[Nat.zero_add];unfold Row at h;rw[aB] at h;exact World.ownsRow.frozenAt h j
def rr (f:Nat→BitVec 32):Nat→Nat→BitVec 32
 | 0=>f
 | k+1=>tq (k % 2) (rr f k)
theorem a0J (f:Nat→BitVec 32):∀n,rr f (2*n)=tu f n:=by
 intro n;induction n with
 | zero=>rfl
 | succ n ih=>
  rw[show 2*(n+1)=2*n+1+1 by omega];show tq ((2*n+1) % 2) (tq (2*n % 2) (rr f (2*n)))=tq 1 (tq 0 (tu f n))
  rw[ih,show (2*n+1) % 2=1 by omega,show 2*n % 2=0 by omega]
theorem Nj (sh:Nat)(f:Nat→BitVec 32)(hsh:sh<2)(k:Nat)(hk:k<4)(j:Nat)(hj:j<16) :
  mx (bK sh f k) k (4+(k+sh) % 4) (8+(k+2*sh) % 4) (12+(k+3*sh) % 4) 2 j=bK sh f (k+1) j:=by
 have all:∀sh,sh<2→∀k,k<4→∀j,j<16→mx (bK sh f k) k (4+(k+sh) % 4) (8+(k+2*sh) % 4) (12+(k+3*sh) % 4) 2 j=bK sh f (k+1) j:=by
  intro sh hsh k hk;rcases sh with _ | _ | sh
  all_goals first | omega | skip
  all_goals rcases k with _ | _ | _ | _ | k
  all_goals first | omega | skip
  all_goals
   intro j hj;rcases j with _ | _ | _ | _ | _ | _ | _ | _ | _ | _ | _ | _ | _ | _ | _ | _ | j
   all_goals first | omega | rfl
 exact all sh hsh k hk j hj
end Sm.Sr
end
end Go.Proofs.YtlgbfkcpdelcbaaGreatDoor
