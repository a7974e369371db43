import Derived.BigQuiet
import Derived.Test.YtlgbfkcpdelcbaaGreatDoorJ02
import Derived.Test.YtlgbfkcpdelcbaaGreatDoorJ03
set_option linter.unusedSimpArgs false
set_option linter.unusedVariables false
set_option maxHeartbeats 8000000
set_option maxRecDepth 100000
namespace Go.Proofs.YtlgbfkcpdelcbaaGreatDoor
section
namespace Sl
open Go.RowKit
theorem kS (s:ByteArray)(i:Nat)(h:s.size≤i):sb s i=0:=by
 have hsz:s.data.size=s.size:=rfl;unfold sb;rw[Array.getElem?_eq_none (by omega)]
 rfl
theorem jI (w:World)(b o n cap:Nat)(f:Nat→UInt8)(hb:∀i,i<n→w.cell? ⟨b,o+i,none⟩=some (bv (f i))) :
  (convert 159 9 (.slice (some ⟨b,o,none⟩) n cap)).run Tryz.prog w=.ok (.string (txt n f)) w:=by
 have h:=run_convert_bytes_arg (P:=Tryz.prog) w 159 5 Tryz.underlying159 Tryz.underlying5 b o n cap ((List.range n).map fun i=>((f i).toNat:Int)) (by simp) (fun i hi=>by
  have hi':i<n:=by simpa using hi
  rw[hb i hi'];simp[bv,hi']) 9 Tryz.underlying9
 rw[h];have e:strOfNums ((List.range n).map fun i=>((f i).toNat:Int))=txt n f:=by
  unfold txt strOfNums;simp
 rw[e]
theorem nT (s:ByteArray)(n:Nat)(hn:n≤s.size):(s.data.toList.map fun b=>Value.int .u8 (b.toNat:Int)).take n=ak n (fun i=>bv (sb s i)):=by
 have hsz:s.data.size=s.size:=rfl;apply rz
 ·simp;omega
 intro j hj;rw[List.getElem?_take_of_lt hj,List.getElem?_map,Array.getElem?_toList,Array.getElem?_eq_getElem (by omega)];unfold bv sb;rw[Array.getElem?_eq_getElem (by omega)]
 rfl
theorem gT (w:World)(ty b o m cap n:Nat)(f:Nat→Value)(s:ByteArray)(hc:aA w b n f)(hm:o+m≤n) :
  (Builtin.copy_ #[159,9] ty #[.slice (some ⟨b,o,none⟩) m cap,.string s]).run Tryz.prog w=.ok (.int .i64 ((min s.size m:Nat):Int)) (w.setCells b o (ak (min s.size m) (fun i=>bv (sb s i)))):=by
 have hst:=hc.store Tryz.prog o (min s.size m) (by omega) (fun i=>bv (sb s i)) (fun _ _=>rfl);have Be:=nT s (min s.size m) (Nat.min_le_left _ _);have hz:(Go.sizeOf 5).run Tryz.prog w=.ok 1 w:=Tryz.sizeOf5 w;have hmin:s.size.min m=min s.size m:=rfl;simp[Builtin.copy_,run_underlying Tryz.underlying159,Builtin.lenOf,Builtin.firstCells,hz];rw[hmin,Be,hst]
 rfl
theorem Zl (n:Nat):(⟨(Lib.repeatL (⟨#[0]⟩:ByteArray).data.toList n).toArray⟩:ByteArray)=txt n (fun _=>0):=by
 have e:∀n,Lib.repeatL [0] n=List.replicate n 0:=fun n=>by
  induction n with
  | zero=>rfl
  | succ n ih=>simp[Lib.repeatL,List.replicate_succ] at ih ⊢;exact ih
 unfold txt
 congr 2
 show Lib.repeatL [0] n=_
 rw[e];apply List.ext_getElem?
 intro i;by_cases h:i<n
 ·simp[h]
 simp[h]
theorem eH (n:Nat)(w:World)(hn:n≤1000):Calls Tryz.prog 33 #[.int .i64 (n:Int)] w fun e w'=>e=.returned (.string (txt n (fun _=>0)))∧Since w w':=by
 go_enter Tryz.func33,Tryz.ntmps33
 go_wp2_with fail
 refine(qy ⟨#[0]⟩ n _ (by omega) (by show 1*n≤_;omega)).mono ?_;rintro e w' ⟨rfl,hS⟩;rw[Zl];have hS2:Since w w':=hS;clear hS;go_wp2_with fail
 go_ret;exact⟨rfl,hS2⟩
theorem Zm (s:ByteArray)(m:Nat)(h:s.size≤m):s++txt (m-s.size) (fun _=>0)=txt m (sb s):=by
 have hsz:s.data.size=s.size:=rfl;apply ByteArray.ext
 apply Array.ext_getElem?
 intro i;have e1:(txt m (sb s)).data[i]?=((List.range m).map (sb s))[i]?:=by unfold txt;exact List.getElem?_toArray ..
 rw[e1,ByteArray.data_append,Array.getElem?_append,List.getElem?_map];by_cases h1:i<s.size
 ·rw[if_pos (by omega),List.getElem?_range (by omega)];simp only[Option.map_some];unfold sb;rw[Array.getElem?_eq_getElem (by omega)]
  rfl
 rw[if_neg (by omega)];have e2:(txt (m-s.size) (fun _=>0)).data[i-s.data.size]?=((List.range (m-s.size)).map (fun _=>(0:UInt8)))[i-s.data.size]?:=by unfold txt;exact List.getElem?_toArray ..
 rw[e2,List.getElem?_map];by_cases h2:i<m
 ·rw[List.getElem?_range (by omega),List.getElem?_range (by omega)];simp only[Option.map_some];rw[kS s i (by omega)]
 rw[List.getElem?_eq_none (by simp;omega),List.getElem?_eq_none (by simp;omega)]
 rfl
theorem QL (s:ByteArray)(m:Nat)(h:m≤s.size):s.extract 0 m=txt m (sb s):=by
 have hsz:s.data.size=s.size:=rfl;apply ByteArray.ext
 apply Array.ext_getElem?
 intro i;have e1:(txt m (sb s)).data[i]?=((List.range m).map (sb s))[i]?:=by unfold txt;exact List.getElem?_toArray ..
 rw[e1,List.getElem?_map,ByteArray.data_extract,Array.getElem?_extract];by_cases h1:i<m
 ·rw[if_pos (by omega),List.getElem?_range (by omega),Nat.zero_add];simp only[Option.map_some];unfold sb;rw[Array.getElem?_eq_getElem (by omega)]
  rfl
 rw[if_neg (by omega),List.getElem?_eq_none (by simp;omega)]
 rfl
theorem pu (s:ByteArray)(m:Nat)(w:World)(hm:m≤1000):Calls Tryz.prog 130 #[.string s,.int .i64 (m:Int)] w fun e w'=>e=.returned (.string (txt m (sb s)))∧Since w w':=by
 by_cases h:s.size<m
 ·have h2:(s.size:Int)<m:=by omega
  have E1:Hid ((m:Int)-s.size=((m-s.size:Nat):Int)):=show (m:Int)-s.size=((m-s.size:Nat):Int) by omega
  have HP:=hid (Zm s m (by omega));go_enter Tryz.func130,Tryz.ntmps130
  go_wp2_with fail
  rw[E1.out];refine(eH _ _ (by omega)).mono ?_;rintro e w' ⟨rfl,hS⟩;have hz:(txt (m-s.size) (fun _=>0)).size=m-s.size:=bG _ _;have hz2:(txt m (sb s)).size=m:=bG _ _;have hcut:(txt m (sb s)).extract 0 m=txt m (sb s):=by rw[QL _ m (by rw[bG];omega)];exact pq (fun i hi=>ma m _ i hi)
  have hsum:s.size+(txt (m-s.size) (fun _=>0)).size≤9223372036854775807:=by omega
  go_wp2_with fail
  rw[HP.o];go_wp2_with fail
  rw[hcut];go_ret;exact⟨rfl,hS⟩
 have h2:¬(s.size:Int)<m:=by omega
 have hc:=QL s m (by omega);go_enter Tryz.func130,Tryz.ntmps130
 go_wp2_with fail
 go_ret;first | exact⟨rfl,Since.refl _⟩ | exact⟨by rw[hc],Since.refl _⟩
def qg (s:ByteArray)(j:Nat):UInt8:=if j=0 then UInt8.ofNat s.size else sb s (j-1)
def fill (s:ByteArray):ByteArray:=txt 81 (qg s)
theorem pz (s:ByteArray):(fill s).size=81:=bG _ _
theorem QM (s:ByteArray)(h:s.size≤80):strOfNums [(s.size:Int)]++txt 80 (sb s)=fill s:=by
 apply ByteArray.ext
 apply Array.ext_getElem?
 intro i;have e1:(fill s).data[i]?=((List.range 81).map (qg s))[i]?:=by unfold fill txt;exact List.getElem?_toArray ..
 have e2:(txt 80 (sb s)).data=((List.range 80).map (sb s)).toArray:=rfl;rw[e1,ByteArray.data_append,List.getElem?_map,e2];have e3:(strOfNums [(s.size:Int)]).data=#[UInt8.ofNat s.size]:=by simp[strOfNums]
 rw[e3,Array.getElem?_append];by_cases h0:i=0
 ·subst h0;simp[qg]
 rw[if_neg (by simp;omega)];simp only[List.getElem?_toArray,List.getElem?_map];by_cases h2:i<81
 ·rw[List.getElem?_range (by simp;omega),List.getElem?_range (by omega)];simp[qg,h0]
 rw[List.getElem?_eq_none (by simp;omega),List.getElem?_eq_none (by simp;omega)]
 rfl
end Sl
end
section
namespace Tw
open Go.RowKit
open Sl (gT)
theorem info5:(Tryz.prog.info? 5).map (fun i=>(i.zero,i.size,i.bytes))=some (some (.int .u8 0),1,1):=by kernel_rfl
theorem info_parts' {P:Program}{t:TypeId}{z:Value}{s y:Nat}(h:(P.info? t).map (fun i=>(i.zero,i.size,i.bytes))=some (some z,s,y)):∃i,P.info? t=some i∧i.zero=some z∧i.size=s∧i.bytes=y:=by
 cases hi:P.info? t with
 | none=>rw[hi] at h;cases h
 | some i=>rw[hi] at h;simp at h;exact⟨i,rfl,h.1,h.2.1,h.2.2⟩
theorem wN (n j:Nat)(hj:j<n):(madeCells #[Value.int .u8 0] n)[j]?=some (bv 0):=by
 unfold madeCells;simp only[Array.getElem?_map];rw[Array.getElem?_eq_getElem (by simpa using hj)];simp[Nat.mod_one,bv]
theorem qA (n:Nat)(w:World)(hn:n≤1000):(Instr.makeSlice 159 (.int .i64 n) (.int .i64 n)).run Tryz.prog w=.ok (.slice (some ⟨w.heap.size,0,none⟩) n n) (w.alloc (.cells (madeCells #[Value.int .u8 0] n) 5)):=by
 obtain⟨i,hi,hz,hs,hb⟩:=info_parts' info5;have h:=run_makeSlice (P:=Tryz.prog) w 159 5 i _ Tryz.underlying159 hi hz .i64 .i64 (n:Int) (n:Int) (by omega) (by omega) (by rw[hs];omega) (by rw[hb];omega) (by omega);rw[hs,Nat.mul_one] at h
 simpa [Value.cells] using h
theorem fT (b:Nat)(r:Nat):∀(vs:List Value) (o:Nat) (w:World),(w.setCells b o vs).shape? r=w.shape? r
 | [],_,_=>rfl
 | v::l,o,w=>by
  rw[World.setCells,fT b r l];unfold World.shape? World.setCell;simp only[Array.getElem?_modify];by_cases h:b=r
  ·rw[if_pos h];cases hh:w.heap[r]? with
   | none=>rfl
   | some ob=>cases ob<;>simp
  rw[if_neg h]
theorem sZ (s:ByteArray)(n:Nat)(hn:n=s.size)(i:Nat)(x:UInt8)(h:s.data.toList[i]?=some x):(ak n (fun i=>bv (sb s i)))[i]?=some (.int .u8 x.toNat):=by
 have hsz:s.data.size=s.size:=rfl;have hi:i<s.size:=by have:=(List.getElem?_eq_some_iff.1 h).1;simpa using this
 rw[bM _ _ i (by omega)];unfold bv sb;rw[←Array.getElem?_toList,h]
 rfl
theorem mg {a w:World}(h:Since a w){b n:Nat}(hb:a.heap.size≤b):Since a (w.freeze ⟨b,0,none⟩ n):=by
 unfold World.freeze;split
 ·exact h
 refine Below.trans (show Below a.heap.size a w from h) ⟨rfl,rfl,rfl,by simp,fun k hk=>?_⟩;simp only[Array.getElem?_modify];rw[if_neg (by show ¬b=k;omega)]
theorem qB (s:ByteArray)(w:World)(hs:s.size≤600)(h0:0<s.size) :
  Calls Tryz.prog 109 #[.string s] w fun e w'=>e=.returned (.string s)∧Since w w':=by
 have hs2:(0:Int)<s.size:=by omega
 have hs3:¬(s.size:Int)=0:=by omega
 have hmk:=qA s.size w (by omega);have hA:aA (w.alloc (.cells (madeCells #[Value.int .u8 0] s.size) 5)) w.heap.size s.size (fun _=>bv 0):=aA.new w _ _ _ _ (fun j hj=>wN _ _ hj) _ rfl;have hcp:=gT (w.alloc (.cells (madeCells #[Value.int .u8 0] s.size) 5)) 3 w.heap.size 0 s.size s.size s.size _ s hA (by omega);rw[Nat.min_self] at hcp;have hA2:=hA.setRow 0 s.size (by omega) (fun i=>bv (sb s i));have hus:=Lib.run_unsafeString_row (P:=Tryz.prog) (w:=(w.alloc (.cells (madeCells #[Value.int .u8 0] s.size) 5)).setCells w.heap.size 0 (ak s.size (fun i=>bv (sb s i)))) 234 3 9 5 Tryz.underlying234 (by kernel_rfl) w.heap.size s.size (by rw[fT];unfold World.shape?;rw[heap_alloc_new];simp only[size_madeCells]) s.data.toList (by
   intro e;have hsz:s.data.size=s.size:=rfl;have h1:s.data.toList.length=s.data.size:=Array.length_toList;rw[e,List.length_nil] at h1;omega) (by rw[Array.length_toList];exact Nat.le_refl _) (by rw[Array.length_toList];have hsz:s.data.size=s.size:=rfl;omega) (fun j x hx=>by
   have hj:j<s.size:=by have:=(List.getElem?_eq_some_iff.1 hx).1;simpa using this
   rw[Addr.add_mid,Nat.zero_add,hA2.cell j hj];unfold fP;rw[if_pos (by omega)];have:=sZ s s.size rfl j x hx;rw[bM _ _ j hj] at this;exact this)
 have hsz:s.data.toList.length=s.size:=Array.length_toList;rw[hsz] at hus;have hS:Since w (((w.alloc (.cells (madeCells #[Value.int .u8 0] s.size) 5)).setCells w.heap.size 0 (ak s.size (fun i=>bv (sb s i)))).freeze ⟨w.heap.size,0,none⟩ s.size):=
  mg (((Since.refl w).alloc _).setCells (Nat.le_refl _) _ _) (Nat.le_refl _)
 have HS:=(show Hid _ from hS)
 clear hS hA hA2;go_enter Tryz.func109,Tryz.ntmps109
 go_wp2_with fail
 go_ret;exact⟨rfl,HS.o⟩
theorem qC (w:World):Calls Tryz.prog 109 #[.string ⟨#[]⟩] w fun e w'=>e=.returned (.string ⟨#[]⟩)∧w'=w:=by
 go_enter Tryz.func109,Tryz.ntmps109
 go_wp2_with fail
 go_ret;exact⟨rfl,rfl⟩
theorem fI (s:ByteArray)(w:World)(hs:s.size≤600) :
  Calls Tryz.prog 49 #[.string s] w fun e w'=>e=.returned (.string s)∧Since w w':=by
 by_cases h0:0<s.size
 ·go_enter Tryz.func49,Tryz.ntmps49
  go_wp2_with fail
  refine(qB s _ hs h0).mono ?_;rintro e w' ⟨rfl,hS⟩;go_wp2_with fail
  go_ret;exact⟨rfl,hS⟩
 have he:s=⟨#[]⟩:=by
  cases s with
  | mk d=>congr 1;exact Array.eq_empty_of_size_eq_zero (by have hsz:d.size=(ByteArray.mk d).size:=rfl;omega)
 subst he;go_enter Tryz.func49,Tryz.ntmps49
 go_wp2_with fail
 refine(qC _).mono ?_;rintro e w' ⟨rfl,rfl⟩;go_wp2_with fail
 go_ret;exact⟨rfl,Since.refl _⟩
end Tw
end
end Go.Proofs.YtlgbfkcpdelcbaaGreatDoor
