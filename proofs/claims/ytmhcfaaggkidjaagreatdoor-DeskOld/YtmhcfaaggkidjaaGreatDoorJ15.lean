import Derived.RangeFuncBox
import Derived.Test.YtmhcfaaggkidjaaGreatDoorJ14
set_option linter.unusedSimpArgs false
set_option linter.unusedVariables false
namespace Go.Proofs.YtmhcfaaggkidjaaGreatDoor
open Go.RowKit
theorem info5:(Tryz.prog.info? 5).map (fun i=>(i.zero,i.size,i.bytes))=some (some (.int .u8 0),1,1):=by kernel_rfl
theorem info_parts' {P:Program} {t:TypeId} {z:Value} {s y:Nat} (h:(P.info? t).map (fun i=>(i.zero,i.size,i.bytes))=some (some z,s,y)):∃i,P.info? t=some i∧i.zero=some z∧i.size=s∧i.bytes=y:=by
 cases hi:P.info? t with
 | none=>rw[hi] at h;cases h
 | some i=>rw[hi] at h;simp at h;exact⟨i,rfl,h.1,h.2.1,h.2.2⟩
theorem wB (n j:Nat) (hj:j<n):(madeCells #[Value.int .u8 0] n)[j]?=some (bv 0):=by
 unfold madeCells;simp only[Array.getElem?_map];rw[Array.getElem?_eq_getElem (by simpa using hj)];simp[Nat.mod_one,bv]
theorem pO (n:Nat) (w:World) (hn:n≤1000):(Instr.makeSlice 38 (.int .i64 n) (.int .i64 n)).run Tryz.prog w=.ok (.slice (some ⟨w.heap.size,0,none⟩) n n) (w.alloc (.cells (madeCells #[Value.int .u8 0] n) 5)):=by
 obtain⟨i,hi,hz,hs,hb⟩:=info_parts' info5;have h:=run_makeSlice (P:=Tryz.prog) w 38 5 i _ Tryz.underlying38 hi hz .i64 .i64 (n:Int) (n:Int) (by omega) (by omega) (by rw[hs];omega) (by rw[hb];omega) (by omega);rw[hs,Nat.mul_one] at h
 simpa [Value.cells] using h
theorem eO (b:Nat) (r:Nat):∀(vs:List Value) (o:Nat) (w:World),(w.setCells b o vs).shape? r=w.shape? r
 | [],_,_=>rfl
 | v::l,o,w=>by
  rw[World.setCells,eO b r l];unfold World.shape? World.setCell;simp only[Array.getElem?_modify];by_cases h:b=r
  ·rw[if_pos h];cases hh:w.heap[r]? with
   | none=>rfl
   | some ob=>cases ob<;>simp
  rw[if_neg h]
theorem sV (s:ByteArray) (n:Nat) (hn:n=s.size) (i:Nat) (x:UInt8) (h:s.data.toList[i]?=some x):(aa n (fun i=>bv (sb s i)))[i]?=some (.int .u8 x.toNat):=by
 have hsz:s.data.size=s.size:=rfl;have hi:i<s.size:=by have:=(List.getElem?_eq_some_iff.1 h).1;simpa using this
 rw[aU _ _ i (by omega)];unfold bv sb;rw[←Array.getElem?_toList,h]
 rfl
theorem lF {a w:World} (h:Since a w) {b n:Nat} (hb:a.heap.size≤b):Since a (w.freeze ⟨b,0,none⟩ n):=by
 unfold World.freeze;split
 ·exact h
 refine Below.trans (show Below a.heap.size a w from h) ⟨rfl,rfl,rfl,by simp,fun k hk=>?_⟩;simp only[Array.getElem?_modify];rw[if_neg (by show ¬b=k;omega)]
set_option maxRecDepth 100000 in
theorem pQ (s:ByteArray) (w:World) (hs:s.size≤600) (h0:0<s.size) :
  Calls Tryz.prog 127 #[.string s] w fun e w'=>e=.returned (.string s)∧Since w w':=by
 have hs2:(0:Int)<s.size:=by omega
 have hs3:¬(s.size:Int)=0:=by omega
 have hmk:=pO s.size w (by omega);have hA:ak (w.alloc (.cells (madeCells #[Value.int .u8 0] s.size) 5)) w.heap.size s.size (fun _=>bv 0):=ak.new w _ _ _ _ (fun j hj=>wB _ _ hj) _ rfl;have hcp:=fE (w.alloc (.cells (madeCells #[Value.int .u8 0] s.size) 5)) 3 w.heap.size 0 s.size s.size s.size _ s hA (by omega);rw[Nat.min_self] at hcp;have hA2:=hA.setRow 0 s.size (by omega) (fun i=>bv (sb s i));have hus:=Lib.run_unsafeString_row (P:=Tryz.prog) (w:=(w.alloc (.cells (madeCells #[Value.int .u8 0] s.size) 5)).setCells w.heap.size 0 (aa s.size (fun i=>bv (sb s i)))) 94 3 9 5 Tryz.underlying94 (by kernel_rfl) w.heap.size s.size (by rw[eO];unfold World.shape?;rw[heap_alloc_new];simp only[size_madeCells]) s.data.toList (by
   intro e;have hsz:s.data.size=s.size:=rfl;have h1:s.data.toList.length=s.data.size:=Array.length_toList;rw[e,List.length_nil] at h1;omega) (by rw[Array.length_toList];exact Nat.le_refl _) (by rw[Array.length_toList];have hsz:s.data.size=s.size:=rfl;omega) (fun j x hx=>by
   have hj:j<s.size:=by have:=(List.getElem?_eq_some_iff.1 hx).1;simpa using this
   rw[Addr.add_mid,Nat.zero_add,hA2.cell j hj];unfold dF;rw[if_pos (by omega)];have:=sV s s.size rfl j x hx;rw[aU _ _ j hj] at this;exact this)
 have hsz:s.data.toList.length=s.size:=Array.length_toList;rw[hsz] at hus;have hS:Since w (((w.alloc (.cells (madeCells #[Value.int .u8 0] s.size) 5)).setCells w.heap.size 0 (aa s.size (fun i=>bv (sb s i)))).freeze ⟨w.heap.size,0,none⟩ s.size):=
  lF (((Since.refl w).alloc _).setCells (Nat.le_refl _) _ _) (Nat.le_refl _)
 have HS:=(show Hid _ from hS)
 clear hS hA hA2;go_enter Tryz.func127,Tryz.ntmps127
 go_wp2_with fail
 go_ret;exact⟨rfl,HS.out⟩
theorem pR (w:World):Calls Tryz.prog 127 #[.string ⟨#[]⟩] w fun e w'=>e=.returned (.string ⟨#[]⟩)∧w'=w:=by
 go_enter Tryz.func127,Tryz.ntmps127
 go_wp2_with fail
 go_ret;exact⟨rfl,rfl⟩
theorem ed (s:ByteArray) (w:World) (hs:s.size≤600) :
  Calls Tryz.prog 72 #[.string s] w fun e w'=>e=.returned (.string s)∧Since w w':=by
 by_cases h0:0<s.size
 ·go_enter Tryz.func72,Tryz.ntmps72
  go_wp2_with fail
  refine(pQ s _ hs h0).mono ?_;rintro e w' ⟨rfl,hS⟩;go_wp2_with fail
  go_ret;exact⟨rfl,hS⟩
 have he:s=⟨#[]⟩:=by
  cases s with
  | mk d=>congr 1;exact Array.eq_empty_of_size_eq_zero (by have hsz:d.size=(ByteArray.mk d).size:=rfl;omega)
 subst he;go_enter Tryz.func72,Tryz.ntmps72
 go_wp2_with fail
 refine(pR _).mono ?_;rintro e w' ⟨rfl,rfl⟩;go_wp2_with fail
 go_ret;exact⟨rfl,Since.refl _⟩
end Go.Proofs.YtmhcfaaggkidjaaGreatDoor
