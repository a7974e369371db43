import Derived.Test.YtmhcfaaggkidjaaGreatDoorJ13
import Derived.Test.YtmhcfaaggkidjaaGreatDoorJ26
set_option linter.unusedSimpArgs false
set_option linter.unusedVariables false
section
namespace Go.Proofs.YtmhcfaaggkidjaaGreatDoor
set_option maxRecDepth 100000
namespace Sm
open Go.RowKit
attribute [local go_sem] jr fO jw jy pK jA jB jC fP fQ dU fo bI fe dE
end Sm
end Go.Proofs.YtmhcfaaggkidjaaGreatDoor
end
section
namespace Go.Proofs.YtmhcfaaggkidjaaGreatDoor
set_option maxRecDepth 100000
namespace Sm
open Go.RowKit
attribute [local go_sem ↓] NL
def acc (kd:UInt8) (ps:Nat→ByteArray) (n:Nat):ByteArray:=⟨(bP kd ps n).toArray⟩
end Sm
end Go.Proofs.YtmhcfaaggkidjaaGreatDoor
end
section
namespace Go.Proofs.YtmhcfaaggkidjaaGreatDoor
set_option maxRecDepth 100000
namespace Mt
open Go.RowKit Sm
def two (a b:ByteArray):Nat→ByteArray:=fun j=>if j=0 then a else b
def keyOf (secret word:ByteArray):ByteArray:=strOfNums (gZ (cB ⟨(bP 107 (two secret word) 2).toArray⟩)).bytes
theorem oo (s:ByteArray):(cB s).size=16:=by
 unfold cB;have h:(strOfNums (gZ s).bytes).size=32:=by rw[strOfNums_size];rfl
 simp[ByteArray.size_extract,h]
theorem tq (w:World) (a b:ByteArray) (t:TypeId) (j:Nat) (hj:j<2):(w.alloc (.cells #[.string a,.string b] t)).cell? ⟨w.heap.size,0+j,none⟩=some (.string (two a b j)):=by
 rw[Nat.zero_add,World.cell?_alloc_new]
 match j,hj with
 | 0,_=>rfl
 | 1,_=>rfl
theorem wN (a b:ByteArray) (ha:a.size≤900) (hb:b.size≤900) (j:Nat):(two a b j).size≤900:=by
 unfold two;split<;>assumption
theorem Li (u:Int) (h1:u≠98) (h2:u≠116):Instr.findNow (.int .u8) (.int .u8 u) uses.toList 0=some none:=by
 have q1:(u==98)=false:=by simpa using h1
 have q2:(u==116)=false:=by simpa using h2
 simp only[uses,Instr.findNow,Instr.sameNow,if_true,q1,q2]
set_option maxHeartbeats 1000000 in
theorem ZN (s:ByteArray) (u:Int) (w:World) (h:s.size=16) (h1:u≠98) (h2:u≠116) :
  Calls Tryz.prog 167 #[.string s,.int .u8 u] w fun e w'=>e=.returned (.tuple #[.string ⟨#[]⟩,.iface 32 (.int .i64 8)])∧Since w w':=by
 have e1:(s.size:Int)=16:=by omega
 go_enter Tryz.func167,Tryz.ntmps167
 go_wp2_with fail
 refine(qN _).mono ?_;rintro e w1 ⟨rfl,hw1⟩;have hS1:Since w w1:=by rw[hw1];exact(Since.refl w).alloc _
 have hl:=Jh w1 uses 2 w.heap.size u none (by rw[hw1];show (w.heap.push _)[w.heap.size]?=_;simp) (Li u h1 h2);simp only at hl;clear hw1;go_wp2_with fail
 go_ret2;refine⟨rfl,?_⟩;first | exact hS1.alloc _ | exact(hS1.alloc _).setCell hS1.size _
set_option maxHeartbeats 2000000 in
theorem JI (s:ByteArray) (u:Int) (word:ByteArray) (w:World) (h:s.size=16) (hu:u=98∧word=lD∨u=116∧word=nW) (hT:jW w) :
  Calls Tryz.prog 167 #[.string s,.int .u8 u] w fun e w'=>e=.returned (.tuple #[.string (keyOf s word),.nilIface])∧Since w w':=by
 have e1:(s.size:Int)=16:=by omega
 have hws:word.size≤900:=by rcases hu with⟨_,rfl⟩ | ⟨_,rfl⟩<;>decide
 have hfn:∃i,Instr.findNow (.int .u8) (.int .u8 u) uses.toList 0=some (some (i,.agg #[.string word])):=by
  rcases hu with⟨rfl,rfl⟩ | ⟨rfl,rfl⟩
  ·exact⟨0,rfl⟩
  exact⟨1,rfl⟩
 obtain⟨i0,hfn⟩:=hfn;clear hu;go_enter Tryz.func167,Tryz.ntmps167
 go_wp2_with fail
 refine(qN _).mono ?_;rintro e w1 ⟨rfl,hw1⟩;have hS1:Since w w1:=by rw[hw1];exact(Since.refl w).alloc _
 have hl:=Jh w1 uses 2 w.heap.size u (some (i0,.agg #[.string word])) (by rw[hw1];show (w.heap.push _)[w.heap.size]?=_;simp) hfn;simp only at hl;clear hw1 hfn;go_wp2_with fail
 have hm:=kS 107 (w1.heap.size+1) 0 2 2 (two s word) ((w1.alloc (.cells #[.string word] 251)).alloc (.cells #[.string s,.string word] 9)) (by omega) (fun j _=>wN s word (by omega) hws j) (hT.since ((hS1.alloc _).alloc _))
  (fun j hj=>by have h:=tq (w1.alloc (.cells #[.string word] 251)) s word 9 j hj;rw[World.size_alloc] at h;exact h)
 rw[show ((107:UInt8).toNat:Int)=107 from rfl] at hm;refine hm.mono ?_;rintro e w2 ⟨rfl,h2⟩;have hS2:Since w w2:=((hS1.alloc _).alloc _).trans h2;clear hm h2 hl;have hms:(cB ⟨(bP 107 (two s word) 2).toArray⟩).size≤100000:=by rw[oo];omega
 generalize hmk:cB ⟨(bP 107 (two s word) 2).toArray⟩=mk at *;have Su:Hid (cB ⟨(bP 107 (two s word) 2).toArray⟩=mk):=hmk;clear hmk;go_wp2_with fail
 refine(oh mk _ hms (hT.since hS2)).mono ?_;rintro e w3 ⟨rfl,h3⟩;generalize ZO:strOfNums (gZ mk).bytes=q;have HS:Hid (strOfNums (gZ mk).bytes=q):=ZO;clear ZO;go_wp2_with fail
 go_ret2;exact⟨by unfold keyOf;rw[Su.out,HS.out];rfl,hS2.trans h3⟩
end Mt
end Go.Proofs.YtmhcfaaggkidjaaGreatDoor
end
