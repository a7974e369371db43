import Derived.BigQuiet
import Derived.Deep.RegionHeld3
import Derived.Deep.DeepCutAuto
import Derived.Test.YtmhcfaaggkidjaaGreatDoorJ03
import Derived.Test.YtmhcfaaggkidjaaGreatDoorJ30
set_option linter.unusedSimpArgs false
set_option linter.unusedVariables false
section
namespace Go.Proofs.YtmhcfaaggkidjaaGreatDoor
set_option maxRecDepth 100000
namespace En
open Go.RowKit
def Ints (w:World) (v:Value) (cs:List Int):Prop:=∃a c,v=.slice a cs.length c∧cs.length≤c∧(0<cs.length→∃k o,a=some ⟨k,o,none⟩∧k<w.heap.size∧∀j x,cs[j]?=some x→w.cell? ⟨k,o+j,none⟩=some (.int .i64 x))
theorem Ints.since {w w':World} {v:Value} {cs:List Int} (h:Ints w v cs) (hs:Since w w'):Ints w' v cs:=by
 obtain⟨a,c,hv,hc,h⟩:=h;refine⟨a,c,hv,hc,fun hn=>?_⟩;obtain⟨k,o,ha,hk,hc⟩:=h hn;exact⟨k,o,ha,Nat.lt_of_lt_of_le hk hs.size,fun j x hj=>(hs.cell (p:=⟨k,o+j,none⟩) hk).trans (hc j x hj)⟩
def fZ (f:Fi) (cv:Value):Value:=.agg #[.string f.nm,.int .i64 f.sz,cv]
def iX (w:World) (v:Value) (l:List Fi):Prop:=∃a c,v=.slice a l.length c∧l.length≤c∧(0<l.length→∃k o,a=some ⟨k,o,none⟩∧k<w.heap.size∧∀j f,l[j]?=some f→∃cv,Ints w cv f.cs∧w.cell? ⟨k,o+j*3,none⟩=some (.string f.nm)∧w.cell? ⟨k,o+j*3+1,none⟩=some (.int .i64 f.sz)∧w.cell? ⟨k,o+j*3+2,none⟩=some cv)
theorem iX.since {w w':World} {v:Value} {l:List Fi} (h:iX w v l) (hs:Since w w'):iX w' v l:=by
 obtain⟨a,c,hv,hc,h⟩:=h;refine⟨a,c,hv,hc,fun hn=>?_⟩;obtain⟨k,o,ha,hk,hc⟩:=h hn;refine⟨k,o,ha,Nat.lt_of_lt_of_le hk hs.size,fun j f hj=>?_⟩;obtain⟨cv,h1,h2,h3,h4⟩:=hc j f hj;exact⟨cv,h1.since hs,(hs.cell (p:=⟨k,o+j*3,none⟩) hk).trans h2,(hs.cell (p:=⟨k,o+j*3+1,none⟩) hk).trans h3,(hs.cell (p:=⟨k,o+j*3+2,none⟩) hk).trans h4⟩
theorem xG (b:UInt8) (w:World):Calls Tryz.prog 30 #[.int .u8 (b.toNat:Int)] w fun e w'=>e=.returned (.bool (isLet b))∧w'=w:=by
 unfold isLet;by_cases h:97≤b.toNat
 ·go_enter Tryz.func30,Tryz.ntmps30
  go_wp2_with fail
  go_ret;exact⟨by simp[h];omega,rfl⟩
 go_enter Tryz.func30,Tryz.ntmps30
 go_wp2_with fail
 go_ret;exact⟨by simp[h],rfl⟩
theorem LA (b:UInt8) (w:World):Calls Tryz.prog 31 #[.int .u8 (b.toNat:Int)] w fun e w'=>e=.returned (.bool (ig b))∧w'=w:=by
 unfold ig;by_cases h:48≤b.toNat
 ·go_enter Tryz.func31,Tryz.ntmps31
  go_wp2_with fail
  go_ret;exact⟨by simp[h];omega,rfl⟩
 go_enter Tryz.func31,Tryz.ntmps31
 go_wp2_with fail
 go_ret;exact⟨by simp[h],rfl⟩
theorem rR (k:Int) (w:World):Calls Tryz.prog 122 #[.int .i64 k] w fun e w'=>e=.returned (.bool (mV k))∧w'=w:=by
 unfold mV;by_cases h:3≤k
 ·go_enter Tryz.func122,Tryz.ntmps122
  go_wp2_with fail
  go_ret;exact⟨by simp[h],rfl⟩
 go_enter Tryz.func122,Tryz.ntmps122
 go_wp2_with fail
 go_ret;exact⟨by simp[h];omega,rfl⟩
theorem Ee (n:Int) (h:-9223372036854775808≤n∧n≤9223372036854775807) (w:World):Calls Tryz.prog 69 #[.int .i64 n] w fun e w'=>e=.returned (.int .i64 (need n))∧w'=w:=by
 unfold need;by_cases h0:n≤0
 ·rw[if_pos h0];go_enter Tryz.func69,Tryz.ntmps69
  go_wp2_with fail
  go_ret;exact⟨rfl,rfl⟩
 rw[if_neg h0];go_enter Tryz.func69,Tryz.ntmps69
 go_wp2_with fail
 go_ret;exact⟨rfl,rfl⟩
theorem LC (s:ByteArray):aP s.data.toList=true↔∃(h0:0<s.size),s.size≤10∧isLet s[0]=true∧∀(i:Nat) (hi:i<s.size),(isLet s[i]||ig s[i])=true:=by
 have key:∀l:List UInt8,aP l=true↔∃(h0:0<l.length),l.length≤10∧isLet l[0]=true∧∀(i:Nat) (hi:i<l.length),(isLet l[i]||ig l[i])=true:=by
  intro l;cases l with
  | nil=>simp[aP]
  | cons c r=>
   simp only[aP,Bool.and_eq_true,decide_eq_true_eq,List.all_eq_true];constructor
   ·rintro ⟨⟨h1,h2⟩,h3⟩;refine⟨by simp,by simp;omega,h2,fun i hi=>?_⟩;cases i with
    | zero=>simp[h2]
    | succ i=>exact h3 _ (List.getElem_mem (l:=r) (by simpa using hi))
   rintro ⟨h0,h1,h2,h3⟩;refine⟨⟨by simp at h1;omega,h2⟩,fun b hb=>?_⟩;obtain⟨i,hi,rfl⟩:=List.getElem_of_mem hb;exact h3 (i+1) (by simp;omega)
 have e:=key s.data.toList;have e0:s.data.toList.length=s.size:=by rw[Array.length_toList];rfl
 have g:∀(i:Nat) (h:i<s.size),s.data.toList[i]'(by omega)=s[i]:=fun i h=>by rw[Array.getElem_toList];rfl
 rw[e];constructor
 ·rintro ⟨h0,h1,h2,h3⟩;exact⟨by omega,by omega,by rw[←g 0 (by omega)];exact h2,fun i hi=>by rw[←g i hi];exact h3 i (by omega)⟩
 rintro ⟨h0,h1,h2,h3⟩;exact⟨by omega,by omega,by rw[g 0 h0];exact h2,fun i hi=>by rw[g i (by omega)];exact h3 i (by omega)⟩
set_option maxHeartbeats 1000000 in
theorem xH (s:ByteArray) (w:World):Calls Tryz.prog 7 #[.string s] w fun e w'=>e=.returned (.bool (aP s.data.toList))∧w'=w:=by
 have HN:Hid (aP s.data.toList=true↔∃(h0:0<s.size),s.size≤10∧isLet s[0]=true∧∀(i:Nat) (hi:i<s.size),(isLet s[i]||ig s[i])=true):=LC s;have HF:∀{p:Prop},¬p→(aP s.data.toList=true→p)→aP s.data.toList=false:=fun h1 h2=>by
  cases h:aP s.data.toList with
  | true=>exact absurd (h2 h) h1
  | false=>rfl
 by_cases h0:s.size=0
 ·have hb:aP s.data.toList=false:=HF (p:=0<s.size) (by omega) (fun h=>by obtain⟨a,_⟩:=HN.out.1 h;exact a);rw[hb];have hd:(((s.size:Nat):Int)==0)=true:=by rw[h0];rfl
  clear h0 hb HF;go_enter Tryz.func7,Tryz.ntmps7
  go_wp2_with fail
  go_ret;exact⟨rfl,rfl⟩
 have hd0:(((s.size:Nat):Int)==0)=false:=beq_false_of_ne (by omega);by_cases h1:10<s.size
 ·have hb:aP s.data.toList=false:=HF (p:=s.size≤10) (by omega) (fun h=>by obtain⟨_,a,_⟩:=HN.out.1 h;exact a);rw[hb];have hd:decide ((10:Int)<(s.size:Nat))=true:=decide_eq_true (by omega);clear hb HF;go_enter Tryz.func7,Tryz.ntmps7
  go_wp2_with fail
  go_ret;exact⟨rfl,rfl⟩
 have hd1:decide ((10:Int)<(s.size:Nat))=false:=decide_eq_false (by omega);have hlt:0<s.size:=by omega
 have hl0:=xG s[0];by_cases hL:isLet s[0]=true
 ·rw[hL] at hl0;go_enter Tryz.func7,Tryz.ntmps7
  go_wp2_with fail
  refine(hl0 _).mono ?_;rintro e w1 ⟨rfl,hw⟩;rw[hw];clear hl0 hw w1;go_wp2_with fail
  go_loopw [20,3] (fun i _ wr=>∃k:Nat,k≤s.size∧i=.int .i64 k∧(∀(j:Nat) (hj:j<s.size),j<k→(isLet s[j]||ig s[j])=true)∧wr=w) (fun i _ _=>s.size-(intOf i).toNat)
  case atStart=>exact⟨0,by omega,rfl,fun j _ hj=>by omega,rfl⟩
  obtain⟨k,hk,rfl,ha,rfl⟩:=hrel;have HA:Hid (∀(j:Nat) (hj:j<s.size),j<k→(isLet s[j]||ig s[j])=true):=ha;clear ha;by_cases hlt:k<s.size
  ·have hlt2:(k:Int)<(s.size:Nat):=by omega
   have hlk:=xG s[k];have hdk:=LA s[k];by_cases h1:isLet s[k]=true
   ·have HA2:Hid (∀(j:Nat) (hj:j<s.size),j<k+1→(isLet s[j]||ig s[j])=true):=fun j hj hjk=>by
     by_cases e:j=k
     ·subst e;rw[h1];rfl
     exact HA.out j hj (by omega)
    rw[h1] at hlk;clear hdk;go_wp2_with (go_at_call 30;refine(hlk _).mono ?_;rintro e w' ⟨rfl,rfl⟩)
    go_roundw
    case rel=>exact⟨k+1,by omega,by go_num,HA2.out,trivial⟩
    case measure=>simp[intOf];omega
   have h1':isLet s[k]=false:=by cases h:isLet s[k]<;>simp_all
   rw[h1'] at hlk;by_cases h2:ig s[k]=true
   ·have HA2:Hid (∀(j:Nat) (hj:j<s.size),j<k+1→(isLet s[j]||ig s[j])=true):=fun j hj hjk=>by
     by_cases e:j=k
     ·subst e;rw[h2,Bool.or_true]
     exact HA.out j hj (by omega)
    rw[h2] at hdk;clear h1 h1' h2;go_wp2_with (first | (go_at_call 30;refine(hlk _).mono ?_;rintro e w' ⟨rfl,rfl⟩) | (go_at_call 31;refine(hdk _).mono ?_;rintro e w' ⟨rfl,rfl⟩))
    go_roundw
    case rel=>exact⟨k+1,by omega,by go_num,HA2.out,trivial⟩
    case measure=>simp[intOf];omega
   have h2':ig s[k]=false:=by cases h:ig s[k]<;>simp_all
   have HB:Hid (aP s.data.toList=false):=HF (p:=(isLet s[k]||ig s[k])=true) (by rw[h1',h2'];decide) (fun h=>by obtain⟨_,_,_,a⟩:=HN.out.1 h;exact a k hlt);rw[h2'] at hdk;clear h1 h1' h2 h2';go_wp2_with (first | (go_at_call 30;refine(hlk _).mono ?_;rintro e w' ⟨rfl,rfl⟩) | (go_at_call 31;refine(hdk _).mono ?_;rintro e w' ⟨rfl,rfl⟩))
   go_ret;exact⟨by rw[HB.out];rfl,rfl⟩
  have hke:k=s.size:=by omega
  have HB:Hid (aP s.data.toList=true):=HN.out.2 ⟨by omega,by omega,hL,fun i hi=>HA.out i hi (by omega)⟩;subst hke;go_wp2_with fail
  go_ret;exact⟨by rw[HB.out];rfl,rfl⟩
 have hL':isLet s[0]=false:=by cases h:isLet s[0]<;>simp_all
 have hb:aP s.data.toList=false:=HF (p:=isLet s[0]=true) hL (fun h=>by obtain⟨_,_,a,_⟩:=HN.out.1 h;exact a);rw[hb];rw[hL'] at hl0;clear hb HF hL hL';go_enter Tryz.func7,Tryz.ntmps7
 go_wp2_with (go_at_call 30;refine(hl0 _).mono ?_;rintro e w' ⟨rfl,rfl⟩)
 go_ret;exact⟨rfl,rfl⟩
theorem qa (f:Fi) (cv:Value) (h1:-9223372036854775808≤f.sz∧f.sz≤9223372036854775807) (w:World) (hc:∃a c,cv=.slice a f.cs.length c):Calls Tryz.prog 226 #[fZ f cv] w fun e w'=>e=.returned (.bool (filled f))∧Since w w':=by
 obtain⟨a,c,rfl⟩:=hc;have hn:=Ee f.sz h1;unfold fZ filled;by_cases h0:0≤f.sz
 ·have hd0:decide (0≤f.sz)=true:=decide_eq_true h0;by_cases h2:f.sz≤1920
  ·have hd2:decide (f.sz≤1920)=true:=decide_eq_true h2;go_enter Tryz.func226,Tryz.ntmps226
   go_upto_region 1 with fail
   go_quiet ((go_at_call 69;exact Calls.quiet_of_same (hn _)))
   go_wp2_with fail
   go_ret;refine⟨?_,((Since.refl w).alloc _).drewN _⟩;rw[hd0,hd2];show Ending.returned (.bool (((f.cs.length:Nat):Int)==need f.sz))=_
   by_cases he:(f.cs.length:Int)=need f.sz
   ·rw[decide_eq_true he,beq_iff_eq.2 he];rfl
   rw[decide_eq_false he,beq_false_of_ne he];rfl
  have hd2:decide (f.sz≤1920)=false:=decide_eq_false h2;go_enter Tryz.func226,Tryz.ntmps226
  go_upto_region 1 with fail
  go_quiet (fail)
  go_wp2_with fail
  go_ret;refine⟨?_,((Since.refl w).alloc _).drewN _⟩
  rfl
 have hd0:decide (0≤f.sz)=false:=decide_eq_false h0;go_enter Tryz.func226,Tryz.ntmps226
 go_upto_region 1 with fail
 go_quiet (fail)
 go_wp2_with fail
 go_ret;refine⟨?_,((Since.refl w).alloc _).drewN _⟩
 rfl
end En
end Go.Proofs.YtmhcfaaggkidjaaGreatDoor
end
section
namespace Go.Proofs.YtmhcfaaggkidjaaGreatDoor
set_option maxRecDepth 100000
namespace En
open Go.RowKit
def PG (v:Value):List Int→Nat→List MapEntry
 | [],_=>[]
 | p::r,i=>{ key:=.int .i64 p,val:=v,born:=i }::PG v r (i+1)
theorem Hf (v:Value) (L:List Int) (p:Int) (i:Nat):PG v (L++[p]) i=PG v L i++[{ key:=.int .i64 p,val:=v,born:=i+L.length }]:=by
 induction L generalizing i with
 | nil=>simp[PG]
 | cons q r ih=>simp[PG,ih];omega
theorem xI (v:Value) (p:Int):∀(L:List Int) (i j:Nat),∃a,Instr.findNow (.int .i64) (.int .i64 p) (PG v L i) j=some a∧(p ∈ L→∃n,a=some (j+n,v)∧L[n]?=some p)∧(p ∉ L→a=none)
 | [],i,j=>⟨none,by simp[PG,Instr.findNow],by simp,by simp⟩
 | q::r,i,j=>by
  by_cases h:p=q
  ·subst h;exact⟨some (j,v),by simp[PG,Instr.findNow,Instr.sameNow],fun _=>⟨0,rfl,rfl⟩,by simp⟩
  obtain⟨a,h1,h2,h4⟩:=xI v p r (i+1) (j+1);have hb:(q==p)=false:=by simp;exact fun e=>h e.symm
  have hb2:(p==q)=false:=by simp;exact h
  exact⟨a,by simp[PG,Instr.findNow,Instr.sameNow,hb,hb2,h1,h],fun hm=>by
   obtain⟨n,e1,e2⟩:=h2 (by simpa [h] using hm);exact⟨n+1,by rw[e1];congr 2;omega,by simpa using e2⟩,by simpa [h] using h4⟩
def aN (w:World) (r:Nat) (v:Value) (L:List Int):Prop:=w.heap[r]?=some (.map (PG v L 0).toArray L.length)
theorem xJ (w:World) (r:Nat) (L:List Int) (p:Int) (hb:aN w r (.agg #[]) L) :
  (Instr.lookup 174 (.map (some r)) (.int .i64 p) true).run Tryz.prog w=.ok (.tuple #[.agg #[],.bool (decide (p ∈ L))]) w:=by
 unfold aN at hb;obtain⟨a,h1,h2,h4⟩:=xI (.agg #[]) p L 0 0;have hc:∀em,(Instr.checkKey em 10000 3 (.int .i64 p)).run Tryz.prog w=.ok () w:=fun em=>MapKept.run_checkKey Tryz.underlying3 (by simp[MapKept.IsKey]) em 9999
 have hz:(zeroValue 175).run Tryz.prog w=.ok (.agg #[]) w:=by kernel_rfl
 by_cases h:p ∈ L
 ·obtain⟨n,rfl,_⟩:=h2 h;simp[Instr.lookup,run_underlying Tryz.underlying174,MapKept.run_getObj_map hb,hc,MapKept.run_findKey Tryz.underlying3 h1,h,hz,Result.andThen]
 obtain rfl:=h4 h;simp[Instr.lookup,run_underlying Tryz.underlying174,MapKept.run_getObj_map hb,hc,MapKept.run_findKey Tryz.underlying3 h1,h,hz,Result.andThen]
def Ef (w:World) (r:Nat) (v:Value) (L:List Int):World:={ w with heap:=w.heap.setIfInBounds r (.map (PG v L 0).toArray L.length) }
theorem xK (w:World) (r:Nat) (L:List Int) (p:Int) (hb:aN w r (.agg #[]) L) (h:p ∉ L) :
  (Instr.mapUpdate 174 (.map (some r)) (.int .i64 p) (.agg #[])).run Tryz.prog w=.ok () (Ef w r (.agg #[]) (L++[p])):=by
 unfold aN at hb;obtain⟨a,h1,h2,h4⟩:=xI (.agg #[]) p L 0 0;obtain rfl:=h4 h;have hc:∀em,(Instr.checkKey em 10000 3 (.int .i64 p)).run Tryz.prog w=.ok () w:=fun em=>MapKept.run_checkKey Tryz.underlying3 (by simp[MapKept.IsKey]) em 9999
 simp[Instr.mapUpdate,run_underlying Tryz.underlying174,MapKept.run_getObj_map hb,hc,MapKept.run_findKey Tryz.underlying3 h1,MapKept.run_setObj_map _ hb,Result.andThen,Hf,Ef]
theorem Eg {w:World} {r:Nat} {v v':Value} {L L':List Int} (h:aN w r v L):aN (Ef w r v' L') r v' L':=by
 show (w.heap.setIfInBounds r _)[r]?=_
 have:=(Array.getElem?_eq_some_iff.1 h).1;simp[this]
theorem rT (w:World) (r:Nat) (v:Value) (L:List Int):Fr r none w (Ef w r v L):=
 ⟨rfl,rfl,rfl,by simp[Ef],fun k _ hb _=>by
  show (w.heap.setIfInBounds r _)[k]?=_
  rw[Array.getElem?_setIfInBounds_ne (fun h=>hb h.symm)]⟩
theorem aN.since {w w':World} {r:Nat} {v:Value} {L:List Int} (h:aN w r v L) (hs:Since w w'):aN w' r v L:=by
 unfold aN at *;rw[hs.block r (Array.getElem?_eq_some_iff.1 h).1];exact h
theorem aN.lt {w:World} {r:Nat} {v:Value} {L:List Int} (h:aN w r v L):r<w.heap.size:=(Array.getElem?_eq_some_iff.1 h).1
theorem aN.not {w:World} {r:Nat} {v:Value} {L:List Int} (h:aN w r v L) {a:Addr} {x:Value} (hc:w.cell? a=some x):a.block≠r:=by
 intro e;unfold aN at h;rw[←e] at h;simp[World.cell?,h] at hc
theorem Ints.fr {w w':World} {v x:Value} {cs L:List Int} {r:Nat} (h:Ints w v cs) (hr:aN w r x L) (hs:Fr r none w w'):Ints w' v cs:=by
 obtain⟨a,c,hv,hc,h⟩:=h;refine⟨a,c,hv,hc,fun hn=>?_⟩;obtain⟨k,o,ha,hk,hc⟩:=h hn;have hne:k≠r:=by
  cases cs with
  | nil=>simp at hn
  | cons y t=>exact hr.not (hc 0 y rfl)
 exact⟨k,o,ha,Nat.lt_of_lt_of_le hk hs.size,fun j x hj=>(hs.cell (p:=⟨k,o+j,none⟩) hk hne (by simp)).trans (hc j x hj)⟩
theorem xL:∀(cs L:List Int) (k:Nat) (c:Int),cs[k]?=some c→takeB L (cs.take k)=true→takeB L (cs.take (k+1))=(!(decide (c ∈ L++cs.take k))&&mV c)
 | [],_,_,_,h,_=>by simp at h
 | x::r,L,0,c,h,_=>by
  simp at h;subst h;simp[takeB]
 | x::r,L,k+1,c,h,ht=>by
  simp only[List.take_succ_cons,takeB,Bool.and_eq_true] at ht ⊢;rw[xL r (L++[x]) k c (by simpa using h) ht.2,ht.1.1,ht.1.2];simp
theorem ug:∀(cs L:List Int) (k:Nat),takeB L (cs.take k)=false→takeB L cs=false
 | [],L,k,h=>by simpa using h
 | x::r,L,0,h=>by simp[takeB] at h
 | x::r,L,k+1,h=>by
  simp only[List.take_succ_cons,takeB] at h ⊢;by_cases h1:(!(decide (x ∈ L))&&mV x)=true
  ·rw[h1,Bool.true_and] at h ⊢;exact ug r _ k h
  rw[Bool.not_eq_true] at h1;rw[h1];rfl
set_option maxHeartbeats 2000000 in
theorem rM (r:Nat) (L cs:List Int) (cv:Value) (w:World) (hm:aN w r (.agg #[]) L) (hc:Ints w cv cs) (h64:cs.length≤1000) :
  Calls Tryz.prog 227 #[.map (some r),cv] w fun e w'=>e=.returned (.bool (takeB L cs))∧(takeB L cs=true→aN w' r (.agg #[]) (L++cs))∧Fr r none w w':=by
 obtain⟨a,cp,rfl,hcp,hh⟩:=hc;have HH:Hid (Ints w (.slice a cs.length cp) cs):=⟨a,cp,rfl,hcp,hh⟩
 have HM:Hid (aN w r (.agg #[]) L):=hm;clear hh hm;go_enter Tryz.func227,Tryz.ntmps227
 go_wp2_with fail
 go_loopw [11,6,7,8] (fun i _ _ _ wr=>∃k:Nat,k≤cs.length∧i=.int .i64 k∧takeB L (cs.take k)=true∧aN wr r (.agg #[]) (L++cs.take k)∧Ints wr (.slice a cs.length cp) cs∧Fr r none w wr) (fun i _ _ _ _=>cs.length-(intOf i).toNat)
 case atStart=>exact⟨0,by omega,rfl,by simp[takeB],by simpa using HM.out,HH.out,Fr.refl _ _ _⟩
 obtain⟨k,hk,rfl,ht,hm,hi,hf⟩:=hrel;have HT:Hid (takeB L (cs.take k)=true):=ht;have Su:Hid (aN wr r (.agg #[]) (L++cs.take k)):=hm;have HI:Hid (Ints wr (.slice a cs.length cp) cs):=hi;have HF:Hid (Fr r none w wr):=hf;clear ht hm hi hf;by_cases hlt:k<cs.length
 ·have hlt2:(k:Int)<cs.length:=by omega
  obtain⟨a',c',hv,_,h2⟩:=HI.out;obtain⟨kb,ko,ha,_,hcell⟩:=h2 (by omega);injection hv with e1 e2 e3
  subst e1;subst ha;have q:=hcell k cs[k] (List.getElem?_eq_getElem hlt);have hE:Hid (cs[k]?=some cs[k]):=List.getElem?_eq_getElem hlt;clear hcell h2 e2 e3;generalize cs[k]=c at *;have YZ:=xJ wr r (L++cs.take k) c Su.out;have HS:Hid (takeB L (cs.take (k+1))=(!(decide (c ∈ L++cs.take k))&&mV c)):=xL cs L k c hE.out HT.out;by_cases hin:c ∈ L++cs.take k
  ·rw[decide_eq_true hin] at YZ;have HB:Hid (takeB L cs=false):=ug cs L (k+1) (by rw[HS.out,decide_eq_true hin];rfl);clear hin;go_wp2_with fail
   go_ret;exact⟨by rw[HB.out];rfl,(fun h=>absurd (HB.out.symm.trans h) (by decide)),HF.out.trans' (Fr.ah ((Since.refl _).alloc _))⟩
  rw[decide_eq_false hin] at YZ;have hfc:=rR c;by_cases hcb:mV c=true
  ·rw[hcb] at hfc;have HB:Hid (takeB L (cs.take (k+1))=true):=by
    show takeB L (cs.take (k+1))=true
    rw[HS.out,decide_eq_false hin,hcb];rfl
   have HMA:Hid (aN (wr.alloc (.cells #[] 175)) r (.agg #[]) (L++cs.take k)):=Su.out.since ((Since.refl _).alloc _);have hup:=xK _ r _ c HMA.out hin;have HE2:Hid (L++cs.take (k+1)=L++cs.take k++[c]):=by
    show L++cs.take (k+1)=_
    rw[List.take_add_one,hE.out];simp
   have HI2:Hid (Ints (wr.alloc (.cells #[] 175)) (.slice (some ⟨kb,ko,none⟩) cs.length cp) cs):=HI.out.since ((Since.refl _).alloc _);have oN:Hid (Fr r none w (wr.alloc (.cells #[] 175))):=HF.out.trans' (Fr.ah ((Since.refl _).alloc _));clear hin;go_wp2_with (go_at_call 122;refine(hfc _).mono ?_;rintro e w' ⟨rfl,rfl⟩)
   go_roundw
   case rel=>exact⟨k+1,by omega,by go_num,HB.out,by rw[HE2.out];simp only[List.append_assoc];exact Eg HMA.out,HI2.out.fr HMA.out (rT _ _ _ _),oN.out.trans' (rT _ _ _ _)⟩
   case measure=>simp[intOf];omega
  rw[Bool.not_eq_true] at hcb;rw[hcb] at hfc;have HB:Hid (takeB L cs=false):=ug cs L (k+1) (by rw[HS.out,hcb,Bool.and_false]);clear hin;go_wp2_with (go_at_call 122;refine(hfc _).mono ?_;rintro e w' ⟨rfl,rfl⟩)
  go_ret;exact⟨by rw[HB.out];rfl,(fun h=>absurd (HB.out.symm.trans h) (by decide)),HF.out.trans' (Fr.ah ((Since.refl _).alloc _))⟩
 have hke:k=cs.length:=by omega
 subst hke;rw[List.take_length] at HT Su;go_wp2_with fail
 go_ret;exact⟨by rw[HT.out];rfl,fun _=>Su.out,HF.out⟩
structure F2 (a b:Nat) (w w':World):Prop where
 os:w'.os=w.os
 tape:w'.tape=w.tape
 output:w'.output=w.output
 size:w.heap.size≤w'.heap.size
 block:∀k,k<w.heap.size→k≠a→k≠b→w'.heap[k]?=w.heap[k]?
theorem F2.trans {a b:Nat} {w w1 w2:World} (h:F2 a b w w1) (k:F2 a b w1 w2):F2 a b w w2:=
 ⟨k.os.trans h.os,k.tape.trans h.tape,k.output.trans h.output,Nat.le_trans h.size k.size,fun j hj ha hb=>(k.block j (Nat.lt_of_lt_of_le hj h.size) ha hb).trans (h.block j hj ha hb)⟩
theorem F2.ah {a b:Nat} {w w':World} (h:Since w w'):F2 a b w w':=⟨h.os,h.tape,h.output,h.size,fun k hk _ _=>h.block k hk⟩
theorem F2.xM {a b:Nat} {w w':World} (h:Fr a none w w'):F2 a b w w':=⟨h.os,h.tape,h.output,h.size,fun k hk ha _=>h.block k hk ha (by simp)⟩
theorem F2.XL {a b:Nat} {w w':World} (h:Fr b none w w'):F2 a b w w':=⟨h.os,h.tape,h.output,h.size,fun k hk _ hb=>h.block k hk hb (by simp)⟩
theorem F2.cell {a b:Nat} {w w':World} (h:F2 a b w w') {p:Addr} (hp:p.block<w.heap.size) (ha:p.block≠a) (hb:p.block≠b):w'.cell? p=w.cell? p:=World.cell?_of_block (w:=w) (h.block p.block hp ha hb)
theorem F2.since {a b:Nat} {w0 w w':World} (h:F2 a b w w') (hs:Since w0 w) (ha:w0.heap.size≤a) (hb:w0.heap.size≤b):Since w0 w':=
 Below.trans (show Below w0.heap.size w0 w from hs) ⟨h.os,h.tape,h.output,h.size,fun k hk=>h.block k (Nat.lt_of_lt_of_le hk hs.size) (by omega) (by omega)⟩
set_option maxHeartbeats 4000000 in
theorem vN (f:Fi) (cv:Value) (bn sb r:Nat) (b:ByteArray) (L:List Int) (w:World) (hsz:-9223372036854775808≤f.sz∧f.sz≤9223372036854775807) (hc:Ints w cv f.cs)
  (hb:ak w bn 1 (fun _=>.string b)) (hsb:w.cell? ⟨sb,0,none⟩=some (.map (some r))) (hm:aN w r (.agg #[]) L) (hne:bn≠sb) (hcb:0<f.cs.length→∀k o n c,cv=.slice (some ⟨k,o,none⟩) n c→k≠bn) :
  Calls Tryz.prog 225 #[fZ f cv,.pointer (some ⟨bn,0,none⟩),.pointer (some ⟨sb,0,none⟩)] w fun e w'=>e=.returned (.bool (qm f.nm b&&aP f.nm.data.toList&&filled f&&takeB L f.cs))∧
   ((qm f.nm b&&aP f.nm.data.toList&&filled f&&takeB L f.cs)=true→ak w' bn 1 (fun _=>.string f.nm)∧aN w' r (.agg #[]) (L++f.cs))∧F2 bn r w w':=by
 have hlb:=hb.lt (by omega);have hs1:Since w (w.alloc (.cells #[.string f.nm,.int .i64 f.sz,cv] 122)):=(Since.refl w).alloc _;have hx1:ak (w.alloc (.cells #[.string f.nm,.int .i64 f.sz,cv] 122)) w.heap.size 3 (fun j=>(#[.string f.nm,.int .i64 f.sz,cv]:Array Value).getD j undef):=ak.new w 3 _ _ _ (fun j hj=>by
  obtain rfl | rfl | rfl:j=0∨j=1∨j=2:=by omega
  all_goals rfl) _ rfl
 have hb1:=hb.since hs1;have hc0:=hb1.cell 0 (by omega);have hf0:=hb1.frozen 0 (by omega);have x0:=hx1.cell 0 (by omega);have yZ:Hid (ak (w.alloc (.cells #[.string f.nm,.int .i64 f.sz,cv] 122)) w.heap.size 3 (fun j=>(#[.string f.nm,.int .i64 f.sz,cv]:Array Value).getD j undef)):=hx1;have HB1:Hid (ak (w.alloc (.cells #[.string f.nm,.int .i64 f.sz,cv] 122)) bn 1 (fun _=>.string b)):=hb1;have Bo:Hid (aN (w.alloc (.cells #[.string f.nm,.int .i64 f.sz,cv] 122)) r (.agg #[]) L):=hm.since hs1;have qU:Hid (Ints (w.alloc (.cells #[.string f.nm,.int .i64 f.sz,cv] 122)) cv f.cs):=hc.since hs1;have bY:Hid (Since w (w.alloc (.cells #[.string f.nm,.int .i64 f.sz,cv] 122))):=hs1;have zg:Hid ((w.alloc (.cells #[.string f.nm,.int .i64 f.sz,cv] 122)).cell? ⟨sb,0,none⟩=some (.map (some r))):=(hs1.cell (p:=⟨sb,0,none⟩) (World.block_lt_of_cell? w _ hsb)).trans hsb;clear hx1 hb1 hs1 hb hm hc hsb
 have hcv:∃a c,cv=.slice a f.cs.length c:=by
  obtain⟨a,c,h,_⟩:=qU.out;exact⟨a,c,h⟩
 have HCV:Hid (∃a c,cv=.slice a f.cs.length c):=hcv;have hkeep:∀W,Since W W→True:=fun _ _=>trivial
 clear hkeep hcv;have SA:Hid (0<f.cs.length→∀k o n c,cv=.slice (some ⟨k,o,none⟩) n c→k≠bn):=hcb;clear hcb;unfold fZ;have HG:Hid (qm f.nm b=!(Op.bytesLess f.nm.toList b.toList||f.nm.toList==b.toList)):=rfl;cases hl:Op.bytesLess f.nm.toList b.toList with
 | true=>
  have HV:Hid ((qm f.nm b&&aP f.nm.data.toList&&filled f&&takeB L f.cs)=false):=by show (qm f.nm b&&aP f.nm.data.toList&&filled f&&takeB L f.cs)=false;rw[HG.out,hl];rfl
  go_enter Tryz.func225,Tryz.ntmps225
  go_upto_region 1 with fail
  generalize w.alloc (.cells #[.string f.nm,.int .i64 f.sz,cv] 122)=w1 at *;go_upto_region 3 with fail
  clear x0 hc0 hf0;have hX2:ak (w1.setCell ⟨bn,0,none⟩ (.string f.nm)) w.heap.size 3 (fun j=>(#[.string f.nm,.int .i64 f.sz,cv]:Array Value).getD j undef):=yZ.out.other (a:=⟨bn,0,none⟩) (by show bn≠_;omega) _;have x0:=hX2.cell 0 (by omega);have x1:=hX2.cell 1 (by omega);have x2:=hX2.cell 2 (by omega);have hB2:ak (w1.setCell ⟨bn,0,none⟩ (.string f.nm)) bn 1 (fun _=>.string f.nm):=(HB1.out.set 0 (by omega) _).congr (fun j hj=>by rw[show j=0 by omega];rfl);have hM2:aN (w1.setCell ⟨bn,0,none⟩ (.string f.nm)) r (.agg #[]) L:=by
   unfold aN;rw[Below.heap_setCell _ _ _ _ (fun e=>Bo.out.not (HB1.out.cell 0 (by omega)) e.symm)];exact Bo.out
  have s0:(w1.setCell ⟨bn,0,none⟩ (.string f.nm)).cell? ⟨sb,0,none⟩=some (.map (some r)):=by
   rw[World.cell?_setCell_other _ _ _ _ (by intro e;injection e with e1;exact hne e1)];exact zg.out
  have hC2:Ints (w1.setCell ⟨bn,0,none⟩ (.string f.nm)) cv f.cs:=by
   obtain⟨a,c,hv,hcc,h⟩:=qU.out;refine⟨a,c,hv,hcc,fun hn=>?_⟩;obtain⟨k,o,ha,hk,hcell⟩:=h hn;refine⟨k,o,ha,by simpa using hk,fun j x hj=>?_⟩;rw[World.cell?_setCell_other _ _ _ _ (by intro e;injection e with e1;exact SA.out hn k o f.cs.length c (by rw[hv,ha]) e1.symm)];exact hcell j x hj
  have oN:Hid (F2 bn r w (w1.setCell ⟨bn,0,none⟩ (.string f.nm))):=(F2.ah bY.out).trans (F2.xM (Fr.setCell bn none 0 w1 _));have HB2:Hid (ak (w1.setCell ⟨bn,0,none⟩ (.string f.nm)) bn 1 (fun _=>.string f.nm)):=hB2;have Lj:Hid (ak (w1.setCell ⟨bn,0,none⟩ (.string f.nm)) w.heap.size 3 (fun j=>(#[.string f.nm,.int .i64 f.sz,cv]:Array Value).getD j undef)):=hX2;have OE:Hid (aN (w1.setCell ⟨bn,0,none⟩ (.string f.nm)) r (.agg #[]) L):=hM2;have yP:Hid (Ints (w1.setCell ⟨bn,0,none⟩ (.string f.nm)) cv f.cs):=hC2;have Js:Hid ((w1.setCell ⟨bn,0,none⟩ (.string f.nm)).cell? ⟨sb,0,none⟩=some (.map (some r))):=s0;clear hX2 hB2 hM2 hC2 yZ HB1 Bo qU zg bY;generalize w1.setCell ⟨bn,0,none⟩ (.string f.nm)=w2 at *;go_wp2_with fail
  go_ret;exact⟨by rw[HV.out];rfl,(fun h=>absurd (HV.out.symm.trans h) (by decide)),oN.out⟩
 | false=>
  cases he:f.nm.toList==b.toList with
  | true=>
   have HV:Hid ((qm f.nm b&&aP f.nm.data.toList&&filled f&&takeB L f.cs)=false):=by show (qm f.nm b&&aP f.nm.data.toList&&filled f&&takeB L f.cs)=false;rw[HG.out,hl,he];rfl
   go_enter Tryz.func225,Tryz.ntmps225
   go_upto_region 1 with fail
   generalize w.alloc (.cells #[.string f.nm,.int .i64 f.sz,cv] 122)=w1 at *;go_upto_region 3 with fail
   clear x0 hc0 hf0;have hX2:ak (w1.setCell ⟨bn,0,none⟩ (.string f.nm)) w.heap.size 3 (fun j=>(#[.string f.nm,.int .i64 f.sz,cv]:Array Value).getD j undef):=yZ.out.other (a:=⟨bn,0,none⟩) (by show bn≠_;omega) _;have x0:=hX2.cell 0 (by omega);have x1:=hX2.cell 1 (by omega);have x2:=hX2.cell 2 (by omega);have hB2:ak (w1.setCell ⟨bn,0,none⟩ (.string f.nm)) bn 1 (fun _=>.string f.nm):=(HB1.out.set 0 (by omega) _).congr (fun j hj=>by rw[show j=0 by omega];rfl);have hM2:aN (w1.setCell ⟨bn,0,none⟩ (.string f.nm)) r (.agg #[]) L:=by
    unfold aN;rw[Below.heap_setCell _ _ _ _ (fun e=>Bo.out.not (HB1.out.cell 0 (by omega)) e.symm)];exact Bo.out
   have s0:(w1.setCell ⟨bn,0,none⟩ (.string f.nm)).cell? ⟨sb,0,none⟩=some (.map (some r)):=by
    rw[World.cell?_setCell_other _ _ _ _ (by intro e;injection e with e1;exact hne e1)];exact zg.out
   have hC2:Ints (w1.setCell ⟨bn,0,none⟩ (.string f.nm)) cv f.cs:=by
    obtain⟨a,c,hv,hcc,h⟩:=qU.out;refine⟨a,c,hv,hcc,fun hn=>?_⟩;obtain⟨k,o,ha,hk,hcell⟩:=h hn;refine⟨k,o,ha,by simpa using hk,fun j x hj=>?_⟩;rw[World.cell?_setCell_other _ _ _ _ (by intro e;injection e with e1;exact SA.out hn k o f.cs.length c (by rw[hv,ha]) e1.symm)];exact hcell j x hj
   have oN:Hid (F2 bn r w (w1.setCell ⟨bn,0,none⟩ (.string f.nm))):=(F2.ah bY.out).trans (F2.xM (Fr.setCell bn none 0 w1 _));have HB2:Hid (ak (w1.setCell ⟨bn,0,none⟩ (.string f.nm)) bn 1 (fun _=>.string f.nm)):=hB2;have Lj:Hid (ak (w1.setCell ⟨bn,0,none⟩ (.string f.nm)) w.heap.size 3 (fun j=>(#[.string f.nm,.int .i64 f.sz,cv]:Array Value).getD j undef)):=hX2;have OE:Hid (aN (w1.setCell ⟨bn,0,none⟩ (.string f.nm)) r (.agg #[]) L):=hM2;have yP:Hid (Ints (w1.setCell ⟨bn,0,none⟩ (.string f.nm)) cv f.cs):=hC2;have Js:Hid ((w1.setCell ⟨bn,0,none⟩ (.string f.nm)).cell? ⟨sb,0,none⟩=some (.map (some r))):=s0;clear hX2 hB2 hM2 hC2 yZ HB1 Bo qU zg bY;generalize w1.setCell ⟨bn,0,none⟩ (.string f.nm)=w2 at *;go_wp2_with fail
   go_ret;exact⟨by rw[HV.out];rfl,(fun h=>absurd (HV.out.symm.trans h) (by decide)),oN.out⟩
  | false=>
   have HGT:Hid (qm f.nm b=true):=by show qm f.nm b=true;rw[HG.out,hl,he];rfl
   have hnm:=xH f.nm;cases hn:aP f.nm.data.toList with
   | false=>
    rw[hn] at hnm;have HV:Hid ((qm f.nm b&&false&&filled f&&takeB L f.cs)=false):=by show (qm f.nm b&&false&&filled f&&takeB L f.cs)=false;rw[Bool.and_false];rfl
    go_enter Tryz.func225,Tryz.ntmps225
    go_upto_region 1 with fail
    generalize w.alloc (.cells #[.string f.nm,.int .i64 f.sz,cv] 122)=w1 at *;go_upto_region 3 with fail
    clear x0 hc0 hf0;have hX2:ak (w1.setCell ⟨bn,0,none⟩ (.string f.nm)) w.heap.size 3 (fun j=>(#[.string f.nm,.int .i64 f.sz,cv]:Array Value).getD j undef):=yZ.out.other (a:=⟨bn,0,none⟩) (by show bn≠_;omega) _;have x0:=hX2.cell 0 (by omega);have x1:=hX2.cell 1 (by omega);have x2:=hX2.cell 2 (by omega);have hB2:ak (w1.setCell ⟨bn,0,none⟩ (.string f.nm)) bn 1 (fun _=>.string f.nm):=(HB1.out.set 0 (by omega) _).congr (fun j hj=>by rw[show j=0 by omega];rfl);have hM2:aN (w1.setCell ⟨bn,0,none⟩ (.string f.nm)) r (.agg #[]) L:=by
     unfold aN;rw[Below.heap_setCell _ _ _ _ (fun e=>Bo.out.not (HB1.out.cell 0 (by omega)) e.symm)];exact Bo.out
    have s0:(w1.setCell ⟨bn,0,none⟩ (.string f.nm)).cell? ⟨sb,0,none⟩=some (.map (some r)):=by
     rw[World.cell?_setCell_other _ _ _ _ (by intro e;injection e with e1;exact hne e1)];exact zg.out
    have hC2:Ints (w1.setCell ⟨bn,0,none⟩ (.string f.nm)) cv f.cs:=by
     obtain⟨a,c,hv,hcc,h⟩:=qU.out;refine⟨a,c,hv,hcc,fun hn=>?_⟩;obtain⟨k,o,ha,hk,hcell⟩:=h hn;refine⟨k,o,ha,by simpa using hk,fun j x hj=>?_⟩;rw[World.cell?_setCell_other _ _ _ _ (by intro e;injection e with e1;exact SA.out hn k o f.cs.length c (by rw[hv,ha]) e1.symm)];exact hcell j x hj
    have oN:Hid (F2 bn r w (w1.setCell ⟨bn,0,none⟩ (.string f.nm))):=(F2.ah bY.out).trans (F2.xM (Fr.setCell bn none 0 w1 _));have HB2:Hid (ak (w1.setCell ⟨bn,0,none⟩ (.string f.nm)) bn 1 (fun _=>.string f.nm)):=hB2;have Lj:Hid (ak (w1.setCell ⟨bn,0,none⟩ (.string f.nm)) w.heap.size 3 (fun j=>(#[.string f.nm,.int .i64 f.sz,cv]:Array Value).getD j undef)):=hX2;have OE:Hid (aN (w1.setCell ⟨bn,0,none⟩ (.string f.nm)) r (.agg #[]) L):=hM2;have yP:Hid (Ints (w1.setCell ⟨bn,0,none⟩ (.string f.nm)) cv f.cs):=hC2;have Js:Hid ((w1.setCell ⟨bn,0,none⟩ (.string f.nm)).cell? ⟨sb,0,none⟩=some (.map (some r))):=s0;clear hX2 hB2 hM2 hC2 yZ HB1 Bo qU zg bY;generalize w1.setCell ⟨bn,0,none⟩ (.string f.nm)=w2 at *;go_wp2_with (go_at_call 7;refine(hnm _).mono ?_;rintro e w' ⟨rfl,rfl⟩)
    go_ret;exact⟨by rw[HV.out];rfl,(fun h=>absurd (HV.out.symm.trans h) (by decide)),oN.out⟩
   | true=>
    rw[hn] at hnm;have hfl:=qa f cv hsz;unfold fZ at hfl;cases hf:filled f with
    | false=>
     rw[hf] at hfl;have HV:Hid ((qm f.nm b&&true&&false&&takeB L f.cs)=false):=by show (qm f.nm b&&true&&false&&takeB L f.cs)=false;rw[Bool.and_false];rfl
     go_enter Tryz.func225,Tryz.ntmps225
     go_upto_region 1 with fail
     generalize w.alloc (.cells #[.string f.nm,.int .i64 f.sz,cv] 122)=w1 at *;go_upto_region 3 with fail
     clear x0 hc0 hf0;have hX2:ak (w1.setCell ⟨bn,0,none⟩ (.string f.nm)) w.heap.size 3 (fun j=>(#[.string f.nm,.int .i64 f.sz,cv]:Array Value).getD j undef):=yZ.out.other (a:=⟨bn,0,none⟩) (by show bn≠_;omega) _;have x0:=hX2.cell 0 (by omega);have x1:=hX2.cell 1 (by omega);have x2:=hX2.cell 2 (by omega);have hB2:ak (w1.setCell ⟨bn,0,none⟩ (.string f.nm)) bn 1 (fun _=>.string f.nm):=(HB1.out.set 0 (by omega) _).congr (fun j hj=>by rw[show j=0 by omega];rfl);have hM2:aN (w1.setCell ⟨bn,0,none⟩ (.string f.nm)) r (.agg #[]) L:=by
      unfold aN;rw[Below.heap_setCell _ _ _ _ (fun e=>Bo.out.not (HB1.out.cell 0 (by omega)) e.symm)];exact Bo.out
     have s0:(w1.setCell ⟨bn,0,none⟩ (.string f.nm)).cell? ⟨sb,0,none⟩=some (.map (some r)):=by
      rw[World.cell?_setCell_other _ _ _ _ (by intro e;injection e with e1;exact hne e1)];exact zg.out
     have hC2:Ints (w1.setCell ⟨bn,0,none⟩ (.string f.nm)) cv f.cs:=by
      obtain⟨a,c,hv,hcc,h⟩:=qU.out;refine⟨a,c,hv,hcc,fun hn=>?_⟩;obtain⟨k,o,ha,hk,hcell⟩:=h hn;refine⟨k,o,ha,by simpa using hk,fun j x hj=>?_⟩;rw[World.cell?_setCell_other _ _ _ _ (by intro e;injection e with e1;exact SA.out hn k o f.cs.length c (by rw[hv,ha]) e1.symm)];exact hcell j x hj
     have oN:Hid (F2 bn r w (w1.setCell ⟨bn,0,none⟩ (.string f.nm))):=(F2.ah bY.out).trans (F2.xM (Fr.setCell bn none 0 w1 _));have HB2:Hid (ak (w1.setCell ⟨bn,0,none⟩ (.string f.nm)) bn 1 (fun _=>.string f.nm)):=hB2;have Lj:Hid (ak (w1.setCell ⟨bn,0,none⟩ (.string f.nm)) w.heap.size 3 (fun j=>(#[.string f.nm,.int .i64 f.sz,cv]:Array Value).getD j undef)):=hX2;have OE:Hid (aN (w1.setCell ⟨bn,0,none⟩ (.string f.nm)) r (.agg #[]) L):=hM2;have yP:Hid (Ints (w1.setCell ⟨bn,0,none⟩ (.string f.nm)) cv f.cs):=hC2;have Js:Hid ((w1.setCell ⟨bn,0,none⟩ (.string f.nm)).cell? ⟨sb,0,none⟩=some (.map (some r))):=s0;clear hX2 hB2 hM2 hC2 yZ HB1 Bo qU zg bY;generalize w1.setCell ⟨bn,0,none⟩ (.string f.nm)=w2 at *;go_wp2_with (go_at_call 7;refine(hnm _).mono ?_;rintro e w' ⟨rfl,rfl⟩)
     refine(hfl _ HCV.out).mono ?_;rintro e w3 ⟨rfl,hs3⟩;have ZB:Hid (F2 bn r w w3):=oN.out.trans (F2.ah hs3);clear hs3;go_wp2_with fail
     go_ret;exact⟨by rw[HV.out];rfl,(fun h=>absurd (HV.out.symm.trans h) (by decide)),ZB.out⟩
    | true=>
     rw[hf] at hfl;have HL:Hid (f.cs.length≤1000):=by
      have h1:=(lU f).1 hf;have h2:=BI h1.2.1;show f.cs.length≤1000
      omega
     have HV:Hid ((qm f.nm b&&true&&true&&takeB L f.cs)=takeB L f.cs):=by show (qm f.nm b&&true&&true&&takeB L f.cs)=takeB L f.cs;rw[HGT.out];rfl
     go_enter Tryz.func225,Tryz.ntmps225
     go_upto_region 1 with fail
     generalize w.alloc (.cells #[.string f.nm,.int .i64 f.sz,cv] 122)=w1 at *;go_upto_region 3 with fail
     clear x0 hc0 hf0;have hX2:ak (w1.setCell ⟨bn,0,none⟩ (.string f.nm)) w.heap.size 3 (fun j=>(#[.string f.nm,.int .i64 f.sz,cv]:Array Value).getD j undef):=yZ.out.other (a:=⟨bn,0,none⟩) (by show bn≠_;omega) _;have x0:=hX2.cell 0 (by omega);have x1:=hX2.cell 1 (by omega);have x2:=hX2.cell 2 (by omega);have hB2:ak (w1.setCell ⟨bn,0,none⟩ (.string f.nm)) bn 1 (fun _=>.string f.nm):=(HB1.out.set 0 (by omega) _).congr (fun j hj=>by rw[show j=0 by omega];rfl);have hM2:aN (w1.setCell ⟨bn,0,none⟩ (.string f.nm)) r (.agg #[]) L:=by
      unfold aN;rw[Below.heap_setCell _ _ _ _ (fun e=>Bo.out.not (HB1.out.cell 0 (by omega)) e.symm)];exact Bo.out
     have s0:(w1.setCell ⟨bn,0,none⟩ (.string f.nm)).cell? ⟨sb,0,none⟩=some (.map (some r)):=by
      rw[World.cell?_setCell_other _ _ _ _ (by intro e;injection e with e1;exact hne e1)];exact zg.out
     have hC2:Ints (w1.setCell ⟨bn,0,none⟩ (.string f.nm)) cv f.cs:=by
      obtain⟨a,c,hv,hcc,h⟩:=qU.out;refine⟨a,c,hv,hcc,fun hn=>?_⟩;obtain⟨k,o,ha,hk,hcell⟩:=h hn;refine⟨k,o,ha,by simpa using hk,fun j x hj=>?_⟩;rw[World.cell?_setCell_other _ _ _ _ (by intro e;injection e with e1;exact SA.out hn k o f.cs.length c (by rw[hv,ha]) e1.symm)];exact hcell j x hj
     have oN:Hid (F2 bn r w (w1.setCell ⟨bn,0,none⟩ (.string f.nm))):=(F2.ah bY.out).trans (F2.xM (Fr.setCell bn none 0 w1 _));have HB2:Hid (ak (w1.setCell ⟨bn,0,none⟩ (.string f.nm)) bn 1 (fun _=>.string f.nm)):=hB2;have Lj:Hid (ak (w1.setCell ⟨bn,0,none⟩ (.string f.nm)) w.heap.size 3 (fun j=>(#[.string f.nm,.int .i64 f.sz,cv]:Array Value).getD j undef)):=hX2;have OE:Hid (aN (w1.setCell ⟨bn,0,none⟩ (.string f.nm)) r (.agg #[]) L):=hM2;have yP:Hid (Ints (w1.setCell ⟨bn,0,none⟩ (.string f.nm)) cv f.cs):=hC2;have Js:Hid ((w1.setCell ⟨bn,0,none⟩ (.string f.nm)).cell? ⟨sb,0,none⟩=some (.map (some r))):=s0;clear hX2 hB2 hM2 hC2 yZ HB1 Bo qU zg bY;generalize w1.setCell ⟨bn,0,none⟩ (.string f.nm)=w2 at *;go_wp2_with (go_at_call 7;refine(hnm _).mono ?_;rintro e w' ⟨rfl,rfl⟩)
     refine(hfl _ HCV.out).mono ?_;rintro e w3 ⟨rfl,hs3⟩;have ZB:Hid (F2 bn r w w3):=oN.out.trans (F2.ah hs3);have HM3:Hid (aN w3 r (.agg #[]) L):=OE.out.since hs3;have HB3:Hid (ak w3 bn 1 (fun _=>.string f.nm)):=HB2.out.since hs3;have jZ:Hid (Ints w3 cv f.cs):=yP.out.since hs3;have x2:=(Lj.out.since hs3).cell 2 (by omega);have s0:=(hs3.cell (p:=⟨sb,0,none⟩) (World.block_lt_of_cell? _ _ Js.out)).trans Js.out;clear hs3 x0 x1 hl he hn hf hnm hfl;go_wp2_with fail
     refine(rM r L f.cs cv _ HM3.out jZ.out HL.out).mono ?_;rintro e w4 ⟨rfl,h4,zQ⟩;have OC:Hid (F2 bn r w w4):=ZB.out.trans (F2.XL zQ);have Ny:Hid (ak w4 bn 1 (fun _=>.string f.nm)):=HB3.out.fr zQ (HM3.out.not (HB3.out.cell 0 (by omega))) (by simp);have H4:Hid (takeB L f.cs=true→aN w4 r (.agg #[]) (L++f.cs)):=h4;clear zQ h4;go_wp2_with fail
     go_ret;exact⟨by rw[HV.out];rfl,fun h=>⟨Ny.out,H4.out (HV.out.symm.trans h)⟩,OC.out⟩
end En
end Go.Proofs.YtmhcfaaggkidjaaGreatDoor
end
section
namespace Go.Proofs.YtmhcfaaggkidjaaGreatDoor
set_option maxRecDepth 100000
namespace En
open Go.RowKit
def pz (l:List Fi):Prop:=∀f,f ∈ l→-9223372036854775808≤f.sz∧f.sz≤9223372036854775807
theorem iX.at_ {w:World} {a:Option Addr} {c:Nat} {l:List Fi} (h:iX w (.slice a l.length c) l) {j:Nat} {f:Fi} (hj:l[j]?=some f):∃k o cv,a=some ⟨k,o,none⟩∧Ints w cv f.cs∧k<w.heap.size∧w.cell? ⟨k,o+j*3,none⟩=some (.string f.nm)∧w.cell? ⟨k,o+j*3+1,none⟩=some (.int .i64 f.sz)∧w.cell? ⟨k,o+j*3+2,none⟩=some cv:=by
 obtain⟨a',c',hv,hc,h⟩:=h;injection hv with e1 e2 e3
 subst e1 e3;have hjl:=(List.getElem?_eq_some_iff.1 hj).1;obtain⟨k,o,ha,hk,hh⟩:=h (by omega);obtain⟨cv,h1,h2,h3,h4⟩:=hh j f hj;exact⟨k,o,cv,ha,h1,hk,h2,h3,h4⟩
theorem xN {b:ByteArray} {L:List Int} {l:List Fi} {k:Nat} {f:Fi} (h:l[k]?=some f):rightFrom b L (l.drop k)=(qm f.nm b&&aP f.nm.data.toList&&filled f&&takeB L f.cs&&rightFrom f.nm (L++f.cs) (l.drop (k+1))):=by
 have hk:=(List.getElem?_eq_some_iff.1 h).1;have e:l.drop k=f::l.drop (k+1):=by
  rw[List.drop_eq_getElem_cons hk]
  congr 1
  exact(List.getElem?_eq_some_iff.1 h).2
 rw[e];rfl
set_option maxHeartbeats 4000000 in
theorem kQ (l:List Fi) (v:Value) (w:World) (hl:iX w v l) (hz:pz l):Calls Tryz.prog 176 #[v] w fun e w'=>e=.returned (.bool (right l))∧Since w w':=by
 obtain⟨a,c,rfl,hcap,hrest⟩:=hl;have HL:Hid (iX w (.slice a l.length c) l):=⟨a,c,rfl,hcap,hrest⟩
 have HZ:Hid (pz l):=hz;have hmm:=@run_makeMap Tryz.prog;clear hrest hz;by_cases h8:8<l.length
 ·have HB:Hid (right l=false):=by
   show right l=false
   rw[right,decide_eq_false (by omega)];rfl
  have h8':(8:Int)<l.length:=by omega
  go_enter Tryz.func176,Tryz.ntmps176
  go_wp2_with fail
  go_ret;exact⟨by rw[HB.out];rfl,Since.refl _⟩
 have HB:Hid (right l=rightFrom ⟨#[]⟩ [] l):=by
  show right l=_
  rw[right,decide_eq_true (by omega)];rfl
 have h8':(l.length:Int)≤8:=by omega
 have h8d:decide ((8:Int)<l.length)=false:=decide_eq_false (by omega);go_enter Tryz.func176,Tryz.ntmps176
 go_upto_region 6 with fail
 have hs0:Since w (((w.alloc (.map #[] 0)).alloc (.cells #[.map (some w.heap.size)] 174)).alloc (.cells #[.string ⟨#[]⟩] 9)):=(((Since.refl w).alloc _).alloc _).alloc _;have hset:aN (((w.alloc (.map #[] 0)).alloc (.cells #[.map (some w.heap.size)] 174)).alloc (.cells #[.string ⟨#[]⟩] 9)) w.heap.size (.agg #[]) []:=by
  have h0:aN (w.alloc (.map #[] 0)) w.heap.size (.agg #[]) []:=(MapKept.heap_alloc w (.map #[] 0)).1;exact h0.since (((Since.refl _).alloc _).alloc _)
 have hsb:(((w.alloc (.map #[] 0)).alloc (.cells #[.map (some w.heap.size)] 174)).alloc (.cells #[.string ⟨#[]⟩] 9)).cell? ⟨w.heap.size+1,0,none⟩=some (.map (some w.heap.size)):=
  ((ak.new (w.alloc (.map #[] 0)) 1 (fun _=>.map (some w.heap.size)) _ _ (fun j hj=>by rw[show j=0 by omega];rfl) _ (by simp)).since ((Since.refl _).alloc _)).cell 0 (by omega)
 have hbn:ak (((w.alloc (.map #[] 0)).alloc (.cells #[.map (some w.heap.size)] 174)).alloc (.cells #[.string ⟨#[]⟩] 9)) (w.heap.size+1+1) 1 (fun _=>.string ⟨#[]⟩):=ak.new _ 1 _ _ _ (fun j hj=>by rw[show j=0 by omega];rfl) _ (by simp)
 have HR:Hid (iX (((w.alloc (.map #[] 0)).alloc (.cells #[.map (some w.heap.size)] 174)).alloc (.cells #[.string ⟨#[]⟩] 9)) (.slice a l.length c) l∧Since w (((w.alloc (.map #[] 0)).alloc (.cells #[.map (some w.heap.size)] 174)).alloc (.cells #[.string ⟨#[]⟩] 9))∧aN (((w.alloc (.map #[] 0)).alloc (.cells #[.map (some w.heap.size)] 174)).alloc (.cells #[.string ⟨#[]⟩] 9)) w.heap.size (.agg #[]) []∧(((w.alloc (.map #[] 0)).alloc (.cells #[.map (some w.heap.size)] 174)).alloc (.cells #[.string ⟨#[]⟩] 9)).cell? ⟨w.heap.size+1,0,none⟩=some (.map (some w.heap.size))∧ak (((w.alloc (.map #[] 0)).alloc (.cells #[.map (some w.heap.size)] 174)).alloc (.cells #[.string ⟨#[]⟩] 9)) (w.heap.size+1+1) 1 (fun _=>.string ⟨#[]⟩)):=⟨HL.out.since hs0,hs0,hset,hsb,hbn⟩
 clear hs0 hset hsb hbn hmm;generalize ((w.alloc (.map #[] 0)).alloc (.cells #[.map (some w.heap.size)] 174)).alloc (.cells #[.string ⟨#[]⟩] 9)=w0 at *;go_wp2_with fail
 go_loopw [15,7] (fun i _ wr=>∃(k:Nat) (b:ByteArray) (L:List Int),k≤l.length∧i=.int .i64 k∧rightFrom ⟨#[]⟩ [] l=rightFrom b L (l.drop k)∧Since w wr∧aN wr w.heap.size (.agg #[]) L∧wr.cell? ⟨w.heap.size+1,0,none⟩=some (.map (some w.heap.size))∧ak wr (w.heap.size+1+1) 1 (fun _=>.string b)) (fun i _ _=>l.length-(intOf i).toNat)
 case atStart=>exact⟨0,⟨#[]⟩,[],by omega,rfl,by rw[List.drop_zero],HR.out.2.1,HR.out.2.2.1,HR.out.2.2.2.1,HR.out.2.2.2.2⟩
 obtain⟨k,b,L,hk,rfl,hrf,hs,hset,hsb,hbn⟩:=hrel;have HRF:Hid (rightFrom ⟨#[]⟩ [] l=rightFrom b L (l.drop k)):=hrf;have HS:Hid (Since w wr):=hs;have vI:Hid (aN wr w.heap.size (.agg #[]) L):=hset;have HSB:Hid (wr.cell? ⟨w.heap.size+1,0,none⟩=some (.map (some w.heap.size))):=hsb;have HBN:Hid (ak wr (w.heap.size+1+1) 1 (fun _=>.string b)):=hbn;clear hrf hs hset hsb hbn;by_cases hlt:k<l.length
 ·have hlt2:(k:Int)<l.length:=by omega
  have hE:Hid (l[k]?=some l[k]):=List.getElem?_eq_getElem hlt;have HZ2:Hid (-9223372036854775808≤l[k].sz∧l[k].sz≤9223372036854775807):=HZ.out l[k] (List.getElem_mem hlt);generalize l[k]=f at *;obtain⟨kb,ko,cv,rfl,hi0,hkb,p0,p1,p2⟩:=HL.out.at_ hE.out;have q0:=(HS.out.cell (p:=⟨kb,ko+k*3,none⟩) hkb).trans p0;have q1:=(HS.out.cell (p:=⟨kb,ko+k*3+1,none⟩) hkb).trans p1;have q2:=(HS.out.cell (p:=⟨kb,ko+k*3+2,none⟩) hkb).trans p2;have HI:Hid (Ints w cv f.cs):=hi0;clear p0 p1 p2 hi0;have SA:Hid (0<f.cs.length→∀k o n c,cv=.slice (some ⟨k,o,none⟩) n c→k≠w.heap.size+1+1):=fun hn k o n c e=>by
   obtain⟨a',c',hv,_,h⟩:=HI.out;obtain⟨k',o',ha,hk',_⟩:=h hn;rw[e,ha] at hv;injection hv with e1
   injection e1 with e1
   injection e1 with e1
   omega
  have HST:Hid (rightFrom b L (l.drop k)=(qm f.nm b&&aP f.nm.data.toList&&filled f&&takeB L f.cs&&rightFrom f.nm (L++f.cs) (l.drop (k+1)))):=xN hE.out;have lC:Hid (Since wr (wr.alloc (.cells #[.string f.nm,.int .i64 f.sz,cv] 122))):=(Since.refl _).alloc _;obtain⟨ca,cc,rfl⟩:∃ca cc,cv=.slice ca f.cs.length cc:=by
   obtain⟨ca,cc,h,_⟩:=HI.out;exact⟨ca,cc,h⟩
  go_wp2_with fail
  refine(vN f _ (w.heap.size+1+1) (w.heap.size+1) w.heap.size b L _ HZ2.out (HI.out.since (HS.out.trans lC.out)) (HBN.out.since lC.out) ((lC.out.cell (p:=⟨w.heap.size+1,0,none⟩) (World.block_lt_of_cell? _ _ HSB.out)).trans HSB.out) (vI.out.since lC.out) (by omega) SA.out).mono ?_;rintro e w2 ⟨rfl,h2,hf2⟩;have HS2:Hid (Since w w2):=hf2.since (HS.out.trans lC.out) (by omega) (by omega);have a2Q:Hid (w2.cell? ⟨w.heap.size+1,0,none⟩=some (.map (some w.heap.size))):=by
   show w2.cell? ⟨w.heap.size+1,0,none⟩=_
   have h1:=(lC.out.cell (p:=⟨w.heap.size+1,0,none⟩) (World.block_lt_of_cell? _ _ HSB.out)).trans HSB.out;rw[hf2.cell (p:=⟨w.heap.size+1,0,none⟩) (World.block_lt_of_cell? _ _ h1) (by show w.heap.size+1≠_;omega) (by show w.heap.size+1≠_;omega)];exact h1
  have H2:Hid ((qm f.nm b&&aP f.nm.data.toList&&filled f&&takeB L f.cs)=true→ak w2 (w.heap.size+1+1) 1 (fun _=>.string f.nm)∧aN w2 w.heap.size (.agg #[]) (L++f.cs)):=h2;clear h2 hf2 q0 q1 q2;generalize hgo:(qm f.nm b&&aP f.nm.data.toList&&filled f&&takeB L f.cs)=g at *;cases g with
  | true=>
   have HE:Hid (rightFrom ⟨#[]⟩ [] l=rightFrom f.nm (L++f.cs) (l.drop (k+1))):=by
    show rightFrom ⟨#[]⟩ [] l=_
    rw[HRF.out,HST.out];rfl
   clear hgo HST;go_wp2_with fail
   go_roundw
   case rel=>exact⟨k+1,f.nm,L++f.cs,by omega,by go_num,HE.out,HS2.out,(H2.out trivial).2,a2Q.out,(H2.out trivial).1⟩
   case measure=>simp[intOf];omega
  | false=>
   have HE:Hid (right l=false):=by
    show right l=false
    rw[HB.out,HRF.out,HST.out];rfl
   clear hgo HST;go_wp2_with fail
   go_ret;exact⟨by rw[HE.out];rfl,HS2.out⟩
 have hke:k=l.length:=by omega
 have HE:Hid (right l=true):=by
  show right l=true
  rw[HB.out,HRF.out,hke,List.drop_length];rfl
 clear HRF;subst hke;go_wp2_with fail
 go_ret;exact⟨by rw[HE.out];rfl,HS.out⟩
end En
end Go.Proofs.YtmhcfaaggkidjaaGreatDoor
end
