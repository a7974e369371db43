import Derived.BigQuiet
import Derived.Deep.RegionHeld3
import Derived.Test.YtmhcfaaggkidjaaGreatDoorJ06
import Derived.Test.YtmhcfaaggkidjaaGreatDoorJ10
set_option linter.unusedSimpArgs false
set_option linter.unusedVariables false
section
namespace Go.Proofs.YtmhcfaaggkidjaaGreatDoor
set_option maxRecDepth 100000
namespace Sm.Sr
open Go.RowKit
attribute [local go_sem ↓] jr fO jw jy pK jA jB jC fP fQ dU bI
theorem NN (k:Int):bits BinOp.and IntKind.u64 (IntKind.u64.wrap k) 31=k % 32:=by
 have e:IntKind.u64.wrap k=k % 18446744073709551616:=by simp[IntKind.wrap,IntKind.bits,IntKind.signed]
 have h:=bits_mask .u64 64 (by decide) (fun n h0 h1=>by simp[IntKind.wrap,IntKind.bits,IntKind.signed];omega) 5 (by decide) (IntKind.u64.wrap k) (by omega) (by omega);have e2:(2:Int) ^ 5-1=31:=by decide
 rw[e2] at h;rw[h,e];omega
set_option maxHeartbeats 400000 in
theorem nZ (x:BitVec 32) (k:Int) (w:World) :
  Calls Tryz.prog 292 #[U x,.int .i64 k] w fun e w'=>e=.returned (U (mD x (k % 32).toNat))∧w'=w:=by
 have hb:=NN k;have h1:(0:Int)≤k % 32:=by omega
 have h2:IntKind.u64.wrap (32-k % 32)=32-k % 32:=by
  simp[IntKind.wrap,IntKind.bits,IntKind.signed];omega
 have h4:k % 32≤32:=by omega
 have h3:(32-k % 32).toNat=32-(k % 32).toNat:=by omega
 go_enter Tryz.func292,Tryz.ntmps292
 go_wp2
 go_ret;exact⟨rfl,rfl⟩
theorem AX {fn:Func} {t u v x:Tmp} (h:fn.results=#[.tmp t,.tmp u,.tmp v,.tmp x]) (tmps:Array Value) (P:Program) (w:World) :
  (results fn tmps).run P w=.ok (.tuple #[tmps.getD t undef,tmps.getD u undef,tmps.getD v undef,tmps.getD x undef]) w:=by
 simp[results,h]
set_option maxHeartbeats 400000 in
theorem uC (q:Qu) (w:World) :
  Calls Tryz.prog 260 #[U q.a,U q.b,U q.c,U q.d] w fun e w'=>e=.returned (.tuple #[U (kK q).a,U (kK q).b,U (kK q).c,U (kK q).d])∧w'=w:=by
 go_enter Tryz.func260,Tryz.ntmps260
 go_wp2_with (go_at_call 292;refine(nZ _ _ _).mono ?_;rintro e w' ⟨rfl,rfl⟩)
 (try simp only[Exit.inBlock,Exit.then])
 refine bodyPost_ret (AX rfl _ _ _) rfl ?_;exact⟨rfl,rfl⟩
set_option maxHeartbeats 400000 in
theorem qP (s:ByteArray) (w:World) (hs:4≤s.size) :
  Calls Tryz.prog 211 #[.string s] w fun e w'=>e=.returned (U (wC (s[0]'(by omega)) (s[1]'(by omega)) (s[2]'(by omega)) (s[3]'(by omega))))∧∃n,w'=w.drewN n:=by
 have h0:0<s.size:=by omega
 have h1:1<s.size:=by omega
 have h2:2<s.size:=by omega
 have h3:3<s.size:=by omega
 have g0:(0:Int)<s.size:=by omega
 have g1:(1:Int)<s.size:=by omega
 have g2:(2:Int)<s.size:=by omega
 have g3:(3:Int)<s.size:=by omega
 go_enter Tryz.func211,Tryz.ntmps211
 go_wp2_with fail
 go_quiet (fail)
 go_wp2_with fail
 go_ret;exact⟨rfl,_,rfl⟩
end Sm.Sr
end Go.Proofs.YtmhcfaaggkidjaaGreatDoor
end
section
namespace Go.Proofs.YtmhcfaaggkidjaaGreatDoor
set_option maxRecDepth 100000
namespace Sm.Sr
open Go.RowKit
attribute [local go_sem] jr fO jw jy pK jA jB jC fP fQ dU fo bI fe dE
theorem FK (w:World) (a b:Addr) (v:Value) (h:(w.cell? b).isSome=true):((w.setCell a v).cell? b).isSome=true:=by
 obtain⟨u,hu⟩:=Option.isSome_iff_exists.1 h;by_cases e:b=a
 ·subst e;rw[World.cell?_setCell_same _ _ _ hu];rfl
 rw[World.cell?_setCell_other _ _ _ _ (fun h=>e h.symm)];exact h
attribute [local go_sem] FK
def lane (sh j:Nat):Nat:=(j % 4+(4-sh)*(j / 4)) % 4
def dB (sh:Nat) (f:Nat→BitVec 32) (n:Nat):Nat→BitVec 32:=fun j=>if lane sh j<n then vM sh f j else f j
def CL (g:Nat→BitVec 32) (i0 i1 i2 i3:Nat) (q:Qu):Nat→BitVec 32:=upd (upd (upd (upd g i0 q.a) i1 q.b) i2 q.c) i3 q.d
theorem _root_.Go.Proofs.YtmhcfaaggkidjaaGreatDoor.Sm.bA.CL {w:World} {b:Nat} {g:Nat→BitVec 32} (h:bA w b 0 16 g) (i0 i1 i2 i3:Nat) (h0:i0<16) (h1:i1<16) (h2:i2<16) (h3:i3<16) (q:Qu) :
  bA ((((w.setCell ⟨b,i0,none⟩ (U q.a)).setCell ⟨b,i1,none⟩ (U q.b)).setCell ⟨b,i2,none⟩ (U q.c)).setCell ⟨b,i3,none⟩ (U q.d)) b 0 16 (CL g i0 i1 i2 i3 q):=by
 have h4:=(((h.set i0 h0 q.a).set i1 h1 q.b).set i2 h2 q.c).set i3 h3 q.d;simp only[Nat.zero_add] at h4;exact h4
theorem CO (sh:Nat) (f:Nat→BitVec 32) (hsh:sh<2) (k:Nat) (hk:k<4) (j:Nat) (hj:j<16) :
  CL (dB sh f k) k (4+(k+sh) % 4) (8+(k+2*sh) % 4) (12+(k+3*sh) % 4) (kK (four (dB sh f k) sh k)) j=dB sh f (k+1) j:=by
 have all:∀sh,sh<2→∀k,k<4→∀j,j<16→CL (dB sh f k) k (4+(k+sh) % 4) (8+(k+2*sh) % 4) (12+(k+3*sh) % 4) (kK (four (dB sh f k) sh k)) j=dB sh f (k+1) j:=by
  intro sh hsh k hk;rcases sh with _ | _ | sh
  all_goals first | omega | skip
  all_goals rcases k with _ | _ | _ | _ | k
  all_goals first | omega | skip
  all_goals
   intro j hj;rcases j with _ | _ | _ | _ | _ | _ | _ | _ | _ | _ | _ | _ | _ | _ | _ | _ | j
   all_goals first | omega | rfl
 exact all sh hsh k hk j hj
theorem wG (sh:Nat) (f:Nat→BitVec 32) (j:Nat):dB sh f 4 j=vM sh f j:=by
 unfold dB lane;rw[if_pos (by omega)]
set_option maxHeartbeats 4000000 in
set_option maxRecDepth 100000 in
theorem CP (f:Nat→BitVec 32) (w:World) :
  Calls Tryz.prog 213 #[.agg (row 16 f).toArray] w fun e w'=>e=.returned (.agg (row 16 (vM 0 f)).toArray)∧Since w w':=by
 have er:(row 16 f).toArray=#[U (f 0),U (f 1),U (f 2),U (f 3),U (f 4),U (f 5),U (f 6),U (f 7),U (f 8),U (f 9),U (f 10),U (f 11),U (f 12),U (f 13),U (f 14),U (f 15)]:=rfl;rw[er];clear er;go_enter Tryz.func213,Tryz.ntmps213
 go_wp2_with fail
 go_loopw [4] (fun i wr=>∃k:Nat,k≤4∧i=.int .i64 k∧bA wr w.heap.size 0 16 (dB 0 f k)∧bA wr (w.heap.size+1) 0 16 (fun _=>0)∧Since w wr) (fun i _=>4-(intOf i).toNat)
 case atStart=>
  exact⟨0,by omega,rfl,(bA.new w 16 f _ _ (by rfl) _ rfl).alloc _,bA.new (w.alloc _) 16 _ _ _ (by rfl) _ (by simp),((Since.refl _).alloc _).alloc _⟩
 obtain⟨k,hk,rfl,hA,hB,hS⟩:=hrel;by_cases hlt:k<4
 ·have t1:((4:Int)+k).toNat=4+k:=by omega
  have t2:((8:Int)+k).toNat=8+k:=by omega
  have t3:((12:Int)+k).toNat=12+k:=by omega
  have b0:(k:Int)<16:=by omega
  have b1:(4:Int)+k<16:=by omega
  have b2:(8:Int)+k<16:=by omega
  have b3:(12:Int)+k<16:=by omega
  have v1:IntKind.i64.wrap ((4:Int)+k)=4+k:=by simp[IntKind.wrap,IntKind.bits,IntKind.signed];omega
  have v2:IntKind.i64.wrap ((8:Int)+k)=8+k:=by simp[IntKind.wrap,IntKind.bits,IntKind.signed];omega
  have v3:IntKind.i64.wrap ((12:Int)+k)=12+k:=by simp[IntKind.wrap,IntKind.bits,IntKind.signed];omega
  have z1:(0:Int)≤4+k:=by omega
  have z2:(0:Int)≤8+k:=by omega
  have z3:(0:Int)≤12+k:=by omega
  have c0:=hA.cell k (by omega);have c1:=hA.cell (4+k) (by omega);have c2:=hA.cell (8+k) (by omega);have c3:=hA.cell (12+k) (by omega);have f0:=hA.frozen k (by omega);have f1:=hA.frozen (4+k) (by omega);have f2:=hA.frozen (8+k) (by omega);have f3:=hA.frozen (12+k) (by omega);rw[Nat.zero_add] at c0 c1 c2 c3 f0 f1 f2 f3;have HA:=(show Hid (bA wr w.heap.size 0 16 (dB 0 f k)) from hA)
  have HB:=(show Hid (bA wr (w.heap.size+1) 0 16 (fun _=>0)) from hB)
  have HS:=(show Hid (Since w wr) from hS)
  have HK:=(show Hid (k≤4) from hk)
  have Hst:=(show Hid (∀j,j<16→CL (dB 0 f k) k (4+k) (8+k) (12+k) (kK ⟨dB 0 f k k,dB 0 f k (4+k),dB 0 f k (8+k),dB 0 f k (12+k)⟩) j=dB 0 f (k+1) j) from fun j hj=>by
    have h:=CO 0 f (by omega) k hlt j hj;unfold four at h;simp only[Nat.mul_zero,Nat.add_zero,Nat.mod_eq_of_lt hlt] at h;exact h)
  clear hA hB hS hk;go_wp2_with fail
  generalize hg:dB 0 f k=g at *;clear hg;refine wp_region_any (by kernel_rfl) ?_;refine wpAny_take (i:=0) (v:=?v0) rfl (by kernel_rfl) (by kernel_rfl) (by kernel_rfl) (fun _ _ _ h=>h) (Or.inl ⟨by rfl,?hy0⟩) ?r0
  case hy0=>(intro w;go_simp;try with_reducible rfl)
  simp only[Act.put,List.setIfInBounds_toArray,List.set_cons_zero,List.set_cons_succ];refine wpAny_take (i:=1) (v:=?v1) rfl (by kernel_rfl) (by kernel_rfl) (by kernel_rfl) (fun _ _ _ h=>h) (Or.inl ⟨by rfl,?hy1⟩) ?r1
  case hy1=>(intro w;go_simp;try with_reducible rfl)
  simp only[Act.put,List.setIfInBounds_toArray,List.set_cons_zero,List.set_cons_succ];refine wpAny_take (i:=2) (v:=?v2) rfl (by kernel_rfl) (by kernel_rfl) (by kernel_rfl) (fun _ _ _ h=>h) (Or.inl ⟨by rfl,?hy2⟩) ?r2
  case hy2=>(intro w;go_simp;try with_reducible rfl)
  simp only[Act.put,List.setIfInBounds_toArray,List.set_cons_zero,List.set_cons_succ];refine wpAny_take (i:=3) (v:=?v3) rfl (by kernel_rfl) (by kernel_rfl) (by kernel_rfl) (fun _ _ _ h=>h) (Or.inl ⟨by rfl,?hy3⟩) ?r3
  case hy3=>(intro w;go_simp;try with_reducible rfl)
  simp only[Act.put,List.setIfInBounds_toArray,List.set_cons_zero,List.set_cons_succ];refine wpAny_take (i:=4) (v:=?v4) rfl (by kernel_rfl) (by kernel_rfl) (by kernel_rfl) (fun _ _ _ h=>h) (Or.inl ⟨by rfl,?hy4⟩) ?r4
  case hy4=>(intro w;go_simp;try with_reducible rfl)
  simp only[Act.put,List.setIfInBounds_toArray,List.set_cons_zero,List.set_cons_succ];refine wpAny_take (i:=5) (v:=?v5) rfl (by kernel_rfl) (by kernel_rfl) (by kernel_rfl) (fun _ _ _ h=>h) (Or.inl ⟨by rfl,?hy5⟩) ?r5
  case hy5=>(intro w;go_simp;try with_reducible rfl)
  simp only[Act.put,List.setIfInBounds_toArray,List.set_cons_zero,List.set_cons_succ];refine wpAny_take (i:=6) (v:=?v6) rfl (by kernel_rfl) (by kernel_rfl) (by kernel_rfl) (fun _ _ _ h=>h) (Or.inl ⟨by rfl,?hy6⟩) ?r6
  case hy6=>(intro w;go_simp;try with_reducible rfl)
  simp only[Act.put,List.setIfInBounds_toArray,List.set_cons_zero,List.set_cons_succ];refine wpAny_take (i:=7) (v:=?v7) rfl (by kernel_rfl) (by kernel_rfl) (by kernel_rfl) (fun _ _ _ h=>h) (Or.inl ⟨by rfl,?hy7⟩) ?r7
  case hy7=>(intro w;go_simp;try with_reducible rfl)
  simp only[Act.put,List.setIfInBounds_toArray,List.set_cons_zero,List.set_cons_succ];refine wpAny_take (i:=8) (v:=?v8) rfl (by kernel_rfl) (by kernel_rfl) (by kernel_rfl) (fun _ _ _ h=>h) (Or.inl ⟨by rfl,?hy8⟩) ?r8
  case hy8=>(intro w;go_simp;try with_reducible rfl)
  simp only[Act.put,List.setIfInBounds_toArray,List.set_cons_zero,List.set_cons_succ];refine wpAny_take (i:=10) (v:=?v10) rfl (by kernel_rfl) (by kernel_rfl) (by kernel_rfl) (fun _ _ _ h=>h) (Or.inl ⟨by rfl,?hy10⟩) ?r10
  case hy10=>(intro w;go_simp;try with_reducible rfl)
  simp only[Act.put,List.setIfInBounds_toArray,List.set_cons_zero,List.set_cons_succ];refine wpAny_take (i:=11) (v:=?v11) rfl (by kernel_rfl) (by kernel_rfl) (by kernel_rfl) (fun _ _ _ h=>h) (Or.inl ⟨by rfl,?hy11⟩) ?r11
  case hy11=>(intro w;go_simp;try with_reducible rfl)
  simp only[Act.put,List.setIfInBounds_toArray,List.set_cons_zero,List.set_cons_succ];refine wpAny_take (i:=12) (v:=?v12) rfl (by kernel_rfl) (by kernel_rfl) (by kernel_rfl) (fun _ _ _ h=>h) (Or.inl ⟨by rfl,?hy12⟩) ?r12
  case hy12=>(intro w;go_simp;try with_reducible rfl)
  simp only[Act.put,List.setIfInBounds_toArray,List.set_cons_zero,List.set_cons_succ];refine wpAny_take (i:=14) (v:=?v14) rfl (by kernel_rfl) (by kernel_rfl) (by kernel_rfl) (fun _ _ _ h=>h) (Or.inl ⟨by rfl,?hy14⟩) ?r14
  case hy14=>(intro w;go_simp;try with_reducible rfl)
  simp only[Act.put,List.setIfInBounds_toArray,List.set_cons_zero,List.set_cons_succ];refine wpAny_take (i:=15) (v:=?v15) rfl (by kernel_rfl) (by kernel_rfl) (by kernel_rfl) (fun _ _ _ h=>h) (Or.inl ⟨by rfl,?hy15⟩) ?r15
  case hy15=>(intro w;go_simp;try with_reducible rfl)
  simp only[Act.put,List.setIfInBounds_toArray,List.set_cons_zero,List.set_cons_succ];refine wpAny_take (i:=16) (v:=?v16) rfl (by kernel_rfl) (by kernel_rfl) (by kernel_rfl) (fun _ _ _ h=>h) (Or.inl ⟨by rfl,?hy16⟩) ?r16
  case hy16=>(intro w;go_simp;try with_reducible rfl)
  simp only[Act.put,List.setIfInBounds_toArray,List.set_cons_zero,List.set_cons_succ];refine wpAny_take (i:=18) (v:=?v18) rfl (by kernel_rfl) (by kernel_rfl) (by kernel_rfl) (fun _ _ _ h=>h) (Or.inl ⟨by rfl,?hy18⟩) ?r18
  case hy18=>(intro w;go_simp;try with_reducible rfl)
  simp only[Act.put,List.setIfInBounds_toArray,List.set_cons_zero,List.set_cons_succ];refine wpAny_take (i:=19) (v:=?v19) rfl (by kernel_rfl) (by kernel_rfl) (by kernel_rfl) (fun _ _ _ h=>h) (Or.inl ⟨by rfl,?hy19⟩) ?r19
  case hy19=>(intro w;go_simp;try with_reducible rfl)
  simp only[Act.put,List.setIfInBounds_toArray,List.set_cons_zero,List.set_cons_succ];refine wpAny_take (i:=20) (v:=?v20) rfl (by kernel_rfl) (by kernel_rfl) (by kernel_rfl) (fun _ _ _ h=>h) (Or.inl ⟨by rfl,?hy20⟩) ?r20
  case hy20=>(intro w;go_simp;try with_reducible rfl)
  simp only[Act.put,List.setIfInBounds_toArray,List.set_cons_zero,List.set_cons_succ];have jX:(fun w':World=>w'.cell? ⟨w.heap.size,k,none⟩=some (U (g k))∧w'.cell? ⟨w.heap.size,4+k,none⟩=some (U (g (4+k)))∧w'.cell? ⟨w.heap.size,8+k,none⟩=some (U (g (8+k)))∧w'.cell? ⟨w.heap.size,12+k,none⟩=some (U (g (12+k)))) wr.drew:=by
   refine⟨?_,?_,?_,?_⟩
   ·simpa using c0
   ·simpa using c1
   ·simpa using c2
   simpa using c3
  refine pV (S:=fun w':World=>w'.cell? ⟨w.heap.size,k,none⟩=some (U (g k))∧w'.cell? ⟨w.heap.size,4+k,none⟩=some (U (g (4+k)))∧w'.cell? ⟨w.heap.size,8+k,none⟩=some (U (g (8+k)))∧w'.cell? ⟨w.heap.size,12+k,none⟩=some (U (g (12+k)))) (c:=22) _ _ _ _ ?_;refine dN (i:=9) (v:=?v9) rfl rfl (by kernel_rfl) (by kernel_rfl) (by kernel_rfl) (by rfl) (by kernel_rfl) (fun _ _ _ h=>h) (Or.inl ⟨by rfl,?hy9⟩) jX ?r9
  case hy9=>(intro w hSw;obtain⟨s0,s1,s2,s3⟩:=hSw;go_simp;try with_reducible rfl)
  simp only[Act.put,List.setIfInBounds_toArray,List.set_cons_zero,List.set_cons_succ];refine dN (i:=13) (v:=?v13) rfl rfl (by kernel_rfl) (by kernel_rfl) (by kernel_rfl) (by rfl) (by kernel_rfl) (fun _ _ _ h=>h) (Or.inl ⟨by rfl,?hy13⟩) jX ?r13
  case hy13=>(intro w hSw;obtain⟨s0,s1,s2,s3⟩:=hSw;go_simp;try with_reducible rfl)
  simp only[Act.put,List.setIfInBounds_toArray,List.set_cons_zero,List.set_cons_succ];refine dN (i:=17) (v:=?v17) rfl rfl (by kernel_rfl) (by kernel_rfl) (by kernel_rfl) (by rfl) (by kernel_rfl) (fun _ _ _ h=>h) (Or.inl ⟨by rfl,?hy17⟩) jX ?r17
  case hy17=>(intro w hSw;obtain⟨s0,s1,s2,s3⟩:=hSw;go_simp;try with_reducible rfl)
  simp only[Act.put,List.setIfInBounds_toArray,List.set_cons_zero,List.set_cons_succ];refine dN (i:=21) (v:=?v21) rfl rfl (by kernel_rfl) (by kernel_rfl) (by kernel_rfl) (by rfl) (by kernel_rfl) (fun _ _ _ h=>h) (Or.inl ⟨by rfl,?hy21⟩) jX ?r21
  case hy21=>(intro w hSw;obtain⟨s0,s1,s2,s3⟩:=hSw;go_simp;try with_reducible rfl)
  simp only[Act.put,List.setIfInBounds_toArray,List.set_cons_zero,List.set_cons_succ];refine qQ (by kernel_rfl) ?_;clear jX;refine wpAny_ready (rs:=[22]) (by kernel_rfl) (by simp) (AllReady.cons rfl (fun K hK=>?_) AllReady.nil);go_simp
  refine(uC ⟨g k,g (4+k),g (8+k),g (12+k)⟩ _).mono ?_;rintro e w' ⟨rfl,rfl⟩;simp only[];refine hK _ _ ?_;clear hK K
  (try simp only[Act.put,List.setIfInBounds_toArray,List.set_cons_zero,List.set_cons_succ])
  generalize hq:kK _=q;have Hq:=(show Hid (kK ⟨g k,g (4+k),g (8+k),g (12+k)⟩=q) from hq)
  clear hq;refine wpAny_take (i:=23) (v:=?v23) rfl (by kernel_rfl) (by kernel_rfl) (by kernel_rfl) (fun _ _ _ h=>h) (Or.inl ⟨by rfl,?hy23⟩) ?r23
  case hy23=>(intro w;go_simp;try with_reducible rfl)
  simp only[Act.put,List.setIfInBounds_toArray,List.set_cons_zero,List.set_cons_succ];refine wpAny_take (i:=24) (v:=?v24) rfl (by kernel_rfl) (by kernel_rfl) (by kernel_rfl) (fun _ _ _ h=>h) (Or.inl ⟨by rfl,?hy24⟩) ?r24
  case hy24=>(intro w;go_simp;try with_reducible rfl)
  simp only[Act.put,List.setIfInBounds_toArray,List.set_cons_zero,List.set_cons_succ];refine wpAny_take (i:=25) (v:=?v25) rfl (by kernel_rfl) (by kernel_rfl) (by kernel_rfl) (fun _ _ _ h=>h) (Or.inl ⟨by rfl,?hy25⟩) ?r25
  case hy25=>(intro w;go_simp;try with_reducible rfl)
  simp only[Act.put,List.setIfInBounds_toArray,List.set_cons_zero,List.set_cons_succ];refine wpAny_take (i:=26) (v:=?v26) rfl (by kernel_rfl) (by kernel_rfl) (by kernel_rfl) (fun _ _ _ h=>h) (Or.inl ⟨by rfl,?hy26⟩) ?r26
  case hy26=>(intro w;go_simp;try with_reducible rfl)
  simp only[Act.put,List.setIfInBounds_toArray,List.set_cons_zero,List.set_cons_succ];refine wpAny_take (i:=27) (v:=?v27) rfl (by kernel_rfl) (by kernel_rfl) (by kernel_rfl) (fun _ _ _ h=>h) (Or.inl ⟨by rfl,?hy27⟩) ?r27
  case hy27=>(intro w;go_simp;try with_reducible rfl)
  simp only[Act.put,List.setIfInBounds_toArray,List.set_cons_zero,List.set_cons_succ];refine wpAny_take (i:=28) (v:=?v28) rfl (by kernel_rfl) (by kernel_rfl) (by kernel_rfl) (fun _ _ _ h=>h) (Or.inl ⟨by rfl,?hy28⟩) ?r28
  case hy28=>(intro w;go_simp;try with_reducible rfl)
  simp only[Act.put,List.setIfInBounds_toArray,List.set_cons_zero,List.set_cons_succ];refine wpAny_ready (rs:=[29]) (by kernel_rfl) (by simp) (AllReady.cons rfl (fun K hK=>?_) AllReady.nil);go_simp
  refine hK _ _ ?_;clear hK K
  (try simp only[Act.put,List.setIfInBounds_toArray,List.set_cons_zero,List.set_cons_succ])
  refine wpAny_take (i:=30) (v:=?v30) rfl (by kernel_rfl) (by kernel_rfl) (by kernel_rfl) (fun _ _ _ h=>h) (Or.inl ⟨by rfl,?hy30⟩) ?r30
  case hy30=>(intro w;go_simp;try with_reducible rfl)
  simp only[Act.put,List.setIfInBounds_toArray,List.set_cons_zero,List.set_cons_succ];refine wpAny_ready (rs:=[31]) (by kernel_rfl) (by simp) (AllReady.cons rfl (fun K hK=>?_) AllReady.nil);go_simp
  refine hK _ _ ?_;clear hK K
  (try simp only[Act.put,List.setIfInBounds_toArray,List.set_cons_zero,List.set_cons_succ])
  refine wpAny_take (i:=32) (v:=?v32) rfl (by kernel_rfl) (by kernel_rfl) (by kernel_rfl) (fun _ _ _ h=>h) (Or.inl ⟨by rfl,?hy32⟩) ?r32
  case hy32=>(intro w;go_simp;try with_reducible rfl)
  simp only[Act.put,List.setIfInBounds_toArray,List.set_cons_zero,List.set_cons_succ];refine wpAny_ready (rs:=[33]) (by kernel_rfl) (by simp) (AllReady.cons rfl (fun K hK=>?_) AllReady.nil);go_simp
  refine hK _ _ ?_;clear hK K
  (try simp only[Act.put,List.setIfInBounds_toArray,List.set_cons_zero,List.set_cons_succ])
  refine wpAny_take (i:=34) (v:=?v34) rfl (by kernel_rfl) (by kernel_rfl) (by kernel_rfl) (fun _ _ _ h=>h) (Or.inl ⟨by rfl,?hy34⟩) ?r34
  case hy34=>(intro w;go_simp;try with_reducible rfl)
  simp only[Act.put,List.setIfInBounds_toArray,List.set_cons_zero,List.set_cons_succ];refine wpAny_ready (rs:=[35]) (by kernel_rfl) (by simp) (AllReady.cons rfl (fun K hK=>?_) AllReady.nil);go_simp
  refine hK _ _ ?_;clear hK K
  (try simp only[Act.put,List.setIfInBounds_toArray,List.set_cons_zero,List.set_cons_succ])
  refine wpAny_done (by kernel_rfl) ?_ _;go_wp2_with fail
  go_roundw
  case rel=>
   have h4:=HA.out.CL k (4+k) (8+k) (12+k) (by omega) (by omega) (by omega) (by omega) q;have e4:bA _ w.heap.size 0 16 (dB 0 f (k+1)):=h4.congr (fun j hj=>by rw[←Hst.out j hj,←Hq.out]);exact⟨k+1,by omega,by go_num,e4.since (Since.refl _).drew,((((HB.out.other (by simp) _).other (by simp) _).other (by simp) _).other (by simp) _).since (Since.refl _).drew,((((HS.out.setCell (Nat.le_refl _) _).setCell (Nat.le_refl _) _).setCell (Nat.le_refl _) _).setCell (Nat.le_refl _) _).drew⟩
  case measure=>simp[intOf];omega
 have hke:k=4:=by omega
 subst hke;have hA3:bA wr w.heap.size 0 16 (vM 0 f):=hA.congr (fun j hj=>wG 0 f j);have AU:=hA3.range;have hst:=hB.store Tryz.prog (vM 0 f);have hL:(row 16 (vM 0 f)).length=16:=aC _ _;clear hA;go_wp2_with (refine wpList_load_mid (by rfl) 202 _ (by rfl) w.heap.size 0 (by rfl) _ _ AU Tryz.underlying202 (by rfl) (by rw[aC];kernel_rfl) ?_)
 exact bodyPost_ret (aQ Tryz.results213 _ _ _ (w.heap.size+1) _ _ (by rfl) (hB.setRow (vM 0 f)).range Tryz.underlying202 (by rfl) (by rw[aC];kernel_rfl)) rfl ⟨rfl,hS.setCells (by omega) _ _⟩
set_option maxHeartbeats 4000000 in
set_option maxRecDepth 100000 in
theorem yU (f:Nat→BitVec 32) (w:World) :
  Calls Tryz.prog 212 #[.agg (row 16 f).toArray] w fun e w'=>e=.returned (.agg (row 16 (vM 1 f)).toArray)∧Since w w':=by
 have er:(row 16 f).toArray=#[U (f 0),U (f 1),U (f 2),U (f 3),U (f 4),U (f 5),U (f 6),U (f 7),U (f 8),U (f 9),U (f 10),U (f 11),U (f 12),U (f 13),U (f 14),U (f 15)]:=rfl;rw[er];clear er;go_enter Tryz.func212,Tryz.ntmps212
 go_wp2_with fail
 go_loopw [7] (fun i wr=>∃k:Nat,k≤4∧i=.int .i64 k∧bA wr w.heap.size 0 16 (dB 1 f k)∧bA wr (w.heap.size+1) 0 16 (fun _=>0)∧Since w wr) (fun i _=>4-(intOf i).toNat)
 case atStart=>
  exact⟨0,by omega,rfl,(bA.new w 16 f _ _ (by rfl) _ rfl).alloc _,bA.new (w.alloc _) 16 _ _ _ (by rfl) _ (by simp),((Since.refl _).alloc _).alloc _⟩
 obtain⟨k,hk,rfl,hA,hB,hS⟩:=hrel;by_cases hlt:k<4
 ·obtain⟨p1,hp1⟩:∃p1,p1=(k+1) % 4:=⟨_,rfl⟩
  obtain⟨p2,hp2⟩:∃p2,p2=(k+2) % 4:=⟨_,rfl⟩
  obtain⟨p3,hp3⟩:∃p3,p3=(k+3) % 4:=⟨_,rfl⟩
  have x1:((k:Int)+1) % 4=p1:=by omega
  have x2:((k:Int)+2) % 4=p2:=by omega
  have x3:((k:Int)+3) % 4=p3:=by omega
  have l1:p1<4:=by omega
  have l2:p2<4:=by omega
  have l3:p3<4:=by omega
  have HP:=(show Hid (p1=(k+1) % 4∧p2=(k+2) % 4∧p3=(k+3) % 4) from ⟨hp1,hp2,hp3⟩)
  have t1:((4:Int)+p1).toNat=4+p1:=by omega
  have t2:((8:Int)+p2).toNat=8+p2:=by omega
  have t3:((12:Int)+p3).toNat=12+p3:=by omega
  have b0:(k:Int)<16:=by omega
  have b1:(4:Int)+p1<16:=by omega
  have b2:(8:Int)+p2<16:=by omega
  have b3:(12:Int)+p3<16:=by omega
  have v1:IntKind.i64.wrap ((4:Int)+p1)=4+p1:=by simp[IntKind.wrap,IntKind.bits,IntKind.signed];omega
  have v2:IntKind.i64.wrap ((8:Int)+p2)=8+p2:=by simp[IntKind.wrap,IntKind.bits,IntKind.signed];omega
  have v3:IntKind.i64.wrap ((12:Int)+p3)=12+p3:=by simp[IntKind.wrap,IntKind.bits,IntKind.signed];omega
  have z1:(0:Int)≤4+p1:=by omega
  have z2:(0:Int)≤8+p2:=by omega
  have z3:(0:Int)≤12+p3:=by omega
  have c0:=hA.cell k (by omega);have c1:=hA.cell (4+p1) (by omega);have c2:=hA.cell (8+p2) (by omega);have c3:=hA.cell (12+p3) (by omega);have f0:=hA.frozen k (by omega);have f1:=hA.frozen (4+p1) (by omega);have f2:=hA.frozen (8+p2) (by omega);have f3:=hA.frozen (12+p3) (by omega);rw[Nat.zero_add] at c0 c1 c2 c3 f0 f1 f2 f3;have HA:=(show Hid (bA wr w.heap.size 0 16 (dB 1 f k)) from hA)
  have HB:=(show Hid (bA wr (w.heap.size+1) 0 16 (fun _=>0)) from hB)
  have HS:=(show Hid (Since w wr) from hS)
  have HK:=(show Hid (k≤4) from hk)
  have Hst:=(show Hid (∀j,j<16→CL (dB 1 f k) k (4+p1) (8+p2) (12+p3) (kK ⟨dB 1 f k k,dB 1 f k (4+p1),dB 1 f k (8+p2),dB 1 f k (12+p3)⟩) j=dB 1 f (k+1) j) from fun j hj=>by
    have h:=CO 1 f (by omega) k hlt j hj;unfold four at h;rw[show (k+1) % 4=p1 by omega,show (k+2*1) % 4=p2 by omega,show (k+3*1) % 4=p3 by omega] at h;exact h)
  clear hA hB hS hk hp1 hp2 hp3;go_wp2_with fail
  generalize hg:dB 1 f k=g at *;clear hg;refine wp_region_any (by kernel_rfl) ?_;refine wpAny_take (i:=0) (v:=?v0) rfl (by kernel_rfl) (by kernel_rfl) (by kernel_rfl) (fun _ _ _ h=>h) (Or.inl ⟨by rfl,?hy0⟩) ?r0
  case hy0=>(intro w;go_simp;try with_reducible rfl)
  simp only[Act.put,List.setIfInBounds_toArray,List.set_cons_zero,List.set_cons_succ];refine wpAny_take (i:=1) (v:=?v1) rfl (by kernel_rfl) (by kernel_rfl) (by kernel_rfl) (fun _ _ _ h=>h) (Or.inl ⟨by rfl,?hy1⟩) ?r1
  case hy1=>(intro w;go_simp;try with_reducible rfl)
  simp only[Act.put,List.setIfInBounds_toArray,List.set_cons_zero,List.set_cons_succ];refine wpAny_take (i:=2) (v:=?v2) rfl (by kernel_rfl) (by kernel_rfl) (by kernel_rfl) (fun _ _ _ h=>h) (Or.inl ⟨by rfl,?hy2⟩) ?r2
  case hy2=>(intro w;go_simp;try with_reducible rfl)
  simp only[Act.put,List.setIfInBounds_toArray,List.set_cons_zero,List.set_cons_succ];refine wpAny_take (i:=3) (v:=?v3) rfl (by kernel_rfl) (by kernel_rfl) (by kernel_rfl) (fun _ _ _ h=>h) (Or.inl ⟨by rfl,?hy3⟩) ?r3
  case hy3=>(intro w;go_simp;try with_reducible rfl)
  simp only[Act.put,List.setIfInBounds_toArray,List.set_cons_zero,List.set_cons_succ];refine wpAny_take (i:=4) (v:=?v4) rfl (by kernel_rfl) (by kernel_rfl) (by kernel_rfl) (fun _ _ _ h=>h) (Or.inl ⟨by rfl,?hy4⟩) ?r4
  case hy4=>(intro w;go_simp;try with_reducible rfl)
  simp only[Act.put,List.setIfInBounds_toArray,List.set_cons_zero,List.set_cons_succ];refine wpAny_take (i:=5) (v:=?v5) rfl (by kernel_rfl) (by kernel_rfl) (by kernel_rfl) (fun _ _ _ h=>h) (Or.inl ⟨by rfl,?hy5⟩) ?r5
  case hy5=>(intro w;go_simp;try with_reducible rfl)
  simp only[Act.put,List.setIfInBounds_toArray,List.set_cons_zero,List.set_cons_succ];refine wpAny_take (i:=7) (v:=?v7) rfl (by kernel_rfl) (by kernel_rfl) (by kernel_rfl) (fun _ _ _ h=>h) (Or.inl ⟨by rfl,?hy7⟩) ?r7
  case hy7=>(intro w;go_simp;try with_reducible rfl)
  simp only[Act.put,List.setIfInBounds_toArray,List.set_cons_zero,List.set_cons_succ];refine wpAny_take (i:=8) (v:=?v8) rfl (by kernel_rfl) (by kernel_rfl) (by kernel_rfl) (fun _ _ _ h=>h) (Or.inl ⟨by rfl,?hy8⟩) ?r8
  case hy8=>(intro w;go_simp;try with_reducible rfl)
  simp only[Act.put,List.setIfInBounds_toArray,List.set_cons_zero,List.set_cons_succ];refine wpAny_take (i:=10) (v:=?v10) rfl (by kernel_rfl) (by kernel_rfl) (by kernel_rfl) (fun _ _ _ h=>h) (Or.inl ⟨by rfl,?hy10⟩) ?r10
  case hy10=>(intro w;go_simp;try with_reducible rfl)
  simp only[Act.put,List.setIfInBounds_toArray,List.set_cons_zero,List.set_cons_succ];refine wpAny_take (i:=11) (v:=?v11) rfl (by kernel_rfl) (by kernel_rfl) (by kernel_rfl) (fun _ _ _ h=>h) (Or.inl ⟨by rfl,?hy11⟩) ?r11
  case hy11=>(intro w;go_simp;try with_reducible rfl)
  simp only[Act.put,List.setIfInBounds_toArray,List.set_cons_zero,List.set_cons_succ];refine wpAny_take (i:=13) (v:=?v13) rfl (by kernel_rfl) (by kernel_rfl) (by kernel_rfl) (fun _ _ _ h=>h) (Or.inl ⟨by rfl,?hy13⟩) ?r13
  case hy13=>(intro w;go_simp;try with_reducible rfl)
  simp only[Act.put,List.setIfInBounds_toArray,List.set_cons_zero,List.set_cons_succ];refine wpAny_take (i:=14) (v:=?v14) rfl (by kernel_rfl) (by kernel_rfl) (by kernel_rfl) (fun _ _ _ h=>h) (Or.inl ⟨by rfl,?hy14⟩) ?r14
  case hy14=>(intro w;go_simp;try with_reducible rfl)
  simp only[Act.put,List.setIfInBounds_toArray,List.set_cons_zero,List.set_cons_succ];have jX:(fun w':World=>w'.cell? ⟨w.heap.size,k,none⟩=some (U (g k))∧w'.cell? ⟨w.heap.size,4+p1,none⟩=some (U (g (4+p1)))∧w'.cell? ⟨w.heap.size,8+p2,none⟩=some (U (g (8+p2)))∧w'.cell? ⟨w.heap.size,12+p3,none⟩=some (U (g (12+p3)))) wr.drew:=by
   refine⟨?_,?_,?_,?_⟩
   ·simpa using c0
   ·simpa using c1
   ·simpa using c2
   simpa using c3
  refine pV (S:=fun w':World=>w'.cell? ⟨w.heap.size,k,none⟩=some (U (g k))∧w'.cell? ⟨w.heap.size,4+p1,none⟩=some (U (g (4+p1)))∧w'.cell? ⟨w.heap.size,8+p2,none⟩=some (U (g (8+p2)))∧w'.cell? ⟨w.heap.size,12+p3,none⟩=some (U (g (12+p3)))) (c:=16) _ _ _ _ ?_;refine dN (i:=6) (v:=?v6) rfl rfl (by kernel_rfl) (by kernel_rfl) (by kernel_rfl) (by rfl) (by kernel_rfl) (fun _ _ _ h=>h) (Or.inl ⟨by rfl,?hy6⟩) jX ?r6
  case hy6=>(intro w hSw;obtain⟨s0,s1,s2,s3⟩:=hSw;go_simp;try with_reducible rfl)
  simp only[Act.put,List.setIfInBounds_toArray,List.set_cons_zero,List.set_cons_succ];refine dN (i:=9) (v:=?v9) rfl rfl (by kernel_rfl) (by kernel_rfl) (by kernel_rfl) (by rfl) (by kernel_rfl) (fun _ _ _ h=>h) (Or.inl ⟨by rfl,?hy9⟩) jX ?r9
  case hy9=>(intro w hSw;obtain⟨s0,s1,s2,s3⟩:=hSw;go_simp;try with_reducible rfl)
  simp only[Act.put,List.setIfInBounds_toArray,List.set_cons_zero,List.set_cons_succ];refine dN (i:=12) (v:=?v12) rfl rfl (by kernel_rfl) (by kernel_rfl) (by kernel_rfl) (by rfl) (by kernel_rfl) (fun _ _ _ h=>h) (Or.inl ⟨by rfl,?hy12⟩) jX ?r12
  case hy12=>(intro w hSw;obtain⟨s0,s1,s2,s3⟩:=hSw;go_simp;try with_reducible rfl)
  simp only[Act.put,List.setIfInBounds_toArray,List.set_cons_zero,List.set_cons_succ];refine dN (i:=15) (v:=?v15) rfl rfl (by kernel_rfl) (by kernel_rfl) (by kernel_rfl) (by rfl) (by kernel_rfl) (fun _ _ _ h=>h) (Or.inl ⟨by rfl,?hy15⟩) jX ?r15
  case hy15=>(intro w hSw;obtain⟨s0,s1,s2,s3⟩:=hSw;go_simp;try with_reducible rfl)
  simp only[Act.put,List.setIfInBounds_toArray,List.set_cons_zero,List.set_cons_succ];refine qQ (by kernel_rfl) ?_;clear jX;refine wpAny_ready (rs:=[16]) (by kernel_rfl) (by simp) (AllReady.cons rfl (fun K hK=>?_) AllReady.nil);go_simp
  refine(uC ⟨g k,g (4+p1),g (8+p2),g (12+p3)⟩ _).mono ?_;rintro e w' ⟨rfl,rfl⟩;simp only[];refine hK _ _ ?_;clear hK K
  (try simp only[Act.put,List.setIfInBounds_toArray,List.set_cons_zero,List.set_cons_succ])
  generalize hq:kK _=q;have Hq:=(show Hid (kK ⟨g k,g (4+p1),g (8+p2),g (12+p3)⟩=q) from hq)
  clear hq;refine wpAny_take (i:=17) (v:=?v17) rfl (by kernel_rfl) (by kernel_rfl) (by kernel_rfl) (fun _ _ _ h=>h) (Or.inl ⟨by rfl,?hy17⟩) ?r17
  case hy17=>(intro w;go_simp;try with_reducible rfl)
  simp only[Act.put,List.setIfInBounds_toArray,List.set_cons_zero,List.set_cons_succ];refine wpAny_take (i:=18) (v:=?v18) rfl (by kernel_rfl) (by kernel_rfl) (by kernel_rfl) (fun _ _ _ h=>h) (Or.inl ⟨by rfl,?hy18⟩) ?r18
  case hy18=>(intro w;go_simp;try with_reducible rfl)
  simp only[Act.put,List.setIfInBounds_toArray,List.set_cons_zero,List.set_cons_succ];refine wpAny_take (i:=19) (v:=?v19) rfl (by kernel_rfl) (by kernel_rfl) (by kernel_rfl) (fun _ _ _ h=>h) (Or.inl ⟨by rfl,?hy19⟩) ?r19
  case hy19=>(intro w;go_simp;try with_reducible rfl)
  simp only[Act.put,List.setIfInBounds_toArray,List.set_cons_zero,List.set_cons_succ];refine wpAny_take (i:=20) (v:=?v20) rfl (by kernel_rfl) (by kernel_rfl) (by kernel_rfl) (fun _ _ _ h=>h) (Or.inl ⟨by rfl,?hy20⟩) ?r20
  case hy20=>(intro w;go_simp;try with_reducible rfl)
  simp only[Act.put,List.setIfInBounds_toArray,List.set_cons_zero,List.set_cons_succ];refine wpAny_take (i:=21) (v:=?v21) rfl (by kernel_rfl) (by kernel_rfl) (by kernel_rfl) (fun _ _ _ h=>h) (Or.inl ⟨by rfl,?hy21⟩) ?r21
  case hy21=>(intro w;go_simp;try with_reducible rfl)
  simp only[Act.put,List.setIfInBounds_toArray,List.set_cons_zero,List.set_cons_succ];refine wpAny_take (i:=22) (v:=?v22) rfl (by kernel_rfl) (by kernel_rfl) (by kernel_rfl) (fun _ _ _ h=>h) (Or.inl ⟨by rfl,?hy22⟩) ?r22
  case hy22=>(intro w;go_simp;try with_reducible rfl)
  simp only[Act.put,List.setIfInBounds_toArray,List.set_cons_zero,List.set_cons_succ];refine wpAny_ready (rs:=[23]) (by kernel_rfl) (by simp) (AllReady.cons rfl (fun K hK=>?_) AllReady.nil);go_simp
  refine hK _ _ ?_;clear hK K
  (try simp only[Act.put,List.setIfInBounds_toArray,List.set_cons_zero,List.set_cons_succ])
  refine wpAny_take (i:=24) (v:=?v24) rfl (by kernel_rfl) (by kernel_rfl) (by kernel_rfl) (fun _ _ _ h=>h) (Or.inl ⟨by rfl,?hy24⟩) ?r24
  case hy24=>(intro w;go_simp;try with_reducible rfl)
  simp only[Act.put,List.setIfInBounds_toArray,List.set_cons_zero,List.set_cons_succ];refine wpAny_ready (rs:=[25]) (by kernel_rfl) (by simp) (AllReady.cons rfl (fun K hK=>?_) AllReady.nil);go_simp
  refine hK _ _ ?_;clear hK K
  (try simp only[Act.put,List.setIfInBounds_toArray,List.set_cons_zero,List.set_cons_succ])
  refine wpAny_take (i:=26) (v:=?v26) rfl (by kernel_rfl) (by kernel_rfl) (by kernel_rfl) (fun _ _ _ h=>h) (Or.inl ⟨by rfl,?hy26⟩) ?r26
  case hy26=>(intro w;go_simp;try with_reducible rfl)
  simp only[Act.put,List.setIfInBounds_toArray,List.set_cons_zero,List.set_cons_succ];refine wpAny_ready (rs:=[27]) (by kernel_rfl) (by simp) (AllReady.cons rfl (fun K hK=>?_) AllReady.nil);go_simp
  refine hK _ _ ?_;clear hK K
  (try simp only[Act.put,List.setIfInBounds_toArray,List.set_cons_zero,List.set_cons_succ])
  refine wpAny_take (i:=28) (v:=?v28) rfl (by kernel_rfl) (by kernel_rfl) (by kernel_rfl) (fun _ _ _ h=>h) (Or.inl ⟨by rfl,?hy28⟩) ?r28
  case hy28=>(intro w;go_simp;try with_reducible rfl)
  simp only[Act.put,List.setIfInBounds_toArray,List.set_cons_zero,List.set_cons_succ];refine wpAny_ready (rs:=[29]) (by kernel_rfl) (by simp) (AllReady.cons rfl (fun K hK=>?_) AllReady.nil);go_simp
  refine hK _ _ ?_;clear hK K
  (try simp only[Act.put,List.setIfInBounds_toArray,List.set_cons_zero,List.set_cons_succ])
  refine wpAny_done (by kernel_rfl) ?_ _;go_wp2_with fail
  go_roundw
  case rel=>
   have h4:=HA.out.CL k (4+p1) (8+p2) (12+p3) (by omega) (by omega) (by omega) (by omega) q;have e4:bA _ w.heap.size 0 16 (dB 1 f (k+1)):=h4.congr (fun j hj=>by rw[←Hst.out j hj,←Hq.out]);exact⟨k+1,by omega,by go_num,e4.since (Since.refl _).drew,((((HB.out.other (by simp) _).other (by simp) _).other (by simp) _).other (by simp) _).since (Since.refl _).drew,((((HS.out.setCell (Nat.le_refl _) _).setCell (Nat.le_refl _) _).setCell (Nat.le_refl _) _).setCell (Nat.le_refl _) _).drew⟩
  case measure=>simp[intOf];omega
 have hke:k=4:=by omega
 subst hke;have hA3:bA wr w.heap.size 0 16 (vM 1 f):=hA.congr (fun j hj=>wG 1 f j);have AU:=hA3.range;have hst:=hB.store Tryz.prog (vM 1 f);have hL:(row 16 (vM 1 f)).length=16:=aC _ _;clear hA;go_wp2_with (refine wpList_load_mid (by rfl) 202 _ (by rfl) w.heap.size 0 (by rfl) _ _ AU Tryz.underlying202 (by rfl) (by rw[aC];kernel_rfl) ?_)
 exact bodyPost_ret (aQ Tryz.results212 _ _ _ (w.heap.size+1) _ _ (by rfl) (hB.setRow (vM 1 f)).range Tryz.underlying202 (by rfl) (by rw[aC];kernel_rfl)) rfl ⟨rfl,hS.setCells (by omega) _ _⟩
end Sm.Sr
end Go.Proofs.YtmhcfaaggkidjaaGreatDoor
end
section
namespace Go.Proofs.YtmhcfaaggkidjaaGreatDoor
set_option maxRecDepth 100000
namespace Sm.Sr
open Go.RowKit
attribute [local go_sem] jr fO jw jy pK jA jB jC fP fQ dU fo bI fe dE
def uD (f g:Nat→BitVec 32) (k:Nat):Nat→BitVec 32:=fun j=>if j<k then g j+f j else g j
theorem NV (f g:Nat→BitVec 32) (k j:Nat):upd (uD f g k) k (g k+f k) j=uD f g (k+1) j:=by
 unfold upd uD;by_cases e:j=k
 ·subst e;rw[if_pos rfl,if_pos (by omega)]
 rw[if_neg e];by_cases h:j<k
 ·rw[if_pos h,if_pos (by omega)]
 rw[if_neg h,if_neg (by omega)]
set_option maxHeartbeats 1000000 in
set_option maxRecDepth 100000 in
theorem zG (f:Nat→BitVec 32) (w:World) :
  Calls Tryz.prog 160 #[.agg (row 16 f).toArray] w fun e w'=>e=.returned (.agg (row 16 (mQ f)).toArray)∧Since w w':=by
 have er:(row 16 f).toArray=#[U (f 0),U (f 1),U (f 2),U (f 3),U (f 4),U (f 5),U (f 6),U (f 7),U (f 8),U (f 9),U (f 10),U (f 11),U (f 12),U (f 13),U (f 14),U (f 15)]:=rfl;rw[er];clear er;go_enter Tryz.func160,Tryz.ntmps160
 go_wp2_with fail
 go_loopw [6] (fun i wr=>∃k:Nat,k≤10∧i=.int .i64 k∧bA wr w.heap.size 0 16 f∧bA wr (w.heap.size+1) 0 16 (fun _=>0)∧bA wr (w.heap.size+2) 0 16 (CJ f k)∧Since w wr) (fun i _=>10-(intOf i).toNat)
 case atStart=>
  exact⟨0,by omega,rfl,((bA.new w 16 f _ _ (by rfl) _ rfl).alloc _).alloc _,(bA.new (w.alloc _) 16 _ _ _ (by rfl) _ (by simp)).alloc _,bA.new ((w.alloc _).alloc _) 16 f _ _ (by rfl) _ (by simp),(((Since.refl _).alloc _).alloc _).alloc _⟩
 obtain⟨k,hk,rfl,hF,hR,hA,hS⟩:=hrel;by_cases hlt:k<10
 ·generalize hg:CJ f k=g at *;have HG:=(show Hid (CJ f k=g) from hg)
  clear hg;have HF:=(show Hid (bA wr w.heap.size 0 16 f) from hF)
  have HR:=(show Hid (bA wr (w.heap.size+1) 0 16 (fun _=>0)) from hR)
  clear hF hR;have AU:=hA.range;go_wp2_with (refine wpList_load_mid (by rfl) 202 _ (by rfl) (w.heap.size+2) 0 (by rfl) _ _ AU Tryz.underlying202 (by rfl) (by rw[aC];kernel_rfl) ?_)
  refine(CP g _).mono ?_;rintro e w1 ⟨rfl,h1⟩;go_wp2_with fail
  refine(yU (vM 0 g) _).mono ?_;rintro e w2 ⟨rfl,h2⟩;have h12:=h1.trans h2;have hst:=(hA.since h12).store Tryz.prog (vM 1 (vM 0 g));have hL:(row 16 (vM 1 (vM 0 g))).length=16:=aC _ _;go_wp2_with fail
  refine⟨⟨k+1,by omega,by go_num,?_,?_,?_,?_⟩,by simp[intOf];omega⟩
  ·exact(HF.out.since h12).setRow_other _ (by omega)
  ·exact(HR.out.since h12).setRow_other _ (by omega)
  ·have e1:CJ f (k+1)=vM 1 (vM 0 g):=by rw[←HG.out];rfl
   rw[e1];exact(hA.since h12).setRow _
  exact(hS.trans h12).setCells (by omega) _ _
 have hke:k=10:=by omega
 subst hke;generalize hg:CJ f 10=g at *;have HG:=(show Hid (CJ f 10=g) from hg)
 clear hg;go_wp2_with fail
 go_loopw [12] (fun i wr=>∃k:Nat,k≤16∧i=.int .i64 k∧bA wr w.heap.size 0 16 f∧bA wr (w.heap.size+1) 0 16 (fun _=>0)∧bA wr (w.heap.size+2) 0 16 (uD f g k)∧Since w wr) (fun i _=>16-(intOf i).toNat)
 case atStart=>exact⟨0,by omega,rfl,hF,hR,hA.congr (fun j _=>rfl),hS⟩
 obtain⟨k,hk2,rfl,hF2,hR2,hA2,hS2⟩:=hrel;by_cases hlt2:k<16
 ·have c0:=hF2.cell k (by omega);have c1:=hA2.cell k (by omega);have f1:=hA2.frozen k (by omega);rw[Nat.zero_add] at c0 c1 f1;have e0:uD f g k k=g k:=by unfold uD;rw[if_neg (by omega)]
  rw[e0] at c1;clear e0;have oN:=(show Hid (bA wr w.heap.size 0 16 f) from hF2)
  have HR2:=(show Hid (bA wr (w.heap.size+1) 0 16 (fun _=>0)) from hR2)
  have HA2:=(show Hid (bA wr (w.heap.size+2) 0 16 (uD f g k)) from hA2)
  have HS2:=(show Hid (Since w wr) from hS2)
  clear hF hR hA hF2 hR2 hA2 hS2;go_wp2_with fail
  go_region
  all_goals
   go_wp2_with fail
   go_roundw
   case rel=>
    have h3:=HA2.out.set k hlt2 (g k+f k);rw[Nat.zero_add] at h3;exact⟨k+1,by omega,by go_num,(oN.out.other (by simp;omega) _).since (Since.refl _).drew,(HR2.out.other (by simp) _).since (Since.refl _).drew,(h3.congr (fun j _=>NV f g k j)).since (Since.refl _).drew,(HS2.out.setCell (by simp;omega) _).drew⟩
   case measure=>simp[intOf];omega
 have hke:k=16:=by omega
 subst hke;have hA3:bA wr (w.heap.size+2) 0 16 (mQ f):=hA2.congr (fun j hj=>by unfold uD mQ;rw[if_pos hj,HG.out]);have AU:=hA3.range;have hst:=hR2.store Tryz.prog (mQ f);have hL:(row 16 (mQ f)).length=16:=aC _ _;go_wp2_with (refine wpList_load_mid (by rfl) 202 _ (by rfl) (w.heap.size+2) 0 (by rfl) _ _ AU Tryz.underlying202 (by rfl) (by rw[aC];kernel_rfl) ?_)
 exact bodyPost_ret (aQ Tryz.results160 _ _ _ (w.heap.size+1) _ _ (by rfl) (hR2.setRow (mQ f)).range Tryz.underlying202 (by rfl) (by rw[aC];kernel_rfl)) rfl ⟨rfl,hS2.setCells (by omega) _ _⟩
end Sm.Sr
end Go.Proofs.YtmhcfaaggkidjaaGreatDoor
end
section
namespace Go.Proofs.YtmhcfaaggkidjaaGreatDoor
set_option maxRecDepth 100000
namespace Sm.Sr
open Go.RowKit
attribute [local go_sem] jr fO jw jy pK jA jB jC fP fQ dU fo bI fe dE
theorem gK (s:ByteArray) (a b i:Nat) (h:i<(s.extract a b).size) (hb:b≤s.size):(s.extract a b)[i]=bJ s (a+i):=by
 have h2:a+i<s.size:=by simp[ByteArray.size_extract] at h;omega
 unfold bJ;rw[ByteArray.getElem_extract];rw[List.getD_eq_getElem?_getD,List.getElem?_eq_getElem (by simpa using h2)]
 rfl
theorem CQ (s:ByteArray) (k e:Nat) (he:e≤s.size) (h0:0<(s.extract (4*k) e).size) (h1:1<(s.extract (4*k) e).size) (h2:2<(s.extract (4*k) e).size) (h3:3<(s.extract (4*k) e).size) :
  wC (s.extract (4*k) e)[0] (s.extract (4*k) e)[1] (s.extract (4*k) e)[2] (s.extract (4*k) e)[3]=eP s k:=by
 unfold eP;rw[gK s _ _ _ _ (by omega),gK s _ _ _ _ (by omega),gK s _ _ _ _ (by omega),gK s _ _ _ _ (by omega),Nat.add_zero]
def uF (key:ByteArray) (k:Nat):Nat→BitVec 32:=fun j=>
 if j=0 then 1634760805#32 else if j=1 then 857760878#32 else if j=2 then 2036477234#32 else if j=3 then 1797285236#32
 else if j<4+k then eP key (j-4) else 0
def uG (key ai:ByteArray) (k:Nat):Nat→BitVec 32:=fun j=>if j<13 then uF key 8 j else if j<13+k then eP ai (j-13) else 0
theorem NW (key:ByteArray) (k j:Nat):upd (uF key k) (4+k) (eP key k) j=uF key (k+1) j:=by
 unfold upd uF;by_cases e:j=4+k
 ·subst e;rw[if_pos rfl,if_neg (by omega),if_neg (by omega),if_neg (by omega),if_neg (by omega),if_pos (by omega),show 4+k-4=k by omega]
 rw[if_neg e];by_cases h:j<4+k
 ·rw[if_pos h,if_pos (show j<4+(k+1) by omega)]
 rw[if_neg h,if_neg (show ¬j<4+(k+1) by omega)]
theorem NY (key ai:ByteArray) (k j:Nat):upd (uG key ai k) (13+k) (eP ai k) j=uG key ai (k+1) j:=by
 unfold upd uG;by_cases e:j=13+k
 ·subst e;rw[if_pos rfl,if_neg (by omega),if_pos (by omega),show 13+k-13=k by omega]
 rw[if_neg e];by_cases h:j<13+k
 ·rw[if_pos h,if_pos (show j<13+(k+1) by omega)]
 rw[if_neg h,if_neg (show ¬j<13+(k+1) by omega)]
theorem NZ (key ai:ByteArray) (j:Nat) (hj:j<16):uG key ai 3 j=bU key ai 0#32 j:=by
 unfold uG uF bU;by_cases h:j<13
 ·rw[if_pos h];by_cases h12:j<12
  ·rw[if_pos (show j<4+8 by omega),if_pos h12]
  rw[if_neg (show ¬j<4+8 by omega),if_neg h12,if_pos (show j=12 by omega)];rfl
 rw[if_neg h,if_pos (by omega),if_neg (by omega),if_neg (by omega),if_neg (by omega),if_neg (by omega),if_neg (by omega),if_neg (by omega)]
set_option maxHeartbeats 1000000 in
set_option maxRecDepth 100000 in
theorem qR (key ai:ByteArray) (w:World) (hk:key.size=32) (hn:ai.size=12) :
  Calls Tryz.prog 158 #[.string key,.string ai] w fun e w'=>e=.returned (.agg (row 16 (bU key ai 0#32)).toArray)∧Since w w':=by
 go_enter Tryz.func158,Tryz.ntmps158
 go_wp2_with fail
 go_loopw [9] (fun i wr=>∃k:Nat,k≤8∧i=.int .i64 k∧bA wr w.heap.size 0 16 (fun _=>0)∧bA wr (w.heap.size+1) 0 16 (uF key k)∧Since w wr) (fun i _=>8-(intOf i).toNat)
 case atStart=>
  refine⟨0,by omega,rfl,(bA.new w 16 (fun _=>0) _ _ (by rfl) _ rfl).alloc _,bA.new (w.alloc _) 16 _ _ _ (by rfl) _ (by simp),((Since.refl _).alloc _).alloc _⟩
 obtain⟨k,hk8,rfl,hR,hA,hS⟩:=hrel;by_cases hlt:k<8
 ·have hex:4≤(key.extract (4*k) 32).size:=by simp[ByteArray.size_extract];omega
  have HW:=(show Hid _ from CQ key k 32 (by omega) (by omega) (by omega) (by omega) (by omega))
  have c1:=hA.cell (4+k) (by omega);have f1:=hA.frozen (4+k) (by omega);rw[Nat.zero_add] at c1 f1;have t1:((4:Int)+k).toNat=4+k:=by omega
  have t2:((4:Int)*k).toNat=4*k:=by omega
  have HR:=(show Hid (bA wr w.heap.size 0 16 (fun _=>0)) from hR)
  have HA:=(show Hid (bA wr (w.heap.size+1) 0 16 (uF key k)) from hA)
  clear hR hA;go_wp2_with fail
  refine(qP _ _ hex).mono ?_;rintro e w1 ⟨rfl,n,rfl⟩;rw[HW.out];go_wp2_with fail
  go_roundw
  case rel=>
   have h3:=(HA.out.drewN n).set (4+k) (by omega) (eP key k);rw[Nat.zero_add] at h3;exact⟨k+1,by omega,by go_num,(HR.out.drewN n).other (by simp) _,h3.congr (fun j _=>NW key k j),(hS.drewN n).setCell (by simp) _⟩
  case measure=>simp[intOf];omega
 have hke:k=8:=by omega
 subst hke;go_wp2_with fail
 go_loopw [21] (fun i wr=>∃k:Nat,k≤3∧i=.int .i64 k∧bA wr w.heap.size 0 16 (fun _=>0)∧bA wr (w.heap.size+1) 0 16 (uG key ai k)∧Since w wr) (fun i _=>3-(intOf i).toNat)
 case atStart=>
  refine⟨0,by omega,rfl,hR,hA.congr (fun j hj=>?_),hS⟩;unfold uG;by_cases h:j<13
  ·rw[if_pos h]
  rw[if_neg h,if_neg (by omega)];unfold uF;rw[if_neg (by omega),if_neg (by omega),if_neg (by omega),if_neg (by omega),if_neg (by omega)]
 clear hR hA hS;obtain⟨k,hk3,rfl,hR,hA,hS⟩:=hrel;by_cases hlt2:k<3
 ·have hex:4≤(ai.extract (4*k) 12).size:=by simp[ByteArray.size_extract];omega
  have HW:=(show Hid _ from CQ ai k 12 (by omega) (by omega) (by omega) (by omega) (by omega))
  have c1:=hA.cell (13+k) (by omega);have f1:=hA.frozen (13+k) (by omega);rw[Nat.zero_add] at c1 f1;have t1:((13:Int)+k).toNat=13+k:=by omega
  have t2:((4:Int)*k).toNat=4*k:=by omega
  have HR:=(show Hid (bA wr w.heap.size 0 16 (fun _=>0)) from hR)
  have HA:=(show Hid (bA wr (w.heap.size+1) 0 16 (uG key ai k)) from hA)
  clear hR hA;go_wp2_with fail
  refine(qP _ _ hex).mono ?_;rintro e w1 ⟨rfl,n,rfl⟩;rw[HW.out];go_wp2_with fail
  go_roundw
  case rel=>
   have h3:=(HA.out.drewN n).set (13+k) (by omega) (eP ai k);rw[Nat.zero_add] at h3
   (repeat apply Exists.intro)
   exact⟨⟨k+1,by omega,by go_num,(HR.out.drewN n).other (by simp) _,h3.congr (fun j _=>NY key ai k j),(hS.drewN n).setCell (by simp) _⟩,rfl⟩
  case measure=>simp[intOf];omega
 have hke:k=3:=by omega
 subst hke;have hA3:bA wr (w.heap.size+1) 0 16 (bU key ai 0#32):=hA.congr (fun j hj=>NZ key ai j hj);have AU:=hA3.range;have hst:=hR.store Tryz.prog (bU key ai 0#32);have hL:(row 16 (bU key ai 0#32)).length=16:=aC _ _;clear hA;go_wp2_with (refine wpList_load_mid (by rfl) 202 _ (by rfl) (w.heap.size+1) 0 (by rfl) _ _ AU Tryz.underlying202 (by rfl) (by rw[aC];kernel_rfl) ?_)
 exact bodyPost_ret (aQ Tryz.results158 _ _ _ w.heap.size _ _ (by rfl) (hR.setRow (bU key ai 0#32)).range Tryz.underlying202 (by rfl) (by rw[aC];kernel_rfl)) rfl ⟨rfl,hS.setCells (by omega) _ _⟩
end Sm.Sr
end Go.Proofs.YtmhcfaaggkidjaaGreatDoor
end
section
namespace Go.Proofs.YtmhcfaaggkidjaaGreatDoor
set_option maxRecDepth 100000
namespace Sm.Sr
open Go.RowKit
attribute [local go_sem] jr fO jw jy pK jA jB jC fP fQ dU fo bI fe dE
def gL (f:Nat→Int):Nat→Value:=fun j=>.int .u8 (f j)
def sW (f:Nat→BitVec 32) (k:Nat):Nat→Int:=fun j=>if j<k then byteOf f j else 0
theorem Kq (f:Nat→BitVec 32) (k j:Nat):aZ (gL (sW f k)) k (.int .u8 (byteOf f k)) j=gL (sW f (k+1)) j:=by
 unfold aZ gL sW;by_cases e:j=k
 ·subst e;rw[if_pos rfl,if_pos (by omega)]
 rw[if_neg e];by_cases h:j<k
 ·rw[if_pos h,if_pos (by omega)]
 rw[if_neg h,if_neg (by omega)]
def aa (n:Nat) (g:Nat→Value):List Value:=(List.range n).map g
theorem ag (n:Nat) (g:Nat→Value):(aa n g).length=n:=by simp[aa]
theorem aU (n:Nat) (g:Nat→Value) (j:Nat) (hj:j<n):(aa n g)[j]?=some (g j):=by simp[aa,hj]
theorem _root_.Go.Proofs.YtmhcfaaggkidjaaGreatDoor.Sm.ak.range {w:World} {b n:Nat} {g:Nat→Value} (h:ak w b n g):w.rangeAt b 0 (aa n g):=fun j v hv=>by
 have hj:j<n:=by have:=(List.getElem?_eq_some_iff.1 hv).1;rwa [ag] at this
 rw[aU n g j hj] at hv;rw[Nat.zero_add,h.cell j hj,hv]
theorem _root_.Go.Proofs.YtmhcfaaggkidjaaGreatDoor.Sm.ak.there {w:World} {b n:Nat} {g:Nat→Value} (h:ak w b n g):w.there b 0 n:=fun j hj=>by
 rw[Nat.zero_add];exact⟨by rw[h.cell j hj];rfl,h.frozen j hj⟩
theorem _root_.Go.Proofs.YtmhcfaaggkidjaaGreatDoor.Sm.ak.setRow {w:World} {b n:Nat} {g:Nat→Value} (h:ak w b n g) (g':Nat→Value):ak (w.setCells b 0 (aa n g')) b n g' where
 cell j hj:=by
  have:=World.rangeAt_setCells_same w b 0 (aa n g') (by rw[ag];exact h.there) j (g' j) (aU n g' j hj)
  rwa [Nat.zero_add] at this
 frozen j hj:=by
  have:=(World.there_setCells h.there b 0 (aa n g') j hj).2
  rwa [Nat.zero_add] at this
theorem fC (n:Nat) (f:Nat→Int):∀v ∈ aa n (gL f),v.oneCell'=true:=by
 intro v hv;simp only[aa,List.mem_map] at hv;obtain⟨i,_,rfl⟩:=hv
 rfl
theorem _root_.Go.Proofs.YtmhcfaaggkidjaaGreatDoor.Sm.ak.store {w:World} {b n:Nat} {g:Nat→Value} (h:ak w b n g) (P:Program) (f:Nat→Int):(storeCells ⟨b,0,none⟩ (aa n (gL f))).run P w=.ok () (w.setCells b 0 (aa n (gL f))):=by
 have:=run_storeCells_cells (P:=P) b 0 (aa n (gL f)) 0 w (fun j hj=>by rw[ag] at hj;simpa using (h.there j hj).1) (fun j hj=>by rw[ag] at hj;simpa using (h.there j hj).2) (fC n f)
 simpa using this
theorem AY (j:Nat) (hj:j<64):(List.replicate 64 (Value.int .u8 0)).toArray[j]?=some (gL (fun _=>0) j):=by
 rw[List.getElem?_toArray,List.getElem?_replicate,if_pos hj];rfl
theorem _root_.Go.Proofs.YtmhcfaaggkidjaaGreatDoor.Sm.ak.zeros (w:World) (t:TypeId) (cs:Array Value) (e:cs=(List.replicate 64 (Value.int .u8 0)).toArray) (k:Nat) (hk:k=w.heap.size):ak (w.alloc (.cells cs t)) k 64 (gL (fun _=>0)):=
 ak.new w 64 _ t cs (fun j hj=>by rw[e];exact AY j hj) k hk
set_option maxHeartbeats 1000000 in
set_option maxRecDepth 100000 in
theorem jY (f:Nat→BitVec 32) (w:World) :
  Calls Tryz.prog 159 #[.agg (row 16 f).toArray] w fun e w'=>e=.returned (.agg (aa 64 (gL (byteOf f))).toArray)∧Since w w':=by
 have hL:(row 16 f).length=16:=aC _ _;go_enter Tryz.func159,Tryz.ntmps159
 go_wp2_with fail
 go_loopw [5] (fun i wr=>∃k:Nat,k≤64∧i=.int .i64 k∧bA wr w.heap.size 0 16 f∧ak wr (w.heap.size+1) 64 (gL (fun _=>0))∧ak wr (w.heap.size+2) 64 (gL (sW f k))∧Since w wr) (fun i _=>64-(intOf i).toNat)
 case atStart=>
  refine⟨0,by omega,rfl,((bA.new w 16 f _ _ (by rfl) _ rfl).alloc _).alloc _,?_,?_,(((Since.refl _).alloc _).alloc _).alloc _⟩
  ·refine ak.since (ak.new (w.alloc _) 64 _ _ _ (fun j hj=>AY j hj) _ (by simp)) ((Since.refl _).alloc _)
  refine ak.new ((w.alloc _).alloc _) 64 _ _ _ (fun j hj=>AY j hj) _ (by simp)
 obtain⟨k,hk,rfl,hF,hR,hA,hS⟩:=hrel;by_cases hlt:k<64
 ·have c0:=hF.cell (k / 4) (by omega);have c1:=hA.cell k hlt;have f1:=hA.frozen k hlt;rw[Nat.zero_add] at c0;have HF:=(show Hid (bA wr w.heap.size 0 16 f) from hF)
  have HR:=(show Hid (ak wr (w.heap.size+1) 64 (gL (fun _=>0))) from hR)
  have HA:=(show Hid (ak wr (w.heap.size+2) 64 (gL (sW f k))) from hA)
  clear hF hR hA;have z1:(0:Int)≤8*((k:Int) % 4):=by omega
  have z2:((8:Int)*((k:Int) % 4)).toNat=8*(k % 4):=by omega
  go_wp2_with fail
  go_roundw
  case rel=>
   have h3:=HA.out.set k hlt (.int .u8 (byteOf f k));exact⟨k+1,by omega,by go_num,HF.out.other (by simp;omega) _,HR.out.other (by simp) _,h3.congr (fun j _=>Kq f k j),hS.setCell (by simp;omega) _⟩
  case measure=>simp[intOf];omega
 have hke:k=64:=by omega
 subst hke;have hA3:ak wr (w.heap.size+2) 64 (gL (byteOf f)):=hA.congr (fun j hj=>by unfold gL sW;rw[if_pos hj]);have AU:=hA3.range;have hst:=hR.store Tryz.prog (byteOf f);have a5n:(aa 64 (gL (byteOf f))).length=64:=ag _ _;clear hA;go_wp2_with (refine wpList_load_mid (by rfl) 204 _ (by rfl) (w.heap.size+2) 0 (by rfl) _ _ AU Tryz.underlying204 (by rfl) (by rw[ag];kernel_rfl) ?_)
 exact bodyPost_ret (aQ Tryz.results159 _ _ _ (w.heap.size+1) _ _ (by rfl) (hR.setRow (gL (byteOf f))).range Tryz.underlying204 (by rfl) (by rw[ag];kernel_rfl)) rfl ⟨rfl,hS.setCells (by omega) _ _⟩
end Sm.Sr
end Go.Proofs.YtmhcfaaggkidjaaGreatDoor
end
section
namespace Go.Proofs.YtmhcfaaggkidjaaGreatDoor
set_option maxRecDepth 100000
namespace Sm.Sr
open Go.RowKit
attribute [local go_sem] jr fO jw jy pK jA jB jC fP fQ dU fo bI fe dE
theorem jG (w:World) (xs:List Int) (k m cap:Nat) (hm:m=xs.length) (hb:∀i,i<xs.length→w.cell? ⟨k,i,none⟩=some (.int .u8 (xs.getD i 0))) :
  (convert 38 9 (.slice (some ⟨k,0,none⟩) m cap)).run Tryz.prog w=.ok (.string (strOfNums xs)) w:=by
 subst hm;exact run_convert_bytes_arg _ 38 5 Tryz.underlying38 Tryz.underlying5 k 0 xs.length cap xs rfl (fun i hi=>by rw[Nat.zero_add];exact hb i hi) 9 Tryz.underlying9
theorem Oa (key ai:ByteArray) (n:BitVec 32) (j:Nat):upd (bU key ai 0#32) 12 n j=bU key ai n j:=by
 unfold upd bU;by_cases e:j=12
 ·subst e;simp
 rw[if_neg e,if_neg e,if_neg e]
theorem kL (key ai:ByteArray) (w:World) :
  Calls Tryz.prog 157 #[.string key,.string ai] w fun e w'=>e=.returned (.bool (decide (key.size=32)&&decide (ai.size=12)))∧w'=w:=by
 by_cases h1:key.size=32
 ·by_cases h2:ai.size=12
  ·go_enter Tryz.func157,Tryz.ntmps157
   go_wp2_with fail
   go_ret;exact⟨by simp[h1,h2],rfl⟩
  go_enter Tryz.func157,Tryz.ntmps157
  go_wp2_with fail
  go_ret;refine⟨?_,rfl⟩;simp[h1,h2];omega
 go_enter Tryz.func157,Tryz.ntmps157
 go_wp2_with fail
 go_ret;refine⟨?_,rfl⟩;simp[h1]
set_option maxHeartbeats 1000000 in
theorem Kr (key ai:ByteArray) (n:Int) (w:World) (h:¬(key.size=32∧ai.size=12∧0≤n∧n<4294967296)) (hn:-9223372036854775808≤n) (hn2:n≤9223372036854775807) :
  Calls Tryz.prog 106 #[.string key,.int .i64 n,.string ai] w fun e w'=>e=.returned (.tuple #[.string ⟨#[]⟩,.iface 32 (.int .i64 1)])∧w'=w:=by
 by_cases hk:key.size=32∧ai.size=12
 ·obtain⟨h1,h2⟩:=hk;have hs:(decide (key.size=32)&&decide (ai.size=12))=true:=by simp[h1,h2]
  go_enter Tryz.func106,Tryz.ntmps106
  go_wp2_with fail
  refine(kL _ _ _).mono ?_;rintro e w1 ⟨rfl,rfl⟩;rw[hs];by_cases n0:n<0
  ·go_wp2_with fail
   go_ret2;exact⟨rfl,rfl⟩
  have g1:IntKind.u64.wrap n=n:=by simp[IntKind.wrap,IntKind.bits,IntKind.signed];omega
  have g2:n > 4294967295:=by omega
  go_wp2_with fail
  go_ret2;exact⟨rfl,rfl⟩
 have hs:(decide (key.size=32)&&decide (ai.size=12))=false:=by
  rw[Bool.and_eq_false_iff];by_cases h1:key.size=32
  ·right;simp;intro h2;exact hk ⟨h1,h2⟩
  left;simp[h1]
 go_enter Tryz.func106,Tryz.ntmps106
 go_wp2_with fail
 refine(kL _ _ _).mono ?_;rintro e w1 ⟨rfl,rfl⟩;rw[hs];go_wp2_with fail
 go_ret2;exact⟨rfl,rfl⟩
set_option maxHeartbeats 1000000 in
set_option maxRecDepth 100000 in
theorem Kt (key ai:ByteArray) (n:Int) (w:World) (hk:key.size=32) (hn:ai.size=12) (n0:0≤n) (n1:n<4294967296) :
  Calls Tryz.prog 106 #[.string key,.int .i64 n,.string ai] w fun e w'=>e=.returned (.tuple #[.string (strOfNums (AQ key (BitVec.ofInt 32 n) ai)),.nilIface])∧Since w w':=by
 have hs:(decide (key.size=32)&&decide (ai.size=12))=true:=by simp[hk,hn]
 go_enter Tryz.func106,Tryz.ntmps106
 go_wp2_with fail
 refine(kL _ _ _).mono ?_;rintro e w1 ⟨rfl,rfl⟩;rw[hs];have g0:¬n<0:=by omega
 have g1:IntKind.u64.wrap n=n:=by simp[IntKind.wrap,IntKind.bits,IntKind.signed];omega
 have g2:¬n > 4294967295:=by omega
 go_wp2_with fail
 refine(qR key ai _ hk hn).mono ?_;rintro e w2 ⟨rfl,h2⟩;have hL:(row 16 (bU key ai 0#32)).length=16:=aC _ _;go_wp2_with fail
 rw[bA.store (f:=fun _=>0) (bA.new _ _ _ _ _ (by rfl) _ rfl)];go_simp
 generalize hw3:World.setCells _ _ _ _=w3;have hA:bA w3 w2.heap.size 0 16 (bU key ai 0#32):=by rw[←hw3];exact bA.setRow (f:=fun _=>0) (bA.new _ _ _ _ _ (by rfl) _ rfl) _
 have hS:Since w1 w3:=by rw[←hw3];exact(h2.alloc _).setCells h2.size _ _
 have hb2:=h2.size;clear hw3 hL;have c1:=hA.cell 12 (by omega);have f1:=hA.frozen 12 (by omega);rw[Nat.zero_add] at c1 f1;generalize w2.heap.size=b at *;clear h2 hs;have hU:Value.int .u32 n=U (BitVec.ofInt 32 n):=by unfold U;rw[←wrap_u32];congr 1;simp[IntKind.wrap,IntKind.bits,IntKind.signed];omega
 have WV:bA (w3.setCell ⟨b,12,none⟩ (.int .u32 n)) b 0 16 (bU key ai (BitVec.ofInt 32 n)):=by
  have h4:=hA.set 12 (by omega) (BitVec.ofInt 32 n);rw[Nat.zero_add] at h4;rw[hU];exact h4.congr (fun j _=>Oa key ai _ j)
 have AU:=WV.range;have HA4:=(show Hid _ from WV)
 have HS:=(show Hid (Since w1 w3) from hS)
 clear hU WV hA hS;go_wp2_with (refine wpList_load_mid (by rfl) 202 _ (by rfl) b 0 (by rfl) _ _ AU Tryz.underlying202 (by rfl) (by rw[aC];kernel_rfl) ?_)
 refine(zG _ _).mono ?_;rintro e w5 ⟨rfl,h5⟩;go_wp2_with fail
 refine(jY _ _).mono ?_;rintro e w6 ⟨rfl,h6⟩;have hL6:(aa 64 (gL (byteOf (mQ (bU key ai (BitVec.ofInt 32 n)))))).length=64:=ag _ _;have HB:Hid (AQ key (BitVec.ofInt 32 n) ai=bytesOf (mQ (bU key ai (BitVec.ofInt 32 n)))):=rfl;generalize mQ (bU key ai (BitVec.ofInt 32 n))=g at *;clear AU c1 f1;go_wp2_with fail
 rw[ak.store (ak.zeros _ _ _ (by rfl) _ rfl)];go_simp
 generalize hw7:World.setCells _ _ _ _=w7;have hC:ak w7 w6.heap.size 64 (gL (byteOf g)):=by rw[←hw7];exact ak.setRow (ak.zeros _ _ _ (by rfl) _ rfl) _
 have Cz:Since w1 w7:=by
  rw[←hw7];have h4:=HS.out.setCell (p:=⟨b,12,none⟩) hb2 (.int .u32 n);have WW:=(h4.trans h5).trans h6;exact(WW.alloc _).setCells WW.size _ _
 have hcv:=jG w7 (bytesOf g) w6.heap.size 64 64 (by simp[bytesOf]) (fun i hi=>by
  have hi':i<64:=by simpa [bytesOf] using hi
  rw[hC.cell i hi'];simp[gL,bytesOf,hi'])
 clear hw7 hC HA4 h5 h6 hL6;go_wp2_with fail
 go_ret2;exact⟨by rw[HB.out];rfl,Cz⟩
end Sm.Sr
end Go.Proofs.YtmhcfaaggkidjaaGreatDoor
end
section
namespace Go.Proofs.YtmhcfaaggkidjaaGreatDoor
set_option maxRecDepth 100000
namespace Sm.Sr
open Go.RowKit
attribute [local go_sem] jr fO jw jy pK jA jB jC fP fQ dU fo bI fe dE
def Ku (a b:Int):Int:=bits BinOp.xor IntKind.u8 a b
def kM (key ai s:ByteArray) (i:Nat):Int:=Ku (bJ s i).toNat (byteOf (mQ (bU key ai (BitVec.ofNat 32 (1+i / 64)))) (i % 64))
def dO (key ai s:ByteArray):List Int:=(List.range s.size).map (kM key ai s)
set_option maxHeartbeats 1000000 in
theorem a1o (key ai s:ByteArray) (w:World) (hk:¬(key.size=32∧ai.size=12)) :
  Calls Tryz.prog 280 #[.string key,.string ai,.string s] w fun e w'=>e=.returned (.tuple #[.string ⟨#[]⟩,.iface 32 (.int .i64 1)])∧w'=w:=by
 have hs:(decide (key.size=32)&&decide (ai.size=12))=false:=by
  rw[Bool.and_eq_false_iff];by_cases h1:key.size=32
  ·right;simp;intro h2;exact hk ⟨h1,h2⟩
  left;simp[h1]
 go_enter Tryz.func280,Tryz.ntmps280
 go_wp2_with fail
 refine(kL _ _ _).mono ?_;rintro e w1 ⟨rfl,rfl⟩;rw[hs];go_wp2_with fail
 go_ret2;exact⟨rfl,rfl⟩
def fF (key ai s:ByteArray) (m:Nat):Nat→Value:=fun j=>.int .u8 (if j<m then kM key ai s j else 0)
theorem CR (key ai s:ByteArray) (m j:Nat):aZ (fF key ai s m) m (.int .u8 (kM key ai s m)) j=fF key ai s (m+1) j:=by
 unfold aZ fF;by_cases e:j=m
 ·subst e;rw[if_pos rfl,if_pos (by omega)]
 rw[if_neg e];by_cases h:j<m
 ·rw[if_pos h,if_pos (by omega)]
 rw[if_neg h,if_neg (by omega)]
theorem WX (t:Nat):Value.int .u32 (IntKind.u32.wrap ((1:Int)+t))=U (BitVec.ofNat 32 (1+t)):=by
 unfold U;rw[wrap_u32];have e:((1:Int)+t)=((1+t:Nat):Int):=by omega
 rw[e,BitVec.ofInt_natCast]
set_option maxHeartbeats 1000000 in
set_option maxRecDepth 100000 in
theorem AZ (key ai s:ByteArray) (w:World) (hk:key.size=32) (hn:ai.size=12) (hz:s.size≤100000) :
  Calls Tryz.prog 280 #[.string key,.string ai,.string s] w fun e w'=>e=.returned (.tuple #[.string (strOfNums (dO key ai s)),.nilIface])∧Since w w':=by
 have hs:(decide (key.size=32)&&decide (ai.size=12))=true:=by simp[hk,hn]
 obtain⟨ti,hti,htz,hb1,hs1⟩:∃i,Tryz.prog.info? 5=some i∧i.zero=some (.int .u8 0)∧i.bytes=1∧i.size=1:=⟨_,rfl,by kernel_rfl,by kernel_rfl,by kernel_rfl⟩
 have hmk:=fun w=>run_make (P:=Tryz.prog) w 38 5 ti _ Tryz.underlying38 hti htz .i64 .i64 0 (s.size:Int) (by omega) (by omega) (by rw[hb1];omega) (by omega)
 rw[hs1] at hmk;clear hti htz hb1 hs1;go_enter Tryz.func280,Tryz.ntmps280
 go_wp2_with fail
 refine(kL _ _ _).mono ?_;rintro e w1 ⟨rfl,rfl⟩;rw[hs];go_wp2_with fail
 refine(qR key ai _ hk hn).mono ?_;rintro e w2 ⟨rfl,h2⟩;have hL:(row 16 (bU key ai 0#32)).length=16:=aC _ _;go_wp2_with fail
 rw[bA.store (f:=fun _=>0) (bA.new _ _ _ _ _ (by rfl) _ rfl)];go_simp
 generalize hw3:World.setCells _ _ _ _=w3;have hA:bA w3 w2.heap.size 0 16 (bU key ai 0#32):=by rw[←hw3];exact bA.setRow (f:=fun _=>0) (bA.new _ _ _ _ _ (by rfl) _ rfl) _
 have hS:Since w1 w3:=by rw[←hw3];exact(h2.alloc _).setCells h2.size _ _
 have hb2:=h2.size;have hbl:w2.heap.size<w3.heap.size:=hA.lt (by omega);clear hw3 hL;generalize w2.heap.size=b at *;clear h2 hs;go_wp2_with fail
 clear hmk;go_loopw [10,9] (fun i o wr=>∃t:Nat,(t=0∨64*(t-1)<s.size)∧i=.int .i64 (64*t)∧o=.slice (some ⟨w3.heap.size,0,none⟩) (min (64*t) s.size) s.size∧ak wr w3.heap.size s.size (fF key ai s (64*t))∧(∃n,bA wr b 0 16 (bU key ai n))∧Since w1 wr∧w3.heap.size<wr.heap.size) (fun i _ _=>s.size+64-(intOf i).toNat)
 case atStart=>
  refine⟨0,Or.inl rfl,rfl,by simp,ak.new w3 s.size _ _ _ (fun j hj=>by simp[madeCells,hj,Nat.mod_one,fF]) _ rfl,⟨0#32,hA.alloc _⟩,hS.alloc _,by simp⟩
 clear hA hS;obtain⟨t,ht,rfl,rfl,hC,⟨n0,hA⟩,hS,hlw⟩:=hrel;by_cases hlt:64*t<s.size
 ·simp only[Nat.min_eq_left (Nat.le_of_lt hlt)];have c1:=hA.cell 12 (by omega);have f1:=hA.frozen 12 (by omega);rw[Nat.zero_add] at c1 f1;have q1:(64*(t:Int)) / 64=t:=by omega
  have q2:IntKind.i64.wrap (1+(t:Int))=1+t:=by simp[IntKind.wrap,IntKind.bits,IntKind.signed];omega
  have q3:IntKind.u32.wrap (1+(t:Int))=1+t:=by simp[IntKind.wrap,IntKind.bits,IntKind.signed];omega
  have q4:(64*(t:Int))<s.size:=by omega
  have HT:=(show Hid (t=0∨64*(t-1)<s.size) from ht)
  clear ht;have hU:=WX t;rw[q3] at hU;have WV:bA (wr.setCell ⟨b,12,none⟩ (.int .u32 (1+(t:Int)))) b 0 16 (bU key ai (BitVec.ofNat 32 (1+t))):=by
   have h4:=hA.set 12 (by omega) (BitVec.ofNat 32 (1+t));rw[Nat.zero_add] at h4;rw[hU];refine h4.congr (fun j _=>?_);unfold upd bU;by_cases e:j=12
   ·subst e;simp
   rw[if_neg e,if_neg e,if_neg e]
  have pg:ak (wr.setCell ⟨b,12,none⟩ (.int .u32 (1+(t:Int)))) w3.heap.size s.size (fF key ai s (64*t)):=hC.other (by simp;omega) _;have jX:Since w1 (wr.setCell ⟨b,12,none⟩ (.int .u32 (1+(t:Int)))):=hS.setCell hb2 _;have hsz:(wr.setCell ⟨b,12,none⟩ (.int .u32 (1+(t:Int)))).heap.size=wr.heap.size:=by simp
  have AU:=WV.range;have HA4:=(show Hid _ from WV)
  have yO:=(show Hid _ from pg)
  have iY:=(show Hid _ from jX)
  clear hU WV hA hS hC pg jX;go_wp2_with (refine wpList_load_mid (by rfl) 202 _ (by rfl) b 0 (by rfl) _ _ AU Tryz.underlying202 (by rfl) (by rw[aC];kernel_rfl) ?_)
  generalize World.setCell wr _ _=w4 at *;refine(zG _ _).mono ?_;rintro e w5 ⟨rfl,h5⟩;go_wp2_with fail
  refine(jY _ _).mono ?_;rintro e w6 ⟨rfl,h6⟩;have hL6:(aa 64 (gL (byteOf (mQ (bU key ai (BitVec.ofNat 32 (1+t))))))).length=64:=ag _ _;generalize hg:mQ (bU key ai (BitVec.ofNat 32 (1+t)))=g at *;have HG:=(show Hid (mQ (bU key ai (BitVec.ofNat 32 (1+t)))=g) from hg)
  clear hg AU c1 f1;go_wp2_with fail
  rw[ak.store (ak.zeros _ _ _ (by rfl) _ rfl)];go_simp
  have WW:=h5.trans h6;generalize hw7:World.setCells _ _ _ _=w7;have hD:ak w7 w6.heap.size 64 (gL (byteOf g)):=by rw[←hw7];exact ak.setRow (ak.zeros _ _ _ (by rfl) _ rfl) _
  have h47:Since w4 w7:=by rw[←hw7];exact(WW.alloc _).setCells WW.size _ _
  have hC7:=yO.out.since h47;have hA7:=HA4.out.since h47;have Cz:Since w1 w7:=Since.trans iY.out h47;have hz6:w4.heap.size≤w6.heap.size:=WW.size;clear hw7 HA4 yO iY h5 h6 hL6 h47 WW;generalize w6.heap.size=d at *;have l8:w3.heap.size<d:=by omega
  by_cases hm:64*t+64≤s.size
  ·have hm2:(64:Int)≤(s.size:Int)-64*t:=by omega
   go_wp2_with fail
   go_loopw [43,9] (fun i o wr=>∃k:Nat,k≤64∧i=.int .i64 k∧o=.slice (some ⟨w3.heap.size,0,none⟩) (64*t+k) s.size∧ak wr w3.heap.size s.size (fF key ai s (64*t+k))∧ak wr d 64 (gL (byteOf g))∧bA wr b 0 16 (bU key ai (BitVec.ofNat 32 (1+t)))∧Since w1 wr∧w3.heap.size<wr.heap.size) (fun i _ _=>64-(intOf i).toNat)
   case atStart=>exact⟨0,by omega,rfl,rfl,hC7,hD,hA7,Cz,by have:=hD.lt (by omega);omega⟩
   clear hC7 hD hA7 Cz;obtain⟨k,hk2,rfl,rfl,hC,hD,hA,hS,hl2⟩:=hrel;by_cases hkl:k<64
   ·have a1:=hC.cell (64*t+k) (by omega);have f1:=hC.frozen (64*t+k) (by omega);have d1:=hD.cell k (by omega);have e1:fF key ai s (64*t) (64*t+k)=.int .u8 0:=by unfold fF;rw[if_neg (by omega)]
    have e2:fF key ai s (64*t+k) (64*t+k)=.int .u8 0:=by unfold fF;rw[if_neg (by omega)]
    rw[e2] at a1;clear e1 e2;unfold gL at d1;have z0:(0:Int)≤64*t+k:=by omega
    have z1:(64*(t:Int)+k)<s.size:=by omega
    have z2:(64*(t:Int)+k).toNat=64*t+k:=by omega
    have z3:IntKind.i64.wrap (64*(t:Int)+k)=64*t+k:=by simp[IntKind.wrap,IntKind.bits,IntKind.signed];omega
    have z4:(k:Int)<64:=by omega
    have z5:64*t+k+1≤s.size:=by omega
    have z6:64*t+k<s.size:=by omega
    have hdl:=hD.lt (by omega);have n1:¬w3.heap.size=d:=by omega
    have n2:¬wr.heap.size=d:=by omega
    have n3:¬wr.heap.size=w3.heap.size:=by omega
    have HC:=(show Hid (ak wr w3.heap.size s.size (fF key ai s (64*t+k))) from hC)
    have HD:=(show Hid (ak wr d 64 (gL (byteOf g))) from hD)
    have HA:=(show Hid (bA wr b 0 16 (bU key ai (BitVec.ofNat 32 (1+t)))) from hA)
    have HS:=(show Hid (Since w1 wr) from hS)
    have HX:Hid (kM key ai s (64*t+k)=Ku s[64*t+k].toNat (byteOf g k)):=by
     show kM key ai s (64*t+k)=_
     unfold kM bJ;rw[show (64*t+k) / 64=t by omega,show (64*t+k) % 64=k by omega,HG.out,List.getD_eq_getElem?_getD,List.getElem?_eq_getElem (by simpa using z6)]
     rfl
    generalize byteOf g k=y at *;clear hC hD hA hS;go_wp2_with fail
    go_region_held3 (fun w'=>w'.cell? ⟨d,k,none⟩=some (.int .u8 y)) (simp[d1,n1,n2,World.cell?_alloc_some,World.cell?_setCell_far]) (fail)
    all_goals
     have hC2:=HC.out.set (64*t+k) (by omega) (.int .u8 (kM key ai s (64*t+k)));have fT:=hC2.congr (fun j _=>CR key ai s (64*t+k) j);rw[HX.out] at fT;unfold Ku at fT;clear a1 f1 d1;go_wp2_with fail
     go_roundw
     case rel=>
      exact⟨k+1,by omega,by go_num,rfl,fT.since (((Since.refl _).alloc _).drew),(HD.out.other (by simp;omega) _).since (((Since.refl _).alloc _).drew),(HA.out.other (by simp;omega) _).since (((Since.refl _).alloc _).drew),((HS.out.setCell (by simp;omega) _).alloc _).drew,by simp;omega⟩
     case measure=>simp[intOf];omega
   have hke:k=64:=by omega
   subst hke;go_wp2_with fail
   refine⟨⟨t+1,Or.inr (by omega),by congr 1<;>omega,by congr 1<;>omega,hC.congr (fun j hj=>?_),⟨_,hA⟩,hS,hl2⟩,by simp[intOf];omega⟩;unfold fF;by_cases hj2:j<64*t+64
   ·rw[if_pos hj2,if_pos (by omega)]
   rw[if_neg hj2,if_neg (by omega)]
  have hm2:¬(64:Int)≤(s.size:Int)-64*t:=by omega
  have YK:(s.size:Int)-64*t<64:=by omega
  go_wp2_with fail
  go_loopw [43,9] (fun i o wr=>∃k:Nat,k≤(s.size-64*t)∧i=.int .i64 k∧o=.slice (some ⟨w3.heap.size,0,none⟩) (64*t+k) s.size∧ak wr w3.heap.size s.size (fF key ai s (64*t+k))∧ak wr d 64 (gL (byteOf g))∧bA wr b 0 16 (bU key ai (BitVec.ofNat 32 (1+t)))∧Since w1 wr∧w3.heap.size<wr.heap.size) (fun i _ _=>(s.size-64*t)-(intOf i).toNat)
  case atStart=>exact⟨0,by omega,rfl,rfl,hC7,hD,hA7,Cz,by have:=hD.lt (by omega);omega⟩
  clear hC7 hD hA7 Cz;obtain⟨k,hk2,rfl,rfl,hC,hD,hA,hS,hl2⟩:=hrel;by_cases hkl:k<(s.size-64*t)
  ·have a1:=hC.cell (64*t+k) (by omega);have f1:=hC.frozen (64*t+k) (by omega);have d1:=hD.cell k (by omega);have e1:fF key ai s (64*t) (64*t+k)=.int .u8 0:=by unfold fF;rw[if_neg (by omega)]
   have e2:fF key ai s (64*t+k) (64*t+k)=.int .u8 0:=by unfold fF;rw[if_neg (by omega)]
   rw[e2] at a1;clear e1 e2;unfold gL at d1;have z0:(0:Int)≤64*t+k:=by omega
   have z1:(64*(t:Int)+k)<s.size:=by omega
   have z2:(64*(t:Int)+k).toNat=64*t+k:=by omega
   have z3:IntKind.i64.wrap (64*(t:Int)+k)=64*t+k:=by simp[IntKind.wrap,IntKind.bits,IntKind.signed];omega
   have z4:(k:Int)<64:=by omega
   have z5:64*t+k+1≤s.size:=by omega
   have z6:64*t+k<s.size:=by omega
   have hdl:=hD.lt (by omega);have n1:¬w3.heap.size=d:=by omega
   have n2:¬wr.heap.size=d:=by omega
   have n3:¬wr.heap.size=w3.heap.size:=by omega
   have HC:=(show Hid (ak wr w3.heap.size s.size (fF key ai s (64*t+k))) from hC)
   have HD:=(show Hid (ak wr d 64 (gL (byteOf g))) from hD)
   have HA:=(show Hid (bA wr b 0 16 (bU key ai (BitVec.ofNat 32 (1+t)))) from hA)
   have HS:=(show Hid (Since w1 wr) from hS)
   have HX:Hid (kM key ai s (64*t+k)=Ku s[64*t+k].toNat (byteOf g k)):=by
    show kM key ai s (64*t+k)=_
    unfold kM bJ;rw[show (64*t+k) / 64=t by omega,show (64*t+k) % 64=k by omega,HG.out,List.getD_eq_getElem?_getD,List.getElem?_eq_getElem (by simpa using z6)]
    rfl
   generalize byteOf g k=y at *;clear hC hD hA hS;go_wp2_with fail
   go_region_held3 (fun w'=>w'.cell? ⟨d,k,none⟩=some (.int .u8 y)) (simp[d1,n1,n2,World.cell?_alloc_some,World.cell?_setCell_far]) (fail)
   all_goals
    have hC2:=HC.out.set (64*t+k) (by omega) (.int .u8 (kM key ai s (64*t+k)));have fT:=hC2.congr (fun j _=>CR key ai s (64*t+k) j);rw[HX.out] at fT;unfold Ku at fT;clear a1 f1 d1;go_wp2_with fail
    go_roundw
    case rel=>
     exact⟨k+1,by omega,by go_num,rfl,fT.since (((Since.refl _).alloc _).drew),(HD.out.other (by simp;omega) _).since (((Since.refl _).alloc _).drew),(HA.out.other (by simp;omega) _).since (((Since.refl _).alloc _).drew),((HS.out.setCell (by simp;omega) _).alloc _).drew,by simp;omega⟩
    case measure=>simp[intOf];omega
  have hke:k=(s.size-64*t):=by omega
  subst hke;go_wp2_with fail
  refine⟨⟨t+1,Or.inr (by omega),by congr 1<;>omega,by congr 1<;>omega,hC.congr (fun j hj=>?_),⟨_,hA⟩,hS,hl2⟩,by simp[intOf];omega⟩;unfold fF;by_cases hj2:j<64*t+(s.size-64*t)
  ·rw[if_pos hj2,if_pos (by omega)]
  rw[if_neg hj2,if_neg (by omega)]
 simp only[Nat.min_eq_right (Nat.le_of_not_lt hlt)];have hcv:=jG wr (dO key ai s) w3.heap.size s.size s.size (by simp[dO]) (fun i hi=>by
  have hi':i<s.size:=by simpa [dO] using hi
  rw[hC.cell i hi'];simp[fF,dO,hi'];omega)
 go_wp2_with fail
 go_ret2;exact⟨rfl,hS⟩
end Sm.Sr
end Go.Proofs.YtmhcfaaggkidjaaGreatDoor
end
