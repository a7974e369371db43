import Derived.BigQuiet
import Derived.Deep.RegionHeld3
import Derived.Test.YtlgbfkcpdelcbaaGreatDoorJ05
import Derived.Test.YtlgbfkcpdelcbaaGreatDoorJ09
set_option linter.unusedSimpArgs false
set_option linter.unusedVariables false
set_option maxHeartbeats 8000000
set_option maxRecDepth 100000
namespace Go.Proofs.YtlgbfkcpdelcbaaGreatDoor
section
namespace Sm.Sr
open Go.RowKit
attribute [local go_sem ↓] gQ eF iB iC lq iD iE iG dU eG cZ bu
theorem QQ (k:Int):bits BinOp.and IntKind.u64 (IntKind.u64.wrap k) 31=k % 32:=by
 have e:IntKind.u64.wrap k=k % 18446744073709551616:=by simp[IntKind.wrap,IntKind.bits,IntKind.signed]
 have h:=bits_mask .u64 64 (by decide) (fun n h0 h1=>by simp[IntKind.wrap,IntKind.bits,IntKind.signed];omega) 5 (by decide) (IntKind.u64.wrap k) (by omega) (by omega);have e2:(2:Int) ^ 5-1=31:=by decide
 rw[e2] at h;rw[h,e];omega
theorem pF (x:BitVec 32)(k:Int)(w:World) :
  Calls Tryz.prog 324 #[U x,.int .i64 k] w fun e w'=>e=.returned (U (kJ x (k % 32).toNat))∧w'=w:=by
 have hb:=QQ k;have h1:(0:Int)≤k % 32:=by omega
 have h2:IntKind.u64.wrap (32-k % 32)=32-k % 32:=by
  simp[IntKind.wrap,IntKind.bits,IntKind.signed];omega
 have h4:k % 32≤32:=by omega
 have h3:(32-k % 32).toNat=32-(k % 32).toNat:=by omega
 go_enter Tryz.func324,Tryz.ntmps324
 go_wp2
 go_ret;exact⟨rfl,rfl⟩
theorem Bp {fn:Func}{t u v x:Tmp}(h:fn.results=#[.tmp t,.tmp u,.tmp v,.tmp x])(tmps:Array Value)(P:Program)(w:World) :
  (results fn tmps).run P w=.ok (.tuple #[tmps.getD t undef,tmps.getD u undef,tmps.getD v undef,tmps.getD x undef]) w:=by
 simp[results,h]
theorem uA (q:Qu)(w:World) :
  Calls Tryz.prog 319 #[U q.a,U q.b,U q.c,U q.d] w fun e w'=>e=.returned (.tuple #[U (lD q).a,U (lD q).b,U (lD q).c,U (lD q).d])∧w'=w:=by
 go_enter Tryz.func319,Tryz.ntmps319
 go_wp2_with (go_at_call 324;refine(pF _ _ _).mono ?_;rintro e w' ⟨rfl,rfl⟩)
 (try simp only[Exit.inBlock,Exit.then])
 refine bodyPost_ret (Bp rfl _ _ _) rfl ?_;exact⟨rfl,rfl⟩
theorem rC (s:ByteArray)(w:World)(hs:4≤s.size) :
  Calls Tryz.prog 308 #[.string s] w fun e w'=>e=.returned (U (nH (s[0]'(by omega)) (s[1]'(by omega)) (s[2]'(by omega)) (s[3]'(by omega))))∧∃n,w'=w.drewN n:=by
 have h0:0<s.size:=by omega
 have h1:1<s.size:=by omega
 have h2:2<s.size:=by omega
 have h3:3<s.size:=by omega
 have g0:(0:Int)<s.size:=by omega
 have g1:(1:Int)<s.size:=by omega
 have g2:(2:Int)<s.size:=by omega
 have g3:(3:Int)<s.size:=by omega
 go_enter Tryz.func308,Tryz.ntmps308
 go_wp2_with fail
 go_quiet (fail)
 go_wp2_with fail
 go_ret;exact⟨rfl,_,rfl⟩
end Sm.Sr
end
section
namespace Sm.Sr
open Go.RowKit
attribute [local go_sem] gQ eF iB iC lq iD iE iG dU eG cZ dG bu fe dC
theorem wR (w:World)(a b:Addr)(v:Value)(h:(w.cell? b).isSome=true):((w.setCell a v).cell? b).isSome=true:=by
 obtain⟨u,hu⟩:=Option.isSome_iff_exists.1 h;by_cases e:b=a
 ·subst e;rw[World.cell?_setCell_same _ _ _ hu];rfl
 rw[World.cell?_setCell_other _ _ _ _ (fun h=>e h.symm)];exact h
attribute [local go_sem] wR
def lane (sh j:Nat):Nat:=(j % 4+(4-sh)*(j / 4)) % 4
def bK (sh:Nat)(f:Nat→BitVec 32)(n:Nat):Nat→BitVec 32:=fun j=>if lane sh j<n then tq sh f j else f j
def CS (g:Nat→BitVec 32)(i0 i1 i2 i3:Nat)(q:Qu):Nat→BitVec 32:=upd (upd (upd (upd g i0 q.a) i1 q.b) i2 q.c) i3 q.d
theorem _root_.Go.Proofs.YtlgbfkcpdelcbaaGreatDoor.Sm.aN.CS {w:World}{b:Nat}{g:Nat→BitVec 32}(h:aN w b 0 16 g)(i0 i1 i2 i3:Nat)(h0:i0<16)(h1:i1<16)(h2:i2<16)(h3:i3<16)(q:Qu) :
  aN ((((w.setCell ⟨b,i0,none⟩ (U q.a)).setCell ⟨b,i1,none⟩ (U q.b)).setCell ⟨b,i2,none⟩ (U q.c)).setCell ⟨b,i3,none⟩ (U q.d)) b 0 16 (CS g i0 i1 i2 i3 q):=by
 have h4:=(((h.set i0 h0 q.a).set i1 h1 q.b).set i2 h2 q.c).set i3 h3 q.d;simp only[Nat.zero_add] at h4;exact h4
theorem CU (sh:Nat)(f:Nat→BitVec 32)(hsh:sh<2)(k:Nat)(hk:k<4)(j:Nat)(hj:j<16) :
  CS (bK sh f k) k (4+(k+sh) % 4) (8+(k+2*sh) % 4) (12+(k+3*sh) % 4) (lD (four (bK sh f k) sh k)) j=bK sh f (k+1) j:=by
 have all:∀sh,sh<2→∀k,k<4→∀j,j<16→CS (bK sh f k) k (4+(k+sh) % 4) (8+(k+2*sh) % 4) (12+(k+3*sh) % 4) (lD (four (bK sh f k) sh k)) j=bK sh f (k+1) j:=by
  intro sh hsh k hk;rcases sh with _ | _ | sh
  all_goals first | omega | skip
  all_goals rcases k with _ | _ | _ | _ | k
  all_goals first | omega | skip
  all_goals
   intro j hj;rcases j with _ | _ | _ | _ | _ | _ | _ | _ | _ | _ | _ | _ | _ | _ | _ | _ | j
   all_goals first | omega | rfl
 exact all sh hsh k hk j hj
theorem mr (sh:Nat)(f:Nat→BitVec 32)(j:Nat):bK sh f 4 j=tq sh f j:=by
 unfold bK lane;rw[if_pos (by omega)]
theorem tA {P:Program}{ops:Array Oper}{Q:Exit→Act→World→Prop}{md:Region.Mode}(i:Nat){oi:Oper}{v:Value}{fuel:Nat}{listed:Array Bool}{a a':Act}{w:World}(h:wpAny P md ops Q fuel (listed.setIfInBounds i true) a' w)(hi:ops[i]?=some oi:=by rfl)(hs:Region.noSelect ops=true:=by kernel_rfl)(hf:Region.free md ops listed i=true:=by kernel_rfl)(hr:(Region.ready md ops listed).contains i=true:=by kernel_rfl)(hw:Region.wanted oi (yielded ops a.tmps)=true:=by rfl)(hy:∀w,(execOp a.eval oi).run P w=.ok (.value v) w:=by intro w;go_simp;try with_reducible rfl)(hQ:∀c a w,Q (.panic c) (a.put oi.dst v) w→Q (.panic c) a w:=by exact fun _ _ _ h=>h)(ht:a.put oi.dst v=a':=by simp only[Act.put,List.setIfInBounds_toArray,List.set_cons_zero,List.set_cons_succ];try rfl):wpAny P md ops Q (fuel+1) listed a w:=
 wpAny_take hi hs hf hr hQ (Or.inl ⟨hw,hy⟩) (by subst ht;exact h)
theorem CV (f:Nat→BitVec 32)(w:World) :
  Calls Tryz.prog 310 #[.agg (row 16 f).toArray] w fun e w'=>e=.returned (.agg (row 16 (tq 0 f)).toArray)∧Since w w':=by
 have er:(row 16 f).toArray=#[U (f 0),U (f 1),U (f 2),U (f 3),U (f 4),U (f 5),U (f 6),U (f 7),U (f 8),U (f 9),U (f 10),U (f 11),U (f 12),U (f 13),U (f 14),U (f 15)]:=rfl;rw[er];clear er;go_enter Tryz.func310,Tryz.ntmps310
 go_wp2_with fail
 go_loopw [4] (fun i wr=>∃k:Nat,k≤4∧i=.int .i64 k∧aN wr w.heap.size 0 16 (bK 0 f k)∧aN wr (w.heap.size+1) 0 16 (fun _=>0)∧Since w wr) (fun i _=>4-(intOf i).toNat)
 case atStart=>
  exact⟨0,by omega,rfl,(aN.new w 16 f _ _ (by rfl) _ rfl).alloc _,aN.new (w.alloc _) 16 _ _ _ (by rfl) _ (by simp),((Since.refl _).alloc _).alloc _⟩
 obtain⟨k,hk,rfl,hA,hB,hS⟩:=hrel;by_cases hlt:k<4
 ·have t1:((4:Int)+k).toNat=4+k:=by omega
  have t2:((8:Int)+k).toNat=8+k:=by omega
  have t3:((12:Int)+k).toNat=12+k:=by omega
  have b0:(k:Int)<16:=by omega
  have b1:(4:Int)+k<16:=by omega
  have b2:(8:Int)+k<16:=by omega
  have b3:(12:Int)+k<16:=by omega
  have v1:IntKind.i64.wrap ((4:Int)+k)=4+k:=by simp[IntKind.wrap,IntKind.bits,IntKind.signed];omega
  have v2:IntKind.i64.wrap ((8:Int)+k)=8+k:=by simp[IntKind.wrap,IntKind.bits,IntKind.signed];omega
  have v3:IntKind.i64.wrap ((12:Int)+k)=12+k:=by simp[IntKind.wrap,IntKind.bits,IntKind.signed];omega
  have z1:(0:Int)≤4+k:=by omega
  have z2:(0:Int)≤8+k:=by omega
  have z3:(0:Int)≤12+k:=by omega
  have c0:=hA.cell k (by omega);have c1:=hA.cell (4+k) (by omega);have c2:=hA.cell (8+k) (by omega);have c3:=hA.cell (12+k) (by omega);have f0:=hA.frozen k (by omega);have f1:=hA.frozen (4+k) (by omega);have f2:=hA.frozen (8+k) (by omega);have f3:=hA.frozen (12+k) (by omega);rw[Nat.zero_add] at c0 c1 c2 c3 f0 f1 f2 f3;have HA:=(show Hid (aN wr w.heap.size 0 16 (bK 0 f k)) from hA)
  have HB:=(show Hid (aN wr (w.heap.size+1) 0 16 (fun _=>0)) from hB)
  have HS:=(show Hid (Since w wr) from hS)
  have HK:=(show Hid (k≤4) from hk)
  have YE:=(show Hid (∀j,j<16→CS (bK 0 f k) k (4+k) (8+k) (12+k) (lD ⟨bK 0 f k k,bK 0 f k (4+k),bK 0 f k (8+k),bK 0 f k (12+k)⟩) j=bK 0 f (k+1) j) from fun j hj=>by
    have h:=CU 0 f (by omega) k hlt j hj;unfold four at h;simp only[Nat.mul_zero,Nat.add_zero,Nat.mod_eq_of_lt hlt] at h;exact h)
  clear hA hB hS hk;go_wp2_with fail
  generalize hg:bK 0 f k=g at *;clear hg;refine wp_region_any (by kernel_rfl) ?_;refine tA 0 ?_;refine tA 1 ?_;refine tA 2 ?_;refine tA 3 ?_;refine tA 4 ?_;refine tA 5 ?_;refine tA 6 ?_;refine tA 7 ?_;refine tA 8 ?_;refine tA 10 ?_;refine tA 11 ?_;refine tA 12 ?_;refine tA 14 ?_;refine tA 15 ?_;refine tA 16 ?_;refine tA 18 ?_;refine tA 19 ?_;refine tA 20 ?_;have cz:(fun w':World=>w'.cell? ⟨w.heap.size,k,none⟩=some (U (g k))∧w'.cell? ⟨w.heap.size,4+k,none⟩=some (U (g (4+k)))∧w'.cell? ⟨w.heap.size,8+k,none⟩=some (U (g (8+k)))∧w'.cell? ⟨w.heap.size,12+k,none⟩=some (U (g (12+k)))) wr.drew:=by
   refine⟨?_,?_,?_,?_⟩
   ·simpa using c0
   ·simpa using c1
   ·simpa using c2
   simpa using c3
  refine ky (S:=fun w':World=>w'.cell? ⟨w.heap.size,k,none⟩=some (U (g k))∧w'.cell? ⟨w.heap.size,4+k,none⟩=some (U (g (4+k)))∧w'.cell? ⟨w.heap.size,8+k,none⟩=some (U (g (8+k)))∧w'.cell? ⟨w.heap.size,12+k,none⟩=some (U (g (12+k)))) (c:=22) _ _ _ _ ?_;refine tG 9 cz ?_;refine tG 13 cz ?_;refine tG 17 cz ?_;refine tG 21 cz ?_;refine jQ (by kernel_rfl) ?_;clear cz;refine wpAny_ready (rs:=[22]) (by kernel_rfl) (by simp) (AllReady.cons rfl (fun K hK=>?_) AllReady.nil);go_simp
  refine(uA ⟨g k,g (4+k),g (8+k),g (12+k)⟩ _).mono ?_;rintro e w' ⟨rfl,rfl⟩;simp only[];refine hK _ _ ?_;clear hK K
  (try simp only[Act.put,List.setIfInBounds_toArray,List.set_cons_zero,List.set_cons_succ])
  generalize hq:lD _=q;have Hq:=(show Hid (lD ⟨g k,g (4+k),g (8+k),g (12+k)⟩=q) from hq)
  clear hq;refine tA 23 ?_;refine tA 24 ?_;refine tA 25 ?_;refine tA 26 ?_;refine tA 27 ?_;refine tA 28 ?_;refine wpAny_ready (rs:=[29]) (by kernel_rfl) (by simp) (AllReady.cons rfl (fun K hK=>?_) AllReady.nil);go_simp
  refine hK _ _ ?_;clear hK K
  (try simp only[Act.put,List.setIfInBounds_toArray,List.set_cons_zero,List.set_cons_succ])
  refine tA 30 ?_;refine wpAny_ready (rs:=[31]) (by kernel_rfl) (by simp) (AllReady.cons rfl (fun K hK=>?_) AllReady.nil);go_simp
  refine hK _ _ ?_;clear hK K
  (try simp only[Act.put,List.setIfInBounds_toArray,List.set_cons_zero,List.set_cons_succ])
  refine tA 32 ?_;refine wpAny_ready (rs:=[33]) (by kernel_rfl) (by simp) (AllReady.cons rfl (fun K hK=>?_) AllReady.nil);go_simp
  refine hK _ _ ?_;clear hK K
  (try simp only[Act.put,List.setIfInBounds_toArray,List.set_cons_zero,List.set_cons_succ])
  refine tA 34 ?_;refine wpAny_ready (rs:=[35]) (by kernel_rfl) (by simp) (AllReady.cons rfl (fun K hK=>?_) AllReady.nil);go_simp
  refine hK _ _ ?_;clear hK K
  (try simp only[Act.put,List.setIfInBounds_toArray,List.set_cons_zero,List.set_cons_succ])
  refine wpAny_done (by kernel_rfl) ?_ _;go_wp2_with fail
  go_roundw
  case rel=>
   have h4:=HA.o.CS k (4+k) (8+k) (12+k) (by omega) (by omega) (by omega) (by omega) q;have e4:aN _ w.heap.size 0 16 (bK 0 f (k+1)):=h4.congr (fun j hj=>by rw[←YE.o j hj,←Hq.o]);exact⟨k+1,by omega,by go_num,e4.since (Since.refl _).drew,((((HB.o.other (by simp) _).other (by simp) _).other (by simp) _).other (by simp) _).since (Since.refl _).drew,((((HS.o.setCell (Nat.le_refl _) _).setCell (Nat.le_refl _) _).setCell (Nat.le_refl _) _).setCell (Nat.le_refl _) _).drew⟩
  case measure=>simp[intOf];omega
 have hke:k=4:=by omega
 subst hke;have hA3:aN wr w.heap.size 0 16 (tq 0 f):=hA.congr (fun j hj=>mr 0 f j);have GZ:=hA3.range;have hst:=hB.store Tryz.prog (tq 0 f);have hL:(row 16 (tq 0 f)).length=16:=aB _ _;clear hA;go_wp2_with (refine wpList_load_mid (by rfl) 365 _ (by rfl) w.heap.size 0 (by rfl) _ _ GZ Tryz.underlying365 (by rfl) (by rw[aB];kernel_rfl) ?_)
 exact bodyPost_ret (bz Tryz.results310 _ _ _ (w.heap.size+1) _ _ (by rfl) (hB.setRow (tq 0 f)).range Tryz.underlying365 (by rfl) (by rw[aB];kernel_rfl)) rfl ⟨rfl,hS.setCells (by omega) _ _⟩
theorem zm (f:Nat→BitVec 32)(w:World) :
  Calls Tryz.prog 309 #[.agg (row 16 f).toArray] w fun e w'=>e=.returned (.agg (row 16 (tq 1 f)).toArray)∧Since w w':=by
 have er:(row 16 f).toArray=#[U (f 0),U (f 1),U (f 2),U (f 3),U (f 4),U (f 5),U (f 6),U (f 7),U (f 8),U (f 9),U (f 10),U (f 11),U (f 12),U (f 13),U (f 14),U (f 15)]:=rfl;rw[er];clear er;go_enter Tryz.func309,Tryz.ntmps309
 go_wp2_with fail
 go_loopw [7] (fun i wr=>∃k:Nat,k≤4∧i=.int .i64 k∧aN wr w.heap.size 0 16 (bK 1 f k)∧aN wr (w.heap.size+1) 0 16 (fun _=>0)∧Since w wr) (fun i _=>4-(intOf i).toNat)
 case atStart=>
  exact⟨0,by omega,rfl,(aN.new w 16 f _ _ (by rfl) _ rfl).alloc _,aN.new (w.alloc _) 16 _ _ _ (by rfl) _ (by simp),((Since.refl _).alloc _).alloc _⟩
 obtain⟨k,hk,rfl,hA,hB,hS⟩:=hrel;by_cases hlt:k<4
 ·obtain⟨p1,hp1⟩:∃p1,p1=(k+1) % 4:=⟨_,rfl⟩
  obtain⟨p2,hp2⟩:∃p2,p2=(k+2) % 4:=⟨_,rfl⟩
  obtain⟨p3,hp3⟩:∃p3,p3=(k+3) % 4:=⟨_,rfl⟩
  have x1:((k:Int)+1) % 4=p1:=by omega
  have x2:((k:Int)+2) % 4=p2:=by omega
  have x3:((k:Int)+3) % 4=p3:=by omega
  have l1:p1<4:=by omega
  have l2:p2<4:=by omega
  have l3:p3<4:=by omega
  have HP:=(show Hid (p1=(k+1) % 4∧p2=(k+2) % 4∧p3=(k+3) % 4) from ⟨hp1,hp2,hp3⟩)
  have t1:((4:Int)+p1).toNat=4+p1:=by omega
  have t2:((8:Int)+p2).toNat=8+p2:=by omega
  have t3:((12:Int)+p3).toNat=12+p3:=by omega
  have b0:(k:Int)<16:=by omega
  have b1:(4:Int)+p1<16:=by omega
  have b2:(8:Int)+p2<16:=by omega
  have b3:(12:Int)+p3<16:=by omega
  have v1:IntKind.i64.wrap ((4:Int)+p1)=4+p1:=by simp[IntKind.wrap,IntKind.bits,IntKind.signed];omega
  have v2:IntKind.i64.wrap ((8:Int)+p2)=8+p2:=by simp[IntKind.wrap,IntKind.bits,IntKind.signed];omega
  have v3:IntKind.i64.wrap ((12:Int)+p3)=12+p3:=by simp[IntKind.wrap,IntKind.bits,IntKind.signed];omega
  have z1:(0:Int)≤4+p1:=by omega
  have z2:(0:Int)≤8+p2:=by omega
  have z3:(0:Int)≤12+p3:=by omega
  have c0:=hA.cell k (by omega);have c1:=hA.cell (4+p1) (by omega);have c2:=hA.cell (8+p2) (by omega);have c3:=hA.cell (12+p3) (by omega);have f0:=hA.frozen k (by omega);have f1:=hA.frozen (4+p1) (by omega);have f2:=hA.frozen (8+p2) (by omega);have f3:=hA.frozen (12+p3) (by omega);rw[Nat.zero_add] at c0 c1 c2 c3 f0 f1 f2 f3;have HA:=(show Hid (aN wr w.heap.size 0 16 (bK 1 f k)) from hA)
  have HB:=(show Hid (aN wr (w.heap.size+1) 0 16 (fun _=>0)) from hB)
  have HS:=(show Hid (Since w wr) from hS)
  have HK:=(show Hid (k≤4) from hk)
  have YE:=(show Hid (∀j,j<16→CS (bK 1 f k) k (4+p1) (8+p2) (12+p3) (lD ⟨bK 1 f k k,bK 1 f k (4+p1),bK 1 f k (8+p2),bK 1 f k (12+p3)⟩) j=bK 1 f (k+1) j) from fun j hj=>by
    have h:=CU 1 f (by omega) k hlt j hj;unfold four at h;rw[show (k+1) % 4=p1 by omega,show (k+2*1) % 4=p2 by omega,show (k+3*1) % 4=p3 by omega] at h;exact h)
  clear hA hB hS hk hp1 hp2 hp3;go_wp2_with fail
  generalize hg:bK 1 f k=g at *;clear hg;refine wp_region_any (by kernel_rfl) ?_;refine tA 0 ?_;refine tA 1 ?_;refine tA 2 ?_;refine tA 3 ?_;refine tA 4 ?_;refine tA 5 ?_;refine tA 7 ?_;refine tA 8 ?_;refine tA 10 ?_;refine tA 11 ?_;refine tA 13 ?_;refine tA 14 ?_;have cz:(fun w':World=>w'.cell? ⟨w.heap.size,k,none⟩=some (U (g k))∧w'.cell? ⟨w.heap.size,4+p1,none⟩=some (U (g (4+p1)))∧w'.cell? ⟨w.heap.size,8+p2,none⟩=some (U (g (8+p2)))∧w'.cell? ⟨w.heap.size,12+p3,none⟩=some (U (g (12+p3)))) wr.drew:=by
   refine⟨?_,?_,?_,?_⟩
   ·simpa using c0
   ·simpa using c1
   ·simpa using c2
   simpa using c3
  refine ky (S:=fun w':World=>w'.cell? ⟨w.heap.size,k,none⟩=some (U (g k))∧w'.cell? ⟨w.heap.size,4+p1,none⟩=some (U (g (4+p1)))∧w'.cell? ⟨w.heap.size,8+p2,none⟩=some (U (g (8+p2)))∧w'.cell? ⟨w.heap.size,12+p3,none⟩=some (U (g (12+p3)))) (c:=16) _ _ _ _ ?_;refine tG 6 cz ?_;refine tG 9 cz ?_;refine tG 12 cz ?_;refine tG 15 cz ?_;refine jQ (by kernel_rfl) ?_;clear cz;refine wpAny_ready (rs:=[16]) (by kernel_rfl) (by simp) (AllReady.cons rfl (fun K hK=>?_) AllReady.nil);go_simp
  refine(uA ⟨g k,g (4+p1),g (8+p2),g (12+p3)⟩ _).mono ?_;rintro e w' ⟨rfl,rfl⟩;simp only[];refine hK _ _ ?_;clear hK K
  (try simp only[Act.put,List.setIfInBounds_toArray,List.set_cons_zero,List.set_cons_succ])
  generalize hq:lD _=q;have Hq:=(show Hid (lD ⟨g k,g (4+p1),g (8+p2),g (12+p3)⟩=q) from hq)
  clear hq;refine tA 17 ?_;refine tA 18 ?_;refine tA 19 ?_;refine tA 20 ?_;refine tA 21 ?_;refine tA 22 ?_;refine wpAny_ready (rs:=[23]) (by kernel_rfl) (by simp) (AllReady.cons rfl (fun K hK=>?_) AllReady.nil);go_simp
  refine hK _ _ ?_;clear hK K
  (try simp only[Act.put,List.setIfInBounds_toArray,List.set_cons_zero,List.set_cons_succ])
  refine tA 24 ?_;refine wpAny_ready (rs:=[25]) (by kernel_rfl) (by simp) (AllReady.cons rfl (fun K hK=>?_) AllReady.nil);go_simp
  refine hK _ _ ?_;clear hK K
  (try simp only[Act.put,List.setIfInBounds_toArray,List.set_cons_zero,List.set_cons_succ])
  refine tA 26 ?_;refine wpAny_ready (rs:=[27]) (by kernel_rfl) (by simp) (AllReady.cons rfl (fun K hK=>?_) AllReady.nil);go_simp
  refine hK _ _ ?_;clear hK K
  (try simp only[Act.put,List.setIfInBounds_toArray,List.set_cons_zero,List.set_cons_succ])
  refine tA 28 ?_;refine wpAny_ready (rs:=[29]) (by kernel_rfl) (by simp) (AllReady.cons rfl (fun K hK=>?_) AllReady.nil);go_simp
  refine hK _ _ ?_;clear hK K
  (try simp only[Act.put,List.setIfInBounds_toArray,List.set_cons_zero,List.set_cons_succ])
  refine wpAny_done (by kernel_rfl) ?_ _;go_wp2_with fail
  go_roundw
  case rel=>
   have h4:=HA.o.CS k (4+p1) (8+p2) (12+p3) (by omega) (by omega) (by omega) (by omega) q;have e4:aN _ w.heap.size 0 16 (bK 1 f (k+1)):=h4.congr (fun j hj=>by rw[←YE.o j hj,←Hq.o]);exact⟨k+1,by omega,by go_num,e4.since (Since.refl _).drew,((((HB.o.other (by simp) _).other (by simp) _).other (by simp) _).other (by simp) _).since (Since.refl _).drew,((((HS.o.setCell (Nat.le_refl _) _).setCell (Nat.le_refl _) _).setCell (Nat.le_refl _) _).setCell (Nat.le_refl _) _).drew⟩
  case measure=>simp[intOf];omega
 have hke:k=4:=by omega
 subst hke;have hA3:aN wr w.heap.size 0 16 (tq 1 f):=hA.congr (fun j hj=>mr 1 f j);have GZ:=hA3.range;have hst:=hB.store Tryz.prog (tq 1 f);have hL:(row 16 (tq 1 f)).length=16:=aB _ _;clear hA;go_wp2_with (refine wpList_load_mid (by rfl) 365 _ (by rfl) w.heap.size 0 (by rfl) _ _ GZ Tryz.underlying365 (by rfl) (by rw[aB];kernel_rfl) ?_)
 exact bodyPost_ret (bz Tryz.results309 _ _ _ (w.heap.size+1) _ _ (by rfl) (hB.setRow (tq 1 f)).range Tryz.underlying365 (by rfl) (by rw[aB];kernel_rfl)) rfl ⟨rfl,hS.setCells (by omega) _ _⟩
end Sm.Sr
end
section
namespace Sm.Sr
open Go.RowKit
attribute [local go_sem] gQ eF iB iC lq iD iE iG dU eG cZ dG bu fe dC
def uB (f g:Nat→BitVec 32)(k:Nat):Nat→BitVec 32:=fun j=>if j<k then g j+f j else g j
theorem QU (f g:Nat→BitVec 32)(k j:Nat):upd (uB f g k) k (g k+f k) j=uB f g (k+1) j:=by
 unfold upd uB;by_cases e:j=k
 ·subst e;rw[if_pos rfl,if_pos (by omega)]
 rw[if_neg e];by_cases h:j<k
 ·rw[if_pos h,if_pos (by omega)]
 rw[if_neg h,if_neg (by omega)]
theorem NG (f:Nat→BitVec 32)(w:World) :
  Calls Tryz.prog 290 #[.agg (row 16 f).toArray] w fun e w'=>e=.returned (.agg (row 16 (mh f)).toArray)∧Since w w':=by
 have er:(row 16 f).toArray=#[U (f 0),U (f 1),U (f 2),U (f 3),U (f 4),U (f 5),U (f 6),U (f 7),U (f 8),U (f 9),U (f 10),U (f 11),U (f 12),U (f 13),U (f 14),U (f 15)]:=rfl;rw[er];clear er;go_enter Tryz.func290,Tryz.ntmps290
 go_wp2_with fail
 go_loopw [6] (fun i wr=>∃k:Nat,k≤10∧i=.int .i64 k∧aN wr w.heap.size 0 16 f∧aN wr (w.heap.size+1) 0 16 (fun _=>0)∧aN wr (w.heap.size+2) 0 16 (tu f k)∧Since w wr) (fun i _=>10-(intOf i).toNat)
 case atStart=>
  exact⟨0,by omega,rfl,((aN.new w 16 f _ _ (by rfl) _ rfl).alloc _).alloc _,(aN.new (w.alloc _) 16 _ _ _ (by rfl) _ (by simp)).alloc _,aN.new ((w.alloc _).alloc _) 16 f _ _ (by rfl) _ (by simp),(((Since.refl _).alloc _).alloc _).alloc _⟩
 obtain⟨k,hk,rfl,hF,hR,hA,hS⟩:=hrel;by_cases hlt:k<10
 ·generalize hg:tu f k=g at *;have HG:=(show Hid (tu f k=g) from hg)
  clear hg;have HF:=(show Hid (aN wr w.heap.size 0 16 f) from hF)
  have HR:=(show Hid (aN wr (w.heap.size+1) 0 16 (fun _=>0)) from hR)
  clear hF hR;have GZ:=hA.range;go_wp2_with (refine wpList_load_mid (by rfl) 365 _ (by rfl) (w.heap.size+2) 0 (by rfl) _ _ GZ Tryz.underlying365 (by rfl) (by rw[aB];kernel_rfl) ?_)
  refine(CV g _).mono ?_;rintro e w1 ⟨rfl,h1⟩;go_wp2_with fail
  refine(zm (tq 0 g) _).mono ?_;rintro e w2 ⟨rfl,h2⟩;have h12:=h1.trans h2;have hst:=(hA.since h12).store Tryz.prog (tq 1 (tq 0 g));have hL:(row 16 (tq 1 (tq 0 g))).length=16:=aB _ _;go_wp2_with fail
  refine⟨⟨k+1,by omega,by go_num,?_,?_,?_,?_⟩,by simp[intOf];omega⟩
  ·exact(HF.o.since h12).setRow_other _ (by omega)
  ·exact(HR.o.since h12).setRow_other _ (by omega)
  ·have e1:tu f (k+1)=tq 1 (tq 0 g):=by rw[←HG.o];rfl
   rw[e1];exact(hA.since h12).setRow _
  exact(hS.trans h12).setCells (by omega) _ _
 have hke:k=10:=by omega
 subst hke;generalize hg:tu f 10=g at *;have HG:=(show Hid (tu f 10=g) from hg)
 clear hg;go_wp2_with fail
 go_loopw [12] (fun i wr=>∃k:Nat,k≤16∧i=.int .i64 k∧aN wr w.heap.size 0 16 f∧aN wr (w.heap.size+1) 0 16 (fun _=>0)∧aN wr (w.heap.size+2) 0 16 (uB f g k)∧Since w wr) (fun i _=>16-(intOf i).toNat)
 case atStart=>exact⟨0,by omega,rfl,hF,hR,hA.congr (fun j _=>rfl),hS⟩
 obtain⟨k,hk2,rfl,hF2,hR2,hA2,hS2⟩:=hrel;by_cases hlt2:k<16
 ·have c0:=hF2.cell k (by omega);have c1:=hA2.cell k (by omega);have f1:=hA2.frozen k (by omega);rw[Nat.zero_add] at c0 c1 f1;have e0:uB f g k k=g k:=by unfold uB;rw[if_neg (by omega)]
  rw[e0] at c1;clear e0;have lh:=(show Hid (aN wr w.heap.size 0 16 f) from hF2)
  have HR2:=(show Hid (aN wr (w.heap.size+1) 0 16 (fun _=>0)) from hR2)
  have HA2:=(show Hid (aN wr (w.heap.size+2) 0 16 (uB f g k)) from hA2)
  have HS2:=(show Hid (Since w wr) from hS2)
  clear hF hR hA hF2 hR2 hA2 hS2;go_wp2_with fail
  go_region
  all_goals
   go_wp2_with fail
   go_roundw
   case rel=>
    have h3:=HA2.o.set k hlt2 (g k+f k);rw[Nat.zero_add] at h3;exact⟨k+1,by omega,by go_num,(lh.o.other (by simp;omega) _).since (Since.refl _).drew,(HR2.o.other (by simp) _).since (Since.refl _).drew,(h3.congr (fun j _=>QU f g k j)).since (Since.refl _).drew,(HS2.o.setCell (by simp;omega) _).drew⟩
   case measure=>simp[intOf];omega
 have hke:k=16:=by omega
 subst hke;have hA3:aN wr (w.heap.size+2) 0 16 (mh f):=hA2.congr (fun j hj=>by unfold uB mh;rw[if_pos hj,HG.o]);have GZ:=hA3.range;have hst:=hR2.store Tryz.prog (mh f);have hL:(row 16 (mh f)).length=16:=aB _ _;go_wp2_with (refine wpList_load_mid (by rfl) 365 _ (by rfl) (w.heap.size+2) 0 (by rfl) _ _ GZ Tryz.underlying365 (by rfl) (by rw[aB];kernel_rfl) ?_)
 exact bodyPost_ret (bz Tryz.results290 _ _ _ (w.heap.size+1) _ _ (by rfl) (hR2.setRow (mh f)).range Tryz.underlying365 (by rfl) (by rw[aB];kernel_rfl)) rfl ⟨rfl,hS2.setCells (by omega) _ _⟩
end Sm.Sr
end
section
namespace Sm.Sr
open Go.RowKit
attribute [local go_sem] gQ eF iB iC lq iD iE iG dU eG cZ dG bu fe dC
theorem gU (s:ByteArray)(a b i:Nat)(h:i<(s.extract a b).size)(hb:b≤s.size):(s.extract a b)[i]=aT s (a+i):=by
 have h2:a+i<s.size:=by simp[ByteArray.size_extract] at h;omega
 unfold aT;rw[ByteArray.getElem_extract];rw[List.getD_eq_getElem?_getD,List.getElem?_eq_getElem (by simpa using h2)]
 rfl
theorem CW (s:ByteArray)(k e:Nat)(he:e≤s.size)(h0:0<(s.extract (4*k) e).size)(h1:1<(s.extract (4*k) e).size)(h2:2<(s.extract (4*k) e).size)(h3:3<(s.extract (4*k) e).size) :
  nH (s.extract (4*k) e)[0] (s.extract (4*k) e)[1] (s.extract (4*k) e)[2] (s.extract (4*k) e)[3]=aC s k:=by
 unfold aC;rw[gU s _ _ _ _ (by omega),gU s _ _ _ _ (by omega),gU s _ _ _ _ (by omega),gU s _ _ _ _ (by omega),Nat.add_zero]
def uC (key:ByteArray)(k:Nat):Nat→BitVec 32:=fun j=>
 if j=0 then 1634760805#32 else if j=1 then 857760878#32 else if j=2 then 2036477234#32 else if j=3 then 1797285236#32
 else if j<4+k then aC key (j-4) else 0
def uD (key ah:ByteArray)(k:Nat):Nat→BitVec 32:=fun j=>if j<13 then uC key 8 j else if j<13+k then aC ah (j-13) else 0
theorem QV (key:ByteArray)(k j:Nat):upd (uC key k) (4+k) (aC key k) j=uC key (k+1) j:=by
 unfold upd uC;by_cases e:j=4+k
 ·subst e;rw[if_pos rfl,if_neg (by omega),if_neg (by omega),if_neg (by omega),if_neg (by omega),if_pos (by omega),show 4+k-4=k by omega]
 rw[if_neg e];by_cases h:j<4+k
 ·rw[if_pos h,if_pos (show j<4+(k+1) by omega)]
 rw[if_neg h,if_neg (show ¬j<4+(k+1) by omega)]
theorem QW (key ah:ByteArray)(k j:Nat):upd (uD key ah k) (13+k) (aC ah k) j=uD key ah (k+1) j:=by
 unfold upd uD;by_cases e:j=13+k
 ·subst e;rw[if_pos rfl,if_neg (by omega),if_pos (by omega),show 13+k-13=k by omega]
 rw[if_neg e];by_cases h:j<13+k
 ·rw[if_pos h,if_pos (show j<13+(k+1) by omega)]
 rw[if_neg h,if_neg (show ¬j<13+(k+1) by omega)]
theorem QX (key ah:ByteArray)(j:Nat)(hj:j<16):uD key ah 3 j=dx key ah 0#32 j:=by
 unfold uD uC dx;by_cases h:j<13
 ·rw[if_pos h];by_cases h12:j<12
  ·rw[if_pos (show j<4+8 by omega),if_pos h12]
  rw[if_neg (show ¬j<4+8 by omega),if_neg h12,if_pos (show j=12 by omega)];rfl
 rw[if_neg h,if_pos (by omega),if_neg (by omega),if_neg (by omega),if_neg (by omega),if_neg (by omega),if_neg (by omega),if_neg (by omega)]
theorem QY (key ah:ByteArray)(w:World)(hk:key.size=32)(hn:ah.size=12) :
  Calls Tryz.prog 288 #[.string key,.string ah] w fun e w'=>e=.returned (.agg (row 16 (dx key ah 0#32)).toArray)∧Since w w':=by
 go_enter Tryz.func288,Tryz.ntmps288
 go_wp2_with fail
 go_loopw [9] (fun i wr=>∃k:Nat,k≤8∧i=.int .i64 k∧aN wr w.heap.size 0 16 (fun _=>0)∧aN wr (w.heap.size+1) 0 16 (uC key k)∧Since w wr) (fun i _=>8-(intOf i).toNat)
 case atStart=>
  refine⟨0,by omega,rfl,(aN.new w 16 (fun _=>0) _ _ (by rfl) _ rfl).alloc _,aN.new (w.alloc _) 16 _ _ _ (by rfl) _ (by simp),((Since.refl _).alloc _).alloc _⟩
 obtain⟨k,hk8,rfl,hR,hA,hS⟩:=hrel;by_cases hlt:k<8
 ·have hex:4≤(key.extract (4*k) 32).size:=by simp[ByteArray.size_extract];omega
  have HW:=(show Hid _ from CW key k 32 (by omega) (by omega) (by omega) (by omega) (by omega))
  have c1:=hA.cell (4+k) (by omega);have f1:=hA.frozen (4+k) (by omega);rw[Nat.zero_add] at c1 f1;have t1:((4:Int)+k).toNat=4+k:=by omega
  have t2:((4:Int)*k).toNat=4*k:=by omega
  have HR:=(show Hid (aN wr w.heap.size 0 16 (fun _=>0)) from hR)
  have HA:=(show Hid (aN wr (w.heap.size+1) 0 16 (uC key k)) from hA)
  clear hR hA;go_wp2_with fail
  refine(rC _ _ hex).mono ?_;rintro e w1 ⟨rfl,n,rfl⟩;rw[HW.o];go_wp2_with fail
  go_roundw
  case rel=>
   have h3:=(HA.o.drewN n).set (4+k) (by omega) (aC key k);rw[Nat.zero_add] at h3;exact⟨k+1,by omega,by go_num,(HR.o.drewN n).other (by simp) _,h3.congr (fun j _=>QV key k j),(hS.drewN n).setCell (by simp) _⟩
  case measure=>simp[intOf];omega
 have hke:k=8:=by omega
 subst hke;go_wp2_with fail
 go_loopw [21] (fun i wr=>∃k:Nat,k≤3∧i=.int .i64 k∧aN wr w.heap.size 0 16 (fun _=>0)∧aN wr (w.heap.size+1) 0 16 (uD key ah k)∧Since w wr) (fun i _=>3-(intOf i).toNat)
 case atStart=>
  refine⟨0,by omega,rfl,hR,hA.congr (fun j hj=>?_),hS⟩;unfold uD;by_cases h:j<13
  ·rw[if_pos h]
  rw[if_neg h,if_neg (by omega)];unfold uC;rw[if_neg (by omega),if_neg (by omega),if_neg (by omega),if_neg (by omega),if_neg (by omega)]
 clear hR hA hS;obtain⟨k,hk3,rfl,hR,hA,hS⟩:=hrel;by_cases hlt2:k<3
 ·have hex:4≤(ah.extract (4*k) 12).size:=by simp[ByteArray.size_extract];omega
  have HW:=(show Hid _ from CW ah k 12 (by omega) (by omega) (by omega) (by omega) (by omega))
  have c1:=hA.cell (13+k) (by omega);have f1:=hA.frozen (13+k) (by omega);rw[Nat.zero_add] at c1 f1;have t1:((13:Int)+k).toNat=13+k:=by omega
  have t2:((4:Int)*k).toNat=4*k:=by omega
  have HR:=(show Hid (aN wr w.heap.size 0 16 (fun _=>0)) from hR)
  have HA:=(show Hid (aN wr (w.heap.size+1) 0 16 (uD key ah k)) from hA)
  clear hR hA;go_wp2_with fail
  refine(rC _ _ hex).mono ?_;rintro e w1 ⟨rfl,n,rfl⟩;rw[HW.o];go_wp2_with fail
  go_roundw
  case rel=>
   have h3:=(HA.o.drewN n).set (13+k) (by omega) (aC ah k);rw[Nat.zero_add] at h3
   (repeat apply Exists.intro)
   exact⟨⟨k+1,by omega,by go_num,(HR.o.drewN n).other (by simp) _,h3.congr (fun j _=>QW key ah k j),(hS.drewN n).setCell (by simp) _⟩,rfl⟩
  case measure=>simp[intOf];omega
 have hke:k=3:=by omega
 subst hke;have hA3:aN wr (w.heap.size+1) 0 16 (dx key ah 0#32):=hA.congr (fun j hj=>QX key ah j hj);have GZ:=hA3.range;have hst:=hR.store Tryz.prog (dx key ah 0#32);have hL:(row 16 (dx key ah 0#32)).length=16:=aB _ _;clear hA;go_wp2_with (refine wpList_load_mid (by rfl) 365 _ (by rfl) (w.heap.size+1) 0 (by rfl) _ _ GZ Tryz.underlying365 (by rfl) (by rw[aB];kernel_rfl) ?_)
 exact bodyPost_ret (bz Tryz.results288 _ _ _ w.heap.size _ _ (by rfl) (hR.setRow (dx key ah 0#32)).range Tryz.underlying365 (by rfl) (by rw[aB];kernel_rfl)) rfl ⟨rfl,hS.setCells (by omega) _ _⟩
end Sm.Sr
end
section
namespace Sm.Sr
open Go.RowKit
attribute [local go_sem] gQ eF iB iC lq iD iE iG dU eG cZ dG bu fe dC
def jJ (f:Nat→Int):Nat→Value:=fun j=>.int .u8 (f j)
def tC (f:Nat→BitVec 32)(k:Nat):Nat→Int:=fun j=>if j<k then byteOf f j else 0
theorem NH (f:Nat→BitVec 32)(k j:Nat):aJ (jJ (tC f k)) k (.int .u8 (byteOf f k)) j=jJ (tC f (k+1)) j:=by
 unfold aJ jJ tC;by_cases e:j=k
 ·subst e;rw[if_pos rfl,if_pos (by omega)]
 rw[if_neg e];by_cases h:j<k
 ·rw[if_pos h,if_pos (by omega)]
 rw[if_neg h,if_neg (by omega)]
def ak (n:Nat)(g:Nat→Value):List Value:=(List.range n).map g
theorem ax (n:Nat)(g:Nat→Value):(ak n g).length=n:=by simp[ak]
theorem bM (n:Nat)(g:Nat→Value)(j:Nat)(hj:j<n):(ak n g)[j]?=some (g j):=by simp[ak,hj]
theorem _root_.Go.Proofs.YtlgbfkcpdelcbaaGreatDoor.Sm.aA.range {w:World}{b n:Nat}{g:Nat→Value}(h:aA w b n g):w.rangeAt b 0 (ak n g):=fun j v hv=>by
 have hj:j<n:=by have:=(List.getElem?_eq_some_iff.1 hv).1;rwa [ax] at this
 rw[bM n g j hj] at hv;rw[Nat.zero_add,h.cell j hj,hv]
theorem _root_.Go.Proofs.YtlgbfkcpdelcbaaGreatDoor.Sm.aA.there {w:World}{b n:Nat}{g:Nat→Value}(h:aA w b n g):w.there b 0 n:=fun j hj=>by
 rw[Nat.zero_add];exact⟨by rw[h.cell j hj];rfl,h.frozen j hj⟩
theorem _root_.Go.Proofs.YtlgbfkcpdelcbaaGreatDoor.Sm.aA.setRow {w:World}{b n:Nat}{g:Nat→Value}(h:aA w b n g)(g':Nat→Value):aA (w.setCells b 0 (ak n g')) b n g' where
 cell j hj:=by
  have:=World.rangeAt_setCells_same w b 0 (ak n g') (by rw[ax];exact h.there) j (g' j) (bM n g' j hj)
  rwa [Nat.zero_add] at this
 frozen j hj:=by
  have:=(World.there_setCells h.there b 0 (ak n g') j hj).2
  rwa [Nat.zero_add] at this
theorem lu (n:Nat)(f:Nat→Int):∀v ∈ ak n (jJ f),v.oneCell'=true:=by
 intro v hv;simp only[ak,List.mem_map] at hv;obtain⟨i,_,rfl⟩:=hv
 rfl
theorem _root_.Go.Proofs.YtlgbfkcpdelcbaaGreatDoor.Sm.aA.store {w:World}{b n:Nat}{g:Nat→Value}(h:aA w b n g)(P:Program)(f:Nat→Int):(storeCells ⟨b,0,none⟩ (ak n (jJ f))).run P w=.ok () (w.setCells b 0 (ak n (jJ f))):=by
 have:=run_storeCells_cells (P:=P) b 0 (ak n (jJ f)) 0 w (fun j hj=>by rw[ax] at hj;simpa using (h.there j hj).1) (fun j hj=>by rw[ax] at hj;simpa using (h.there j hj).2) (lu n f)
 simpa using this
theorem Bq (j:Nat)(hj:j<64):(List.replicate 64 (Value.int .u8 0)).toArray[j]?=some (jJ (fun _=>0) j):=by
 rw[List.getElem?_toArray,List.getElem?_replicate,if_pos hj];rfl
theorem _root_.Go.Proofs.YtlgbfkcpdelcbaaGreatDoor.Sm.aA.zeros (w:World)(t:TypeId)(cs:Array Value)(e:cs=(List.replicate 64 (Value.int .u8 0)).toArray)(k:Nat)(hk:k=w.heap.size):aA (w.alloc (.cells cs t)) k 64 (jJ (fun _=>0)):=
 aA.new w 64 _ t cs (fun j hj=>by rw[e];exact Bq j hj) k hk
theorem nV (f:Nat→BitVec 32)(w:World) :
  Calls Tryz.prog 289 #[.agg (row 16 f).toArray] w fun e w'=>e=.returned (.agg (ak 64 (jJ (byteOf f))).toArray)∧Since w w':=by
 have hL:(row 16 f).length=16:=aB _ _;go_enter Tryz.func289,Tryz.ntmps289
 go_wp2_with fail
 go_loopw [5] (fun i wr=>∃k:Nat,k≤64∧i=.int .i64 k∧aN wr w.heap.size 0 16 f∧aA wr (w.heap.size+1) 64 (jJ (fun _=>0))∧aA wr (w.heap.size+2) 64 (jJ (tC f k))∧Since w wr) (fun i _=>64-(intOf i).toNat)
 case atStart=>
  refine⟨0,by omega,rfl,((aN.new w 16 f _ _ (by rfl) _ rfl).alloc _).alloc _,?_,?_,(((Since.refl _).alloc _).alloc _).alloc _⟩
  ·refine aA.since (aA.new (w.alloc _) 64 _ _ _ (fun j hj=>Bq j hj) _ (by simp)) ((Since.refl _).alloc _)
  refine aA.new ((w.alloc _).alloc _) 64 _ _ _ (fun j hj=>Bq j hj) _ (by simp)
 obtain⟨k,hk,rfl,hF,hR,hA,hS⟩:=hrel;by_cases hlt:k<64
 ·have c0:=hF.cell (k / 4) (by omega);have c1:=hA.cell k hlt;have f1:=hA.frozen k hlt;rw[Nat.zero_add] at c0;have HF:=(show Hid (aN wr w.heap.size 0 16 f) from hF)
  have HR:=(show Hid (aA wr (w.heap.size+1) 64 (jJ (fun _=>0))) from hR)
  have HA:=(show Hid (aA wr (w.heap.size+2) 64 (jJ (tC f k))) from hA)
  clear hF hR hA;have z1:(0:Int)≤8*((k:Int) % 4):=by omega
  have z2:((8:Int)*((k:Int) % 4)).toNat=8*(k % 4):=by omega
  go_wp2_with fail
  go_roundw
  case rel=>
   have h3:=HA.o.set k hlt (.int .u8 (byteOf f k));exact⟨k+1,by omega,by go_num,HF.o.other (by simp;omega) _,HR.o.other (by simp) _,h3.congr (fun j _=>NH f k j),hS.setCell (by simp;omega) _⟩
  case measure=>simp[intOf];omega
 have hke:k=64:=by omega
 subst hke;have hA3:aA wr (w.heap.size+2) 64 (jJ (byteOf f)):=hA.congr (fun j hj=>by unfold jJ tC;rw[if_pos hj]);have GZ:=hA3.range;have hst:=hR.store Tryz.prog (byteOf f);have b2K:(ak 64 (jJ (byteOf f))).length=64:=ax _ _;clear hA;go_wp2_with (refine wpList_load_mid (by rfl) 367 _ (by rfl) (w.heap.size+2) 0 (by rfl) _ _ GZ Tryz.underlying367 (by rfl) (by rw[ax];kernel_rfl) ?_)
 exact bodyPost_ret (bz Tryz.results289 _ _ _ (w.heap.size+1) _ _ (by rfl) (hR.setRow (jJ (byteOf f))).range Tryz.underlying367 (by rfl) (by rw[ax];kernel_rfl)) rfl ⟨rfl,hS.setCells (by omega) _ _⟩
end Sm.Sr
end
section
namespace Sm.Sr
open Go.RowKit
attribute [local go_sem] gQ eF iB iC lq iD iE iG dU eG cZ dG bu fe dC
theorem dV (w:World)(xs:List Int)(k m cap:Nat)(hm:m=xs.length)(hb:∀i,i<xs.length→w.cell? ⟨k,i,none⟩=some (.int .u8 (xs.getD i 0))) :
  (convert 159 9 (.slice (some ⟨k,0,none⟩) m cap)).run Tryz.prog w=.ok (.string (strOfNums xs)) w:=by
 subst hm;exact run_convert_bytes_arg _ 159 5 Tryz.underlying159 Tryz.underlying5 k 0 xs.length cap xs rfl (fun i hi=>by rw[Nat.zero_add];exact hb i hi) 9 Tryz.underlying9
theorem zH (key ah:ByteArray)(w:World) :
  Calls Tryz.prog 287 #[.string key,.string ah] w fun e w'=>e=.returned (.bool (decide (key.size=32)&&decide (ah.size=12)))∧w'=w:=by
 by_cases h1:key.size=32
 ·by_cases h2:ah.size=12
  ·go_enter Tryz.func287,Tryz.ntmps287
   go_wp2_with fail
   go_ret;exact⟨by simp[h1,h2],rfl⟩
  go_enter Tryz.func287,Tryz.ntmps287
  go_wp2_with fail
  go_ret;refine⟨?_,rfl⟩;simp[h1,h2];omega
 go_enter Tryz.func287,Tryz.ntmps287
 go_wp2_with fail
 go_ret;refine⟨?_,rfl⟩;simp[h1]
end Sm.Sr
end
section
namespace Sm.Sr
open Go.RowKit
attribute [local go_sem] gQ eF iB iC lq iD iE iG dU eG cZ dG bu fe dC
def NI (a b:Int):Int:=bits BinOp.xor IntKind.u8 a b
def iY (key ah s:ByteArray)(i:Nat):Int:=NI (aT s i).toNat (byteOf (mh (dx key ah (BitVec.ofNat 32 (1+i / 64)))) (i % 64))
def bR (key ah s:ByteArray):List Int:=(List.range s.size).map (iY key ah s)
theorem a5X (key ah s:ByteArray)(w:World)(hk:¬(key.size=32∧ah.size=12)) :
  Calls Tryz.prog 256 #[.string key,.string ah,.string s] w fun e w'=>e=.returned (.tuple #[.string ⟨#[]⟩,.iface 32 (.int .i64 1)])∧w'=w:=by
 have hs:(decide (key.size=32)&&decide (ah.size=12))=false:=by
  rw[Bool.and_eq_false_iff];by_cases h1:key.size=32
  ·right;simp;intro h2;exact hk ⟨h1,h2⟩
  left;simp[h1]
 go_enter Tryz.func256,Tryz.ntmps256
 go_wp2_with fail
 refine(zH _ _ _).mono ?_;rintro e w1 ⟨rfl,rfl⟩;rw[hs];go_wp2_with fail
 go_ret2;exact⟨rfl,rfl⟩
def gV (key ah s:ByteArray)(m:Nat):Nat→Value:=fun j=>.int .u8 (if j<m then iY key ah s j else 0)
theorem CX (key ah s:ByteArray)(m j:Nat):aJ (gV key ah s m) m (.int .u8 (iY key ah s m)) j=gV key ah s (m+1) j:=by
 unfold aJ gV;by_cases e:j=m
 ·subst e;rw[if_pos rfl,if_pos (by omega)]
 rw[if_neg e];by_cases h:j<m
 ·rw[if_pos h,if_pos (by omega)]
 rw[if_neg h,if_neg (by omega)]
theorem Zq (t:Nat):Value.int .u32 (IntKind.u32.wrap ((1:Int)+t))=U (BitVec.ofNat 32 (1+t)):=by
 unfold U;rw[wrap_u32];have e:((1:Int)+t)=((1+t:Nat):Int):=by omega
 rw[e,BitVec.ofInt_natCast]
theorem Br (key ah s:ByteArray)(w:World)(hk:key.size=32)(hn:ah.size=12)(hz:s.size≤100000) :
  Calls Tryz.prog 256 #[.string key,.string ah,.string s] w fun e w'=>e=.returned (.tuple #[.string (strOfNums (bR key ah s)),.nilIface])∧Since w w':=by
 have hs:(decide (key.size=32)&&decide (ah.size=12))=true:=by simp[hk,hn]
 obtain⟨ti,hti,htz,hb1,hs1⟩:∃i,Tryz.prog.info? 5=some i∧i.zero=some (.int .u8 0)∧i.bytes=1∧i.size=1:=⟨_,rfl,by kernel_rfl,by kernel_rfl,by kernel_rfl⟩
 have hmk:=fun w=>run_make (P:=Tryz.prog) w 159 5 ti _ Tryz.underlying159 hti htz .i64 .i64 0 (s.size:Int) (by omega) (by omega) (by rw[hb1];omega) (by omega)
 rw[hs1] at hmk;clear hti htz hb1 hs1;go_enter Tryz.func256,Tryz.ntmps256
 go_wp2_with fail
 refine(zH _ _ _).mono ?_;rintro e w1 ⟨rfl,rfl⟩;rw[hs];go_wp2_with fail
 refine(QY key ah _ hk hn).mono ?_;rintro e w2 ⟨rfl,h2⟩;have hL:(row 16 (dx key ah 0#32)).length=16:=aB _ _;go_wp2_with fail
 rw[aN.store (f:=fun _=>0) (aN.new _ _ _ _ _ (by rfl) _ rfl)];go_simp
 generalize hw3:World.setCells _ _ _ _=w3;have hA:aN w3 w2.heap.size 0 16 (dx key ah 0#32):=by rw[←hw3];exact aN.setRow (f:=fun _=>0) (aN.new _ _ _ _ _ (by rfl) _ rfl) _
 have hS:Since w1 w3:=by rw[←hw3];exact(h2.alloc _).setCells h2.size _ _
 have hb2:=h2.size;have hbl:w2.heap.size<w3.heap.size:=hA.lt (by omega);clear hw3 hL;generalize w2.heap.size=b at *;clear h2 hs;go_wp2_with fail
 clear hmk;go_loopw [10,9] (fun i o wr=>∃t:Nat,(t=0∨64*(t-1)<s.size)∧i=.int .i64 (64*t)∧o=.slice (some ⟨w3.heap.size,0,none⟩) (min (64*t) s.size) s.size∧aA wr w3.heap.size s.size (gV key ah s (64*t))∧(∃n,aN wr b 0 16 (dx key ah n))∧Since w1 wr∧w3.heap.size<wr.heap.size) (fun i _ _=>s.size+64-(intOf i).toNat)
 case atStart=>
  refine⟨0,Or.inl rfl,rfl,by simp,aA.new w3 s.size _ _ _ (fun j hj=>by simp[madeCells,hj,Nat.mod_one,gV]) _ rfl,⟨0#32,hA.alloc _⟩,hS.alloc _,by simp⟩
 clear hA hS;obtain⟨t,ht,rfl,rfl,hC,⟨n0,hA⟩,hS,hlw⟩:=hrel;by_cases hlt:64*t<s.size
 ·simp only[Nat.min_eq_left (Nat.le_of_lt hlt)];have c1:=hA.cell 12 (by omega);have f1:=hA.frozen 12 (by omega);rw[Nat.zero_add] at c1 f1;have q1:(64*(t:Int)) / 64=t:=by omega
  have q2:IntKind.i64.wrap (1+(t:Int))=1+t:=by simp[IntKind.wrap,IntKind.bits,IntKind.signed];omega
  have q3:IntKind.u32.wrap (1+(t:Int))=1+t:=by simp[IntKind.wrap,IntKind.bits,IntKind.signed];omega
  have q4:(64*(t:Int))<s.size:=by omega
  have HT:=(show Hid (t=0∨64*(t-1)<s.size) from ht)
  clear ht;have hU:=Zq t;rw[q3] at hU;have Zr:aN (wr.setCell ⟨b,12,none⟩ (.int .u32 (1+(t:Int)))) b 0 16 (dx key ah (BitVec.ofNat 32 (1+t))):=by
   have h4:=hA.set 12 (by omega) (BitVec.ofNat 32 (1+t));rw[Nat.zero_add] at h4;rw[hU];refine h4.congr (fun j _=>?_);unfold upd dx;by_cases e:j=12
   ·subst e;simp
   rw[if_neg e,if_neg e,if_neg e]
  have tF:aA (wr.setCell ⟨b,12,none⟩ (.int .u32 (1+(t:Int)))) w3.heap.size s.size (gV key ah s (64*t)):=hC.other (by simp;omega) _;have cz:Since w1 (wr.setCell ⟨b,12,none⟩ (.int .u32 (1+(t:Int)))):=hS.setCell hb2 _;have hsz:(wr.setCell ⟨b,12,none⟩ (.int .u32 (1+(t:Int)))).heap.size=wr.heap.size:=by simp
  have GZ:=Zr.range;have HA4:=(show Hid _ from Zr)
  have qZ:=(show Hid _ from tF)
  have fO:=(show Hid _ from cz)
  clear hU Zr hA hS hC tF cz;go_wp2_with (refine wpList_load_mid (by rfl) 365 _ (by rfl) b 0 (by rfl) _ _ GZ Tryz.underlying365 (by rfl) (by rw[aB];kernel_rfl) ?_)
  generalize World.setCell wr _ _=w4 at *;refine(NG _ _).mono ?_;rintro e w5 ⟨rfl,h5⟩;go_wp2_with fail
  refine(nV _ _).mono ?_;rintro e w6 ⟨rfl,h6⟩;have hL6:(ak 64 (jJ (byteOf (mh (dx key ah (BitVec.ofNat 32 (1+t))))))).length=64:=ax _ _;generalize hg:mh (dx key ah (BitVec.ofNat 32 (1+t)))=g at *;have HG:=(show Hid (mh (dx key ah (BitVec.ofNat 32 (1+t)))=g) from hg)
  clear hg GZ c1 f1;go_wp2_with fail
  rw[aA.store (aA.zeros _ _ _ (by rfl) _ rfl)];go_simp
  have Zt:=h5.trans h6;generalize hw7:World.setCells _ _ _ _=w7;have hD:aA w7 w6.heap.size 64 (jJ (byteOf g)):=by rw[←hw7];exact aA.setRow (aA.zeros _ _ _ (by rfl) _ rfl) _
  have h47:Since w4 w7:=by rw[←hw7];exact(Zt.alloc _).setCells Zt.size _ _
  have QZ:=qZ.o.since h47;have VA:=HA4.o.since h47;have sU:Since w1 w7:=Since.trans fO.o h47;have hz6:w4.heap.size≤w6.heap.size:=Zt.size;clear hw7 HA4 qZ fO h5 h6 hL6 h47 Zt;generalize w6.heap.size=d at *;have l8:w3.heap.size<d:=by omega
  by_cases hm:64*t+64≤s.size
  ·have hm2:(64:Int)≤(s.size:Int)-64*t:=by omega
   go_wp2_with fail
   go_loopw [43,9] (fun i o wr=>∃k:Nat,k≤64∧i=.int .i64 k∧o=.slice (some ⟨w3.heap.size,0,none⟩) (64*t+k) s.size∧aA wr w3.heap.size s.size (gV key ah s (64*t+k))∧aA wr d 64 (jJ (byteOf g))∧aN wr b 0 16 (dx key ah (BitVec.ofNat 32 (1+t)))∧Since w1 wr∧w3.heap.size<wr.heap.size) (fun i _ _=>64-(intOf i).toNat)
   case atStart=>exact⟨0,by omega,rfl,rfl,QZ,hD,VA,sU,by have:=hD.lt (by omega);omega⟩
   clear QZ hD VA sU;obtain⟨k,hk2,rfl,rfl,hC,hD,hA,hS,hl2⟩:=hrel;by_cases hkl:k<64
   ·have a1:=hC.cell (64*t+k) (by omega);have f1:=hC.frozen (64*t+k) (by omega);have d1:=hD.cell k (by omega);have e1:gV key ah s (64*t) (64*t+k)=.int .u8 0:=by unfold gV;rw[if_neg (by omega)]
    have e2:gV key ah s (64*t+k) (64*t+k)=.int .u8 0:=by unfold gV;rw[if_neg (by omega)]
    rw[e2] at a1;clear e1 e2;unfold jJ at d1;have z0:(0:Int)≤64*t+k:=by omega
    have z1:(64*(t:Int)+k)<s.size:=by omega
    have z2:(64*(t:Int)+k).toNat=64*t+k:=by omega
    have z3:IntKind.i64.wrap (64*(t:Int)+k)=64*t+k:=by simp[IntKind.wrap,IntKind.bits,IntKind.signed];omega
    have z4:(k:Int)<64:=by omega
    have z5:64*t+k+1≤s.size:=by omega
    have z6:64*t+k<s.size:=by omega
    have hdl:=hD.lt (by omega);have n1:¬w3.heap.size=d:=by omega
    have n2:¬wr.heap.size=d:=by omega
    have n3:¬wr.heap.size=w3.heap.size:=by omega
    have HC:=(show Hid (aA wr w3.heap.size s.size (gV key ah s (64*t+k))) from hC)
    have HD:=(show Hid (aA wr d 64 (jJ (byteOf g))) from hD)
    have HA:=(show Hid (aN wr b 0 16 (dx key ah (BitVec.ofNat 32 (1+t)))) from hA)
    have HS:=(show Hid (Since w1 wr) from hS)
    have HX:Hid (iY key ah s (64*t+k)=NI s[64*t+k].toNat (byteOf g k)):=by
     show iY key ah s (64*t+k)=_
     unfold iY aT;rw[show (64*t+k) / 64=t by omega,show (64*t+k) % 64=k by omega,HG.o,List.getD_eq_getElem?_getD,List.getElem?_eq_getElem (by simpa using z6)]
     rfl
    generalize byteOf g k=y at *;clear hC hD hA hS;go_wp2_with fail
    go_region_held3 (fun w'=>w'.cell? ⟨d,k,none⟩=some (.int .u8 y)) (simp[d1,n1,n2,World.cell?_alloc_some,World.cell?_setCell_far]) (fail)
    all_goals
     have hC2:=HC.o.set (64*t+k) (by omega) (.int .u8 (iY key ah s (64*t+k)));have gW:=hC2.congr (fun j _=>CX key ah s (64*t+k) j);rw[HX.o] at gW;unfold NI at gW;clear a1 f1 d1;go_wp2_with fail
     go_roundw
     case rel=>
      exact⟨k+1,by omega,by go_num,rfl,gW.since (((Since.refl _).alloc _).drew),(HD.o.other (by simp;omega) _).since (((Since.refl _).alloc _).drew),(HA.o.other (by simp;omega) _).since (((Since.refl _).alloc _).drew),((HS.o.setCell (by simp;omega) _).alloc _).drew,by simp;omega⟩
     case measure=>simp[intOf];omega
   have hke:k=64:=by omega
   subst hke;go_wp2_with fail
   refine⟨⟨t+1,Or.inr (by omega),by congr 1<;>omega,by congr 1<;>omega,hC.congr (fun j hj=>?_),⟨_,hA⟩,hS,hl2⟩,by simp[intOf];omega⟩;unfold gV;by_cases hj2:j<64*t+64
   ·rw[if_pos hj2,if_pos (by omega)]
   rw[if_neg hj2,if_neg (by omega)]
  have hm2:¬(64:Int)≤(s.size:Int)-64*t:=by omega
  have hm3:(s.size:Int)-64*t<64:=by omega
  go_wp2_with fail
  go_loopw [43,9] (fun i o wr=>∃k:Nat,k≤(s.size-64*t)∧i=.int .i64 k∧o=.slice (some ⟨w3.heap.size,0,none⟩) (64*t+k) s.size∧aA wr w3.heap.size s.size (gV key ah s (64*t+k))∧aA wr d 64 (jJ (byteOf g))∧aN wr b 0 16 (dx key ah (BitVec.ofNat 32 (1+t)))∧Since w1 wr∧w3.heap.size<wr.heap.size) (fun i _ _=>(s.size-64*t)-(intOf i).toNat)
  case atStart=>exact⟨0,by omega,rfl,rfl,QZ,hD,VA,sU,by have:=hD.lt (by omega);omega⟩
  clear QZ hD VA sU;obtain⟨k,hk2,rfl,rfl,hC,hD,hA,hS,hl2⟩:=hrel;by_cases hkl:k<(s.size-64*t)
  ·have a1:=hC.cell (64*t+k) (by omega);have f1:=hC.frozen (64*t+k) (by omega);have d1:=hD.cell k (by omega);have e1:gV key ah s (64*t) (64*t+k)=.int .u8 0:=by unfold gV;rw[if_neg (by omega)]
   have e2:gV key ah s (64*t+k) (64*t+k)=.int .u8 0:=by unfold gV;rw[if_neg (by omega)]
   rw[e2] at a1;clear e1 e2;unfold jJ at d1;have z0:(0:Int)≤64*t+k:=by omega
   have z1:(64*(t:Int)+k)<s.size:=by omega
   have z2:(64*(t:Int)+k).toNat=64*t+k:=by omega
   have z3:IntKind.i64.wrap (64*(t:Int)+k)=64*t+k:=by simp[IntKind.wrap,IntKind.bits,IntKind.signed];omega
   have z4:(k:Int)<64:=by omega
   have z5:64*t+k+1≤s.size:=by omega
   have z6:64*t+k<s.size:=by omega
   have hdl:=hD.lt (by omega);have n1:¬w3.heap.size=d:=by omega
   have n2:¬wr.heap.size=d:=by omega
   have n3:¬wr.heap.size=w3.heap.size:=by omega
   have HC:=(show Hid (aA wr w3.heap.size s.size (gV key ah s (64*t+k))) from hC)
   have HD:=(show Hid (aA wr d 64 (jJ (byteOf g))) from hD)
   have HA:=(show Hid (aN wr b 0 16 (dx key ah (BitVec.ofNat 32 (1+t)))) from hA)
   have HS:=(show Hid (Since w1 wr) from hS)
   have HX:Hid (iY key ah s (64*t+k)=NI s[64*t+k].toNat (byteOf g k)):=by
    show iY key ah s (64*t+k)=_
    unfold iY aT;rw[show (64*t+k) / 64=t by omega,show (64*t+k) % 64=k by omega,HG.o,List.getD_eq_getElem?_getD,List.getElem?_eq_getElem (by simpa using z6)]
    rfl
   generalize byteOf g k=y at *;clear hC hD hA hS;go_wp2_with fail
   go_region_held3 (fun w'=>w'.cell? ⟨d,k,none⟩=some (.int .u8 y)) (simp[d1,n1,n2,World.cell?_alloc_some,World.cell?_setCell_far]) (fail)
   all_goals
    have hC2:=HC.o.set (64*t+k) (by omega) (.int .u8 (iY key ah s (64*t+k)));have gW:=hC2.congr (fun j _=>CX key ah s (64*t+k) j);rw[HX.o] at gW;unfold NI at gW;clear a1 f1 d1;go_wp2_with fail
    go_roundw
    case rel=>
     exact⟨k+1,by omega,by go_num,rfl,gW.since (((Since.refl _).alloc _).drew),(HD.o.other (by simp;omega) _).since (((Since.refl _).alloc _).drew),(HA.o.other (by simp;omega) _).since (((Since.refl _).alloc _).drew),((HS.o.setCell (by simp;omega) _).alloc _).drew,by simp;omega⟩
    case measure=>simp[intOf];omega
  have hke:k=(s.size-64*t):=by omega
  subst hke;go_wp2_with fail
  refine⟨⟨t+1,Or.inr (by omega),by congr 1<;>omega,by congr 1<;>omega,hC.congr (fun j hj=>?_),⟨_,hA⟩,hS,hl2⟩,by simp[intOf];omega⟩;unfold gV;by_cases hj2:j<64*t+(s.size-64*t)
  ·rw[if_pos hj2,if_pos (by omega)]
  rw[if_neg hj2,if_neg (by omega)]
 simp only[Nat.min_eq_right (Nat.le_of_not_lt hlt)];have hcv:=dV wr (bR key ah s) w3.heap.size s.size s.size (by simp[bR]) (fun i hi=>by
  have hi':i<s.size:=by simpa [bR] using hi
  rw[hC.cell i hi'];simp[gV,bR,hi'];omega)
 go_wp2_with fail
 go_ret2;exact⟨rfl,hS⟩
end Sm.Sr
end
section
namespace Sm.Sr
open Go.RowKit
theorem VW (x:BitVec 32)(n:Nat)(hn:n<32):BitVec.ofNat 32 (x.toNat*2 ^ n ||| x.toNat*2 ^ n / 4294967296)=kJ x n:=by
 unfold kJ;apply BitVec.eq_of_toNat_eq
 have hx:=x.isLt;rw[BitVec.toNat_ofNat,BitVec.toNat_or,BitVec.toNat_shiftLeft,BitVec.toNat_ushiftRight,Nat.shiftLeft_eq,Nat.shiftRight_eq_div_pow,Nat.or_mod_two_pow];have e:x.toNat*2 ^ n / 4294967296=x.toNat / 2 ^ (32-n):=by
  rw[show 4294967296=2 ^ (32-n)*2 ^ n by rw[←Nat.pow_add,show 32-n+n=32 by omega],Nat.mul_div_mul_right _ _ (Nat.pow_pos (by decide))]
 rw[e,Nat.mod_eq_of_lt (a:=x.toNat / 2 ^ (32-n)) (Nat.lt_of_le_of_lt (Nat.div_le_self _ _) hx)]
attribute [local go_sem ↓] dU
theorem CY (x:BitVec 32)(n:Int)(w:World)(h0:0≤n)(h1:n<32) :
  Calls Tryz.prog 307 #[U x,.int .u64 n] w fun e w'=>e=.returned (U (kJ x n.toNat))∧w'=w:=by
 obtain⟨m,rfl⟩:=Int.eq_ofNat_of_zero_le h0;have hm:m<32:=by omega
 have hx:=x.isLt;have hU:U x=.int .u32 (x.toNat:Int):=rfl;rw[hU];have v0:IntKind.u64.wrap (x.toNat:Int)=x.toNat:=by simp[IntKind.wrap,IntKind.bits,IntKind.signed];omega
 have hp:x.toNat*2 ^ m<18446744073709551616:=by
  have h2:2 ^ m≤2 ^ 31:=Nat.pow_le_pow_right (by decide) (by omega);have h3:x.toNat*2 ^ m≤x.toNat*2 ^ 31:=Nat.mul_le_mul_left _ h2;omega
 have hmin:min m 64=m:=by omega
 have v1:IntKind.u64.wrap ((x.toNat:Int)*2 ^ m)=((x.toNat*2 ^ m:Nat):Int):=by
  have e:((x.toNat:Int)*2 ^ m)=((x.toNat*2 ^ m:Nat):Int):=by norm_cast
  rw[e];simp only[IntKind.wrap,IntKind.bits,IntKind.signed];simp;omega
 go_enter Tryz.func307,Tryz.ntmps307
 go_wp2_with fail
 go_ret;refine⟨?_,rfl⟩;have e:((x.toNat:Int)*2 ^ m)=((x.toNat*2 ^ m:Nat):Int):=by norm_cast
 have e2:(((x.toNat*2 ^ m:Nat):Int) / 4294967296)=((x.toNat*2 ^ m / 4294967296:Nat):Int):=(Int.natCast_ediv _ 4294967296).symm;show Ending.returned (U (BitVec.ofInt 32 (bits BinOp.or IntKind.u64 ((x.toNat:Int)*2 ^ m) ((x.toNat:Int)*2 ^ m / 4294967296))))=_
 rw[e,e2,u64_or_nat _ _ hp (by omega),BitVec.ofInt_natCast,VW x m hm,Int.toNat_natCast]
end Sm.Sr
end
section
namespace Sm.Sr
open Go.RowKit
attribute [local go_sem] gQ eF iB iC lq iD iE iG dU eG cZ dG bu fe dC wR
structure Fr (b:Nat)(w w':World):Prop where
 since:∀a,Since a w→a.heap.size≤b→Since a w'
 arr:∀c o n f,c≠b→aN w c o n f→aN w' c o n f
 size:w.heap.size≤w'.heap.size
theorem Fr.refl (b:Nat)(w:World):Fr b w w:=⟨fun _ h _=>h,fun _ _ _ _ _ h=>h,Nat.le_refl _⟩
theorem Fr.trans {b:Nat}{w w' w'':World}(h:Fr b w w')(k:Fr b w' w''):Fr b w w'':=⟨fun a h1 h2=>k.since a (h.since a h1 h2) h2,fun c o n f h1 h2=>k.arr c o n f h1 (h.arr c o n f h1 h2),Nat.le_trans h.size k.size⟩
theorem Fr.ag {b:Nat}{w w':World}(h:Since w w'):Fr b w w':=⟨fun _ h1 _=>h1.trans h,fun _ _ _ _ _ h1=>h1.since h,h.size⟩
theorem Fr.set {b o:Nat}{w w':World}(h:Fr b w w')(v:Value):Fr b w (w'.setCell ⟨b,o,none⟩ v):=h.trans ⟨fun _ h1 h2=>h1.setCell (p:=⟨b,o,none⟩) h2 v,fun _ _ _ _ h1 h2=>h2.other (a:=⟨b,o,none⟩) (fun e=>h1 e.symm) v,by simp⟩
theorem Fr.drew {b:Nat}{w w':World}(h:Fr b w w'):Fr b w w'.drew:=h.trans (Fr.ag (Since.refl _).drew)
theorem Fr.drewN {b:Nat}{w w':World}(h:Fr b w w')(n:Nat):Fr b w (w'.drewN n):=h.trans (Fr.ag ((Since.refl _).drewN n))
def stp (g:Nat→BitVec 32)(i0 i1 i2 i3 m n:Nat):Nat→BitVec 32:=
 let q:=half ⟨g i0,g i1,g i2,g i3⟩ m n
 upd (upd (upd (upd g i0 q.a) i3 q.d) i2 q.c) i1 q.b
def mx (g:Nat→BitVec 32)(i0 i1 i2 i3:Nat):Nat→Nat→BitVec 32
 | 0=>g
 | 1=>stp g i0 i1 i2 i3 16 12
 | _=>stp (stp g i0 i1 i2 i3 16 12) i0 i1 i2 i3 8 7
theorem vK (g0:Nat→BitVec 32)(b cap i0 i1 i2 i3:Nat)(w:World)(l0:i0<16)(l1:i1<16)(l2:i2<16)(l3:i3<16)(n03:i0≠i3)(n02:i0≠i2)(n01:i0≠i1)(n12:i1≠i2)(n13:i1≠i3)(n23:i2≠i3)(hA:aN w b 0 16 g0) :
  Calls Tryz.prog 286 #[.slice (some ⟨b,0,none⟩) 16 cap,.agg #[.int .i64 i0,.int .i64 i1,.int .i64 i2,.int .i64 i3]] w fun e w'=>e=.returned (.tuple #[])∧aN w' b 0 16 (mx g0 i0 i1 i2 i3 2)∧Fr b w w':=by
 have hbl:=hA.lt (by omega);have N:=(show Hid ((i0≠i3∧i0≠i2∧i0≠i1)∧(i1≠i2∧i1≠i3∧i2≠i3)) from ⟨⟨n03,n02,n01⟩,n12,n13,n23⟩)
 clear n03 n02 n01 n12 n13 n23;have HA0:=(show Hid (aN w b 0 16 g0) from hA)
 clear hA;have j0:(i0:Int)<16:=by omega
 have j1:(i1:Int)<16:=by omega
 have j2:(i2:Int)<16:=by omega
 have j3:(i3:Int)<16:=by omega
 go_enter Tryz.func286,Tryz.ntmps286
 go_wp2_with fail
 go_loopw [10] (fun i wr=>∃k:Nat,k≤2∧i=.int .i64 k∧aN wr b 0 16 (mx g0 i0 i1 i2 i3 k)∧aA wr w.heap.size 4 (fun j=>[Value.int .i64 i0,.int .i64 i1,.int .i64 i2,.int .i64 i3].getD j undef)∧Fr b w wr) (fun i _=>2-(intOf i).toNat)
 case atStart=>
  refine⟨0,by omega,rfl,HA0.o.alloc _,aA.new w 4 _ _ _ (fun j hj=>?_) _ rfl,Fr.ag ((Since.refl _).alloc _)⟩
  match j,hj with
  | 0,_=>rfl
  | 1,_=>rfl
  | 2,_=>rfl
  | 3,_=>rfl
 obtain⟨k,hk,rfl,hA,hB,hF⟩:=hrel;by_cases hlt:k<2
 ·have hstep:mx g0 i0 i1 i2 i3 (k+1)=stp (mx g0 i0 i1 i2 i3 k) i0 i1 i2 i3 (16-8*k) (12-5*k):=by
   rcases k with _ | _ | k
   ·rfl
   ·rfl
   omega
  have HST:=(show Hid _ from hstep)
  clear hstep;have a3t:k=0∨k=1:=by omega
  generalize mx g0 i0 i1 i2 i3 k=g at *;have HA:=(show Hid (aN wr b 0 16 g) from hA)
  have HB:=(show Hid (aA wr w.heap.size 4 (fun j=>[Value.int .i64 i0,.int .i64 i1,.int .i64 i2,.int .i64 i3].getD j undef)) from hB)
  have HF:=(show Hid (Fr b w wr) from hF)
  have b0:wr.cell? ⟨w.heap.size,0,none⟩=some (.int .i64 i0):=hB.cell 0 (by omega);have b1:wr.cell? ⟨w.heap.size,1,none⟩=some (.int .i64 i1):=hB.cell 1 (by omega);have b2:wr.cell? ⟨w.heap.size,2,none⟩=some (.int .i64 i2):=hB.cell 2 (by omega);have b3:wr.cell? ⟨w.heap.size,3,none⟩=some (.int .i64 i3):=hB.cell 3 (by omega);clear hA hB hF hk;go_wp2_with fail
  go_quiet (fail)
  go_wp2_with fail
  generalize hwa:World.drewN wr _=wa;have hAa:aN wa b 0 16 (g):=by rw[←hwa];exact HA.o.drewN _
  have hBa:aA wa w.heap.size 4 (fun j=>[Value.int .i64 i0,.int .i64 i1,.int .i64 i2,.int .i64 i3].getD j undef):=by rw[←hwa];exact HB.o.since ((Since.refl _).drewN _)
  have hFa:Fr b w wa:=by rw[←hwa];exact HF.o.drewN _
  clear hwa b0 b1 b2 b3 HA HB HF;obtain⟨⟨N2,N4,N6⟩,N8,Ib,Ic⟩:=N.out;have N1:¬i3=i0:=fun e=>N2 e.symm
  have N3:¬i2=i0:=fun e=>N4 e.symm
  have N5:¬i1=i0:=fun e=>N6 e.symm
  have N7:¬i2=i1:=fun e=>N8 e.symm
  have N9:¬i3=i1:=fun e=>Ib e.symm
  have Mm:¬i3=i2:=fun e=>Ic e.symm
  have HK:=(show Hid (k=0∨k=1) from a3t)
  clear a3t;have q1:IntKind.i64.wrap (8*(k:Int))=8*k:=by simp[IntKind.wrap,IntKind.bits,IntKind.signed];omega
  have q2:IntKind.i64.wrap (16-8*(k:Int))=16-8*k:=by simp[IntKind.wrap,IntKind.bits,IntKind.signed];omega
  have q3:IntKind.u64.wrap (16-8*(k:Int))=16-8*k:=by simp[IntKind.wrap,IntKind.bits,IntKind.signed];omega
  have q4:IntKind.i64.wrap (5*(k:Int))=5*k:=by simp[IntKind.wrap,IntKind.bits,IntKind.signed];omega
  have q5:IntKind.i64.wrap (12-5*(k:Int))=12-5*k:=by simp[IntKind.wrap,IntKind.bits,IntKind.signed];omega
  have q6:IntKind.u64.wrap (12-5*(k:Int))=12-5*k:=by simp[IntKind.wrap,IntKind.bits,IntKind.signed];omega
  have T1:=(show Hid ((16-8*(k:Int)).toNat=16-8*k) from by show _=_;omega)
  have T2:=(show Hid ((12-5*(k:Int)).toNat=12-5*k) from by show _=_;omega)
  have c1:wa.cell? ⟨b,i0,none⟩=some (U (g i0)):=by
   have h:=hAa.cell i0 (by omega);rw[Nat.zero_add] at h;rw[h]<;>simp[upd,N1,N2,N3,N4,N5,N6,N7,N8,N9,Ib,Mm,Ic]
  have c2:wa.cell? ⟨b,i1,none⟩=some (U (g i1)):=by
   have h:=hAa.cell i1 (by omega);rw[Nat.zero_add] at h;rw[h]<;>simp[upd,N1,N2,N3,N4,N5,N6,N7,N8,N9,Ib,Mm,Ic]
  have f1:=hAa.frozen i0 (by omega);rw[Nat.zero_add] at f1;have HAa:=(show Hid (aN wa b 0 16 (g)) from hAa)
  have HBa:=(show Hid (aA wa w.heap.size 4 (fun j=>[Value.int .i64 i0,.int .i64 i1,.int .i64 i2,.int .i64 i3].getD j undef)) from hBa)
  have HFa:=(show Hid (Fr b w wa) from hFa)
  clear hAa hBa hFa;have HN:=(show Hid ((((¬i3=i0∧¬i0=i3)∧(¬i2=i0∧¬i0=i2))∧((¬i1=i0∧¬i0=i1)∧(¬i2=i1∧¬i1=i2)))∧((¬i3=i1∧¬i1=i3)∧(¬i3=i2∧¬i2=i3))) from ⟨⟨⟨⟨N1,N2⟩,N3,N4⟩,⟨N5,N6⟩,N7,N8⟩,⟨N9,Ib⟩,Mm,Ic⟩)
  clear N1 N2 N3 N4 N5 N6 N7 N8 N9 Ib Mm Ic;go_region
  obtain⟨⟨⟨⟨N1,N2⟩,N3,N4⟩,⟨N5,N6⟩,N7,N8⟩,⟨N9,Ib⟩,Mm,Ic⟩:=HN.o;clear HN;generalize hval:g i0+g i1=va at *;have Hva:=(show Hid (g i0+g i1=va) from hval)
  clear hval;generalize hw:World.drew _=wb;have hAb:aN wb b 0 16 (upd (g) i0 va):=by
   have h:=HAa.o.set i0 (by omega) va;rw[Nat.zero_add] at h;rw[←hw];exact h.since (Since.refl _).drew
  have hBb:aA wb w.heap.size 4 (fun j=>[Value.int .i64 i0,.int .i64 i1,.int .i64 i2,.int .i64 i3].getD j undef):=by rw[←hw];exact(HBa.o.other (by simp;omega) _).since (Since.refl _).drew
  have hFb:Fr b w wb:=by rw[←hw];exact(HFa.o.set _).drew
  clear hw c1 c2 f1 HAa HBa HFa;go_wp2_with fail
  have c1:wb.cell? ⟨b,i3,none⟩=some (U (g i3)):=by
   have h:=hAb.cell i3 (by omega);rw[Nat.zero_add] at h;rw[h]<;>simp[upd,N1,N2,N3,N4,N5,N6,N7,N8,N9,Ib,Mm,Ic]
  have c2:wb.cell? ⟨b,i0,none⟩=some (U (va)):=by
   have h:=hAb.cell i0 (by omega);rw[Nat.zero_add] at h;rw[h]<;>simp[upd,N1,N2,N3,N4,N5,N6,N7,N8,N9,Ib,Mm,Ic]
  have f1:=hAb.frozen i3 (by omega);rw[Nat.zero_add] at f1;have HAb:=(show Hid (aN wb b 0 16 (upd (g) i0 va)) from hAb)
  have HBb:=(show Hid (aA wb w.heap.size 4 (fun j=>[Value.int .i64 i0,.int .i64 i1,.int .i64 i2,.int .i64 i3].getD j undef)) from hBb)
  have HFb:=(show Hid (Fr b w wb) from hFb)
  clear hAb hBb hFb;refine wp_region_any (by kernel_rfl) ?_;refine tA 0 ?_;refine tA 1 ?_;refine tA 2 ?_;refine tA 3 ?_;refine tA 4 ?_;refine tA 5 ?_;refine tA 7 ?_;refine tA 8 ?_;refine tA 9 ?_;refine tA 12 ?_;refine tA 13 ?_;refine tA 14 ?_;refine tA 15 ?_;have cz:(fun w':World=>w'.cell? ⟨b,i3,none⟩=some (U (g i3))∧w'.cell? ⟨b,i0,none⟩=some (U (va))) wb.drew:=by
   refine⟨?_,?_⟩
   ·simpa using c1
   simpa using c2
  refine ky (S:=fun w':World=>w'.cell? ⟨b,i3,none⟩=some (U (g i3))∧w'.cell? ⟨b,i0,none⟩=some (U (va))) (c:=11) _ _ _ _ ?_;refine tG 6 cz ?_;refine tG 10 cz ?_;refine jQ (by kernel_rfl) ?_;clear cz;refine tA 11 ?_;refine wpAny_ready (rs:=[16]) (by kernel_rfl) (by simp) (AllReady.cons rfl (fun K hK=>?_) AllReady.nil);go_simp
  refine(CY _ _ _ (by omega) (by omega)).mono ?_;rintro e w' ⟨rfl,rfl⟩;rw[T1.out];simp only[];refine hK _ _ ?_;clear hK K
  (try simp only[Act.put,List.setIfInBounds_toArray,List.set_cons_zero,List.set_cons_succ])
  generalize hval:kJ (g i3 ^^^ va) (16-8*k)=vd at *;have Hvd:=(show Hid (kJ (g i3 ^^^ va) (16-8*k)=vd) from hval)
  clear hval;refine tA 17 ?_;refine wpAny_ready (rs:=[18]) (by kernel_rfl) (by simp) (AllReady.cons rfl (fun K hK=>?_) AllReady.nil);go_simp
  refine hK _ _ ?_;clear hK K
  (try simp only[Act.put,List.setIfInBounds_toArray,List.set_cons_zero,List.set_cons_succ])
  refine wpAny_done (by kernel_rfl) ?_ _;generalize hw:World.drew _=wc;have hAc:aN wc b 0 16 (upd (upd (g) i0 va) i3 vd):=by
   have h:=HAb.o.set i3 (by omega) vd;rw[Nat.zero_add] at h;rw[←hw];exact h.since (Since.refl _).drew
  have hBc:aA wc w.heap.size 4 (fun j=>[Value.int .i64 i0,.int .i64 i1,.int .i64 i2,.int .i64 i3].getD j undef):=by rw[←hw];exact(HBb.o.other (by simp;omega) _).since (Since.refl _).drew
  have hFc:Fr b w wc:=by rw[←hw];exact(HFb.o.set _).drew
  clear hw c1 c2 f1 HAb HBb HFb;go_wp2_with fail
  have c1:wc.cell? ⟨b,i2,none⟩=some (U (g i2)):=by
   have h:=hAc.cell i2 (by omega);rw[Nat.zero_add] at h;rw[h]<;>simp[upd,N1,N2,N3,N4,N5,N6,N7,N8,N9,Ib,Mm,Ic]
  have c2:wc.cell? ⟨b,i3,none⟩=some (U (vd)):=by
   have h:=hAc.cell i3 (by omega);rw[Nat.zero_add] at h;rw[h]<;>simp[upd,N1,N2,N3,N4,N5,N6,N7,N8,N9,Ib,Mm,Ic]
  have f1:=hAc.frozen i2 (by omega);rw[Nat.zero_add] at f1;have HAc:=(show Hid (aN wc b 0 16 (upd (upd (g) i0 va) i3 vd)) from hAc)
  have HBc:=(show Hid (aA wc w.heap.size 4 (fun j=>[Value.int .i64 i0,.int .i64 i1,.int .i64 i2,.int .i64 i3].getD j undef)) from hBc)
  have HFc:=(show Hid (Fr b w wc) from hFc)
  clear hAc hBc hFc;have HN:=(show Hid ((((¬i3=i0∧¬i0=i3)∧(¬i2=i0∧¬i0=i2))∧((¬i1=i0∧¬i0=i1)∧(¬i2=i1∧¬i1=i2)))∧((¬i3=i1∧¬i1=i3)∧(¬i3=i2∧¬i2=i3))) from ⟨⟨⟨⟨N1,N2⟩,N3,N4⟩,⟨N5,N6⟩,N7,N8⟩,⟨N9,Ib⟩,Mm,Ic⟩)
  clear N1 N2 N3 N4 N5 N6 N7 N8 N9 Ib Mm Ic;go_region
  obtain⟨⟨⟨⟨N1,N2⟩,N3,N4⟩,⟨N5,N6⟩,N7,N8⟩,⟨N9,Ib⟩,Mm,Ic⟩:=HN.o;clear HN;generalize hval:g i2+vd=vc at *;have Hvc:=(show Hid (g i2+vd=vc) from hval)
  clear hval;generalize hw:World.drew _=wd;have hAd:aN wd b 0 16 (upd (upd (upd (g) i0 va) i3 vd) i2 vc):=by
   have h:=HAc.o.set i2 (by omega) vc;rw[Nat.zero_add] at h;rw[←hw];exact h.since (Since.refl _).drew
  have hBd:aA wd w.heap.size 4 (fun j=>[Value.int .i64 i0,.int .i64 i1,.int .i64 i2,.int .i64 i3].getD j undef):=by rw[←hw];exact(HBc.o.other (by simp;omega) _).since (Since.refl _).drew
  have hFd:Fr b w wd:=by rw[←hw];exact(HFc.o.set _).drew
  clear hw c1 c2 f1 HAc HBc HFc;go_wp2_with fail
  have c1:wd.cell? ⟨b,i1,none⟩=some (U (g i1)):=by
   have h:=hAd.cell i1 (by omega);rw[Nat.zero_add] at h;rw[h]<;>simp[upd,N1,N2,N3,N4,N5,N6,N7,N8,N9,Ib,Mm,Ic]
  have c2:wd.cell? ⟨b,i2,none⟩=some (U (vc)):=by
   have h:=hAd.cell i2 (by omega);rw[Nat.zero_add] at h;rw[h]<;>simp[upd,N1,N2,N3,N4,N5,N6,N7,N8,N9,Ib,Mm,Ic]
  have f1:=hAd.frozen i1 (by omega);rw[Nat.zero_add] at f1;have HAd:=(show Hid (aN wd b 0 16 (upd (upd (upd (g) i0 va) i3 vd) i2 vc)) from hAd)
  have HBd:=(show Hid (aA wd w.heap.size 4 (fun j=>[Value.int .i64 i0,.int .i64 i1,.int .i64 i2,.int .i64 i3].getD j undef)) from hBd)
  have HFd:=(show Hid (Fr b w wd) from hFd)
  clear hAd hBd hFd;refine wp_region_any (by kernel_rfl) ?_;refine tA 0 ?_;refine tA 1 ?_;refine tA 2 ?_;refine tA 3 ?_;refine tA 4 ?_;refine tA 5 ?_;refine tA 7 ?_;refine tA 8 ?_;refine tA 9 ?_;refine tA 12 ?_;refine tA 13 ?_;refine tA 14 ?_;refine tA 15 ?_;have cz:(fun w':World=>w'.cell? ⟨b,i1,none⟩=some (U (g i1))∧w'.cell? ⟨b,i2,none⟩=some (U (vc))) wd.drew:=by
   refine⟨?_,?_⟩
   ·simpa using c1
   simpa using c2
  refine ky (S:=fun w':World=>w'.cell? ⟨b,i1,none⟩=some (U (g i1))∧w'.cell? ⟨b,i2,none⟩=some (U (vc))) (c:=11) _ _ _ _ ?_;refine tG 6 cz ?_;refine tG 10 cz ?_;refine jQ (by kernel_rfl) ?_;clear cz;refine tA 11 ?_;refine wpAny_ready (rs:=[16]) (by kernel_rfl) (by simp) (AllReady.cons rfl (fun K hK=>?_) AllReady.nil);go_simp
  refine(CY _ _ _ (by omega) (by omega)).mono ?_;rintro e w' ⟨rfl,rfl⟩;rw[T2.out];simp only[];refine hK _ _ ?_;clear hK K
  (try simp only[Act.put,List.setIfInBounds_toArray,List.set_cons_zero,List.set_cons_succ])
  generalize hval:kJ (g i1 ^^^ vc) (12-5*k)=vb at *;have Hvb:=(show Hid (kJ (g i1 ^^^ vc) (12-5*k)=vb) from hval)
  clear hval;refine tA 17 ?_;refine wpAny_ready (rs:=[18]) (by kernel_rfl) (by simp) (AllReady.cons rfl (fun K hK=>?_) AllReady.nil);go_simp
  refine hK _ _ ?_;clear hK K
  (try simp only[Act.put,List.setIfInBounds_toArray,List.set_cons_zero,List.set_cons_succ])
  refine wpAny_done (by kernel_rfl) ?_ _;generalize hw:World.drew _=we;have hAe:aN we b 0 16 (upd (upd (upd (upd (g) i0 va) i3 vd) i2 vc) i1 vb):=by
   have h:=HAd.o.set i1 (by omega) vb;rw[Nat.zero_add] at h;rw[←hw];exact h.since (Since.refl _).drew
  have hBe:aA we w.heap.size 4 (fun j=>[Value.int .i64 i0,.int .i64 i1,.int .i64 i2,.int .i64 i3].getD j undef):=by rw[←hw];exact(HBd.o.other (by simp;omega) _).since (Since.refl _).drew
  have hFe:Fr b w we:=by rw[←hw];exact(HFd.o.set _).drew
  clear hw c1 c2 f1 HAd HBd HFd;go_wp2_with fail
  have e:upd (upd (upd (upd (g) i0 va) i3 vd) i2 vc) i1 vb=stp g i0 i1 i2 i3 (16-8*k) (12-5*k):=by
   unfold stp half;rw[←Hvb.o,←Hvc.o,←Hvd.o,←Hva.o]
  refine⟨⟨k+1,by omega,by go_num,?_,hBe,hFe⟩,by simp[intOf];omega⟩;rw[HST.o,←e];exact hAe
 have hke:k=2:=by omega
 subst hke;go_wp2_with fail
 go_end0
 exact⟨rfl,hA,hF⟩
end Sm.Sr
end
end Go.Proofs.YtlgbfkcpdelcbaaGreatDoor
