import Derived.Test.YtmhcfaaggkidjaaGreatDoorJ23
import Derived.Test.YtmhcfaaggkidjaaGreatDoorJ27
import Derived.Test.YtmhcfaaggkidjaaGreatDoorJ28
set_option linter.unusedSimpArgs false
set_option linter.unusedVariables false
section
namespace Go.Proofs.YtmhcfaaggkidjaaGreatDoor
set_option maxRecDepth 100000
namespace Vl
open Go.RowKit
open Tw (Tb af bE bO)
def XD (D:Dv) (z o:Int):ByteArray × Int:=if ¬(0≤z∧z<8) then (⟨#[]⟩,2) else if ¬(0≤o∧o<D.cnt z.toNat) then (⟨#[]⟩,7) else (ja D z o,0)
theorem Lm {w:World} {db:Nat} {D:Dv} {v:Value} (z o:Int) (h:Dev w db D v) :
  Calls Tryz.prog 277 #[.pointer (some ⟨db,0,none⟩),.int .i64 z,.int .i64 o] w fun e w'=>e=.returned (.tuple #[.string (XD D z o).1,ev (XD D z o).2])∧w'=w:=by
 unfold XD;by_cases hz:0≤z∧z<8
 ·rw[if_neg (fun q=>q hz)];obtain⟨k,rfl⟩:=Int.eq_ofNat_of_zero_le hz.1;rw[Int.toNat_natCast];by_cases ho:0≤o∧o<D.cnt k
  ·rw[if_neg (fun q=>q ho)];obtain⟨j,rfl⟩:=Int.eq_ofNat_of_zero_le ho.1;rw[vH];exact Go.Proofs.YtmhcfaaggkidjaaGreatDoor.jK D v db k j w h (by omega) (by omega)
  rw[if_pos ho,oQ 7 (by decide)];exact KI D v db k o w h (by omega) ho
 rw[if_pos hz,oQ 2 (by decide)];exact Oz db z o w hz
def z24:Array Value:=#[.string ⟨#[]⟩,.string ⟨#[]⟩,.string ⟨#[]⟩,.string ⟨#[]⟩,.string ⟨#[]⟩,.string ⟨#[]⟩,.string ⟨#[]⟩,.string ⟨#[]⟩,.string ⟨#[]⟩,.string ⟨#[]⟩,.string ⟨#[]⟩,.string ⟨#[]⟩,.string ⟨#[]⟩,.string ⟨#[]⟩,.string ⟨#[]⟩,.string ⟨#[]⟩,.string ⟨#[]⟩,.string ⟨#[]⟩,.string ⟨#[]⟩,.string ⟨#[]⟩,.string ⟨#[]⟩,.string ⟨#[]⟩,.string ⟨#[]⟩,.string ⟨#[]⟩]
theorem JJ:z24.toList=aa 24 (fun _=>.string ⟨#[]⟩):=by kernel_rfl
theorem TU (j:Nat) (hj:j<24):z24[j]?=some (.string ⟨#[]⟩):=by
 rw[←Array.getElem?_toList,JJ];exact aU _ _ _ hj
def aK (X:Nat→ByteArray) (j:Nat):Value:=.string (X j)
def TV (X:Nat→ByteArray):Value:=.agg (aa 24 (aK X)).toArray
theorem vQ (w:World) (b:Nat) (hb:b=w.heap.size):ak (w.alloc (.cells z24 164)) b 24 (aK (fun _=>⟨#[]⟩)):=ak.new w _ _ _ _ TU _ hb
theorem Lp (X:Nat→ByteArray):(aa 24 (aK X)).length=24:=ag _ _
theorem Pq (kb:ByteArray) (D:Dv) (T:Tb) (k:Nat) (s:ByteArray) (hs:s=if T.tag k=⟨#[]⟩ then ⟨#[]⟩ else Sl.textOf kb (ja D (T.aB k) (T.off k))) (j:Nat):aZ (aK (aI kb D T k)) k (.string s) j=aK (aI kb D T (k+1)) j:=by
 unfold aZ aK aI;by_cases e:j=k
 ·subst e;rw[if_pos rfl,if_pos (by omega),hs]
 rw[if_neg e];by_cases h:j<k
 ·simp only[if_pos h,if_pos (show j<k+1 by omega)]
 simp only[if_neg h,if_neg (show ¬j<k+1 by omega)]
theorem Lr (kb:ByteArray) (D:Dv) (T:Tb) (k:Nat) (hs:T.tag k=⟨#[]⟩) (j:Nat):aK (aI kb D T k) j=aK (aI kb D T (k+1)) j:=by
 unfold aK aI;by_cases e:j=k
 ·subst e;rw[if_neg (by omega),if_pos (by omega),if_pos hs]
 by_cases h:j<k
 ·simp only[if_pos h,if_pos (show j<k+1 by omega)]
 simp only[if_neg h,if_neg (show ¬j<k+1 by omega)]
theorem oD (X:Nat→ByteArray) (j:Nat):(aK X j).oneCell'=true:=rfl
theorem zY {X:Nat→ByteArray} {w:World} {b:Nat} (h:ak w b 24 (aK X)):w.rangeAt b 0 (aa 24 (aK X)):=by
 have:=h.range 0 24 (by omega)
 simpa only[Nat.zero_add] using this
theorem rJ {w:World} {b:Nat} {X:Nat→ByteArray} (h:ak w b 24 (aK X)) (Y:Nat→ByteArray):(storeCells ⟨b,0,none⟩ (aa 24 (aK Y))).run Tryz.prog w=.ok () (w.setCells b 0 (aa 24 (aK Y)))∧ak (w.setCells b 0 (aa 24 (aK Y))) b 24 (aK Y):=
 ⟨h.store Tryz.prog 0 24 (by omega) (aK Y) (fun j _=>oD _ j),(h.setRow 0 24 (by omega) (aK Y)).congr (fun j hj=>by unfold dF;rw[if_pos (by omega)];rfl)⟩
theorem xz {w:World} {b:Nat} {X:Nat→ByteArray} (h:ak w b 24 (aK X)):ak (w.setCells b 0 z24.toList) b 24 (aK (fun _=>⟨#[]⟩)):=by
 rw[JJ];exact(rJ h (fun _=>⟨#[]⟩)).2
theorem BG {w:World} {b:Nat} {X:Nat→ByteArray} (h:ak w b 24 (aK X)):w.there b 0 z24.size:=h.there 0 24 (by omega)
section
variable {w0 w:World} {vb db cb:Nat} {kb kt:ByteArray} {S:Vs} {v:Value}
set_option maxHeartbeats 8000000 in
theorem GQ (B:Base w0 kb kt) (T:Tb) (h:bg w0 w vb db cb kb kt S v) :
  Calls Tryz.prog 222 #[.pointer (some ⟨vb,0,none⟩),bE T] w fun e w'=>(((∀i,i<24→there kb S.D T i)∧e=.returned (.tuple #[TV (aI kb S.D T 24),.bool true]))∨((¬∀i,i<24→there kb S.D T i)∧e=.returned (.tuple #[TV (fun _=>⟨#[]⟩),.bool false])))∧Since w w':=by
 have HB:Hid (Base w0 kb kt):=B;have H:Hid (bg w0 w vb db cb kb kt S v):=h;clear h B;have hC:=Tw.fK T w;have hR:=Tw.jg hC;unfold bE;generalize (aa 73 (af T)).toArray=cs0 at *;have hsz:(w.alloc (.cells cs0 163)).heap.size=w.heap.size+1:=World.size_alloc _ _;have hsz2:((w.alloc (.cells cs0 163)).alloc (.cells z24 164)).heap.size=w.heap.size+1+1:=by rw[World.size_alloc,hsz]
 have lC:Hid (Since (w.alloc (.cells cs0 163)) (((w.alloc (.cells cs0 163)).alloc (.cells z24 164)).alloc (.cells z24 164))):=((Since.refl _).alloc _).alloc _;have HS:Hid (Since w (((w.alloc (.cells cs0 163)).alloc (.cells z24 164)).alloc (.cells z24 164))):=(((Since.refl w).alloc _).alloc _).alloc _;have HR1:Hid (ak (((w.alloc (.cells cs0 163)).alloc (.cells z24 164)).alloc (.cells z24 164)) (w.heap.size+1) 24 (aK (fun _=>⟨#[]⟩))):=(vQ _ _ hsz.symm).since ((Since.refl _).alloc _);have yZ:Hid (ak (((w.alloc (.cells cs0 163)).alloc (.cells z24 164)).alloc (.cells z24 164)) (w.heap.size+1+1) 24 (aK (aI kb S.D T 0))):=(vQ _ _ hsz2.symm).congr (fun j hj=>by unfold aK aI;rw[if_neg (by omega)]);have AR:=iD hR lC.out;clear hC hR lC;have hL:(aa 72 (bO T)).length=72:=ag _ _
 have Nw:Hid (∀(k:Nat) (hk:k<24) (w:World),(Instr.index 161 (.agg (aa 72 (bO T)).toArray) (.int .i64 (k:Int))).run Tryz.prog w=.ok (.agg #[.int .i64 (T.aB k),.int .i64 (T.off k),.string (T.tag k)]) w):=fun k hk w=>Tw.kN T k hk w
 generalize hcs:aa 72 (bO T)=cs at *;clear hcs;have GU:z24=#[.string ⟨#[]⟩,.string ⟨#[]⟩,.string ⟨#[]⟩,.string ⟨#[]⟩,.string ⟨#[]⟩,.string ⟨#[]⟩,.string ⟨#[]⟩,.string ⟨#[]⟩,.string ⟨#[]⟩,.string ⟨#[]⟩,.string ⟨#[]⟩,.string ⟨#[]⟩,.string ⟨#[]⟩,.string ⟨#[]⟩,.string ⟨#[]⟩,.string ⟨#[]⟩,.string ⟨#[]⟩,.string ⟨#[]⟩,.string ⟨#[]⟩,.string ⟨#[]⟩,.string ⟨#[]⟩,.string ⟨#[]⟩,.string ⟨#[]⟩,.string ⟨#[]⟩]:=rfl;rw[GU] at HS HR1 yZ AR;go_enter Tryz.func222,Tryz.ntmps222
 go_wp2_with (refine wpList_load_mid (by rfl) 161 _ (by rfl) w.heap.size 1 (by rfl) _ _ AR Tryz.underlying161 (by rfl) (by rw[hL];kernel_rfl) ?_)
 rw[←GU] at HS HR1 yZ AR;rw[←GU];clear AR hL GU hsz hsz2;generalize (((w.alloc (.cells cs0 163)).alloc (.cells z24 164)).alloc (.cells z24 164))=w1 at *;go_loopw [15,7,8,9,10,11,12] (fun i _ _ _ _ _ _ wr=>∃k:Nat,k≤24∧i=.int .i64 k∧(∀i,i<k→there kb S.D T i)∧ak wr (w.heap.size+1) 24 (aK (fun _=>⟨#[]⟩))∧ak wr (w.heap.size+1+1) 24 (aK (aI kb S.D T k))∧Since w wr) (fun i _ _ _ _ _ _ _=>24-(intOf i).toNat)
 case atStart=>exact⟨0,by omega,rfl,fun i hi=>by omega,HR1.out,yZ.out,HS.out⟩
 clear HR1 yZ HS;obtain⟨k,hk,rfl,hth,hr1,hx1,hs1⟩:=hrel;have JK:Hid (∀i,i<k→there kb S.D T i):=hth;have HR:Hid (ak wr (w.heap.size+1) 24 (aK (fun _=>⟨#[]⟩))):=hr1;have HX:Hid (ak wr (w.heap.size+1+1) 24 (aK (aI kb S.D T k))):=hx1;have HS:Hid (Since w wr):=hs1;clear hth hr1 hx1 hs1;by_cases hlt:k<24
 ·have hlt2:(k:Int)<24:=by omega
  have hix:=Nw.out k hlt;by_cases te:T.tag k=⟨#[]⟩
  ·have YX:Hid (T.tag k=⟨#[]⟩):=te;rw[te] at hix;clear te;go_wp2_with fail
   go_roundw
   case rel=>
    refine⟨k+1,by omega,by go_num,fun i hi=>?_,HR.out.since ((Since.refl _).alloc _),(HX.out.congr (fun j _=>Lr kb S.D T k YX.out j)).since ((Since.refl _).alloc _),HS.out.alloc _⟩;by_cases e:i=k
    ·subst e;exact Or.inl YX.out
    exact JK.out i (by omega)
   case measure=>simp[intOf];omega
  obtain⟨g1,g2⟩:=GN te;have YX:Hid (¬T.tag k=⟨#[]⟩):=te;clear te;go_wp2_with fail
  have yP:Hid (ak (wr.alloc (.cells #[.int .i64 (T.aB k),.int .i64 (T.off k),.string (T.tag k)] 160)) wr.heap.size 3 (fun j=>if j=0 then .int .i64 (T.aB k) else if j=1 then .int .i64 (T.off k) else .string (T.tag k))):=ak.new wr _ _ _ _ (fun j hj=>by
   match j,hj with
   | 0,_=>rfl
   | 1,_=>rfl
   | 2,_=>rfl) _ rfl
  have HS2:Hid (Since wr (wr.alloc (.cells #[.int .i64 (T.aB k),.int .i64 (T.off k),.string (T.tag k)] 160)).drew):=((Since.refl wr).alloc _).drew;generalize hw2:wr.alloc (.cells #[.int .i64 (T.aB k),.int .i64 (T.off k),.string (T.tag k)] 160)=w2 at *;clear hw2;have jZ:Hid (ak w2.drew wr.heap.size 3 (fun j=>if j=0 then .int .i64 (T.aB k) else if j=1 then .int .i64 (T.off k) else .string (T.tag k))):=yP.out.since (Since.refl _).drew;have H3:Hid (bg w0 w2.drew vb db cb kb kt S v):=H.out.go (HS.out.trans HS2.out);have fu:(fun W:World=>W.cell? ⟨vb,0,none⟩=some (.pointer (some ⟨db,0,none⟩))∧W.cell? ⟨wr.heap.size,0,none⟩=some (.int .i64 (T.aB k))∧W.cell? ⟨wr.heap.size,1,none⟩=some (.int .i64 (T.off k))) w2.drew:=⟨H3.out.c0,jZ.out.cell 0 (by omega),jZ.out.cell 1 (by omega)⟩
  refine wp_region_held (S:=fun W:World=>W.cell? ⟨vb,0,none⟩=some (.pointer (some ⟨db,0,none⟩))∧W.cell? ⟨wr.heap.size,0,none⟩=some (.int .i64 (T.aB k))∧W.cell? ⟨wr.heap.size,1,none⟩=some (.int .i64 (T.off k))) (by kernel_rfl) ?_;refine Tw.takeD (i:=0) (d:=23) (v:=?v1) rfl rfl (by kernel_rfl) (by kernel_rfl) (by kernel_rfl) (fun _ _ _ h=>h) (Or.inl ⟨by rfl,?hw1⟩) fu ?q1
  case hw1=>(intro w hSw;obtain⟨s0,s1,s2⟩:=hSw;go_simp;try with_reducible rfl)
  simp only[Act.put,List.setIfInBounds_toArray,List.set_cons_zero,List.set_cons_succ];refine Tw.takeD (i:=1) (d:=24) (v:=?v2) rfl rfl (by kernel_rfl) (by kernel_rfl) (by kernel_rfl) (fun _ _ _ h=>h) (Or.inl ⟨by rfl,?hw2⟩) fu ?q2
  case hw2=>(intro w hSw;obtain⟨s0,s1,s2⟩:=hSw;go_simp;try with_reducible rfl)
  simp only[Act.put,List.setIfInBounds_toArray,List.set_cons_zero,List.set_cons_succ];refine Tw.takeD (i:=2) (d:=25) (v:=?v3) rfl rfl (by kernel_rfl) (by kernel_rfl) (by kernel_rfl) (fun _ _ _ h=>h) (Or.inl ⟨by rfl,?hw3⟩) fu ?q3
  case hw3=>(intro w hSw;obtain⟨s0,s1,s2⟩:=hSw;go_simp;try with_reducible rfl)
  simp only[Act.put,List.setIfInBounds_toArray,List.set_cons_zero,List.set_cons_succ];refine Tw.takeD (i:=3) (d:=26) (v:=?v4) rfl rfl (by kernel_rfl) (by kernel_rfl) (by kernel_rfl) (fun _ _ _ h=>h) (Or.inl ⟨by rfl,?hw4⟩) fu ?q4
  case hw4=>(intro w hSw;obtain⟨s0,s1,s2⟩:=hSw;go_simp;try with_reducible rfl)
  simp only[Act.put,List.setIfInBounds_toArray,List.set_cons_zero,List.set_cons_succ];refine Tw.takeD (i:=4) (d:=27) (v:=?v5) rfl rfl (by kernel_rfl) (by kernel_rfl) (by kernel_rfl) (fun _ _ _ h=>h) (Or.inl ⟨by rfl,?hw5⟩) fu ?q5
  case hw5=>(intro w hSw;obtain⟨s0,s1,s2⟩:=hSw;go_simp;try with_reducible rfl)
  simp only[Act.put,List.setIfInBounds_toArray,List.set_cons_zero,List.set_cons_succ];refine Tw.takeD (i:=5) (d:=28) (v:=?v6) rfl rfl (by kernel_rfl) (by kernel_rfl) (by kernel_rfl) (fun _ _ _ h=>h) (Or.inl ⟨by rfl,?hw6⟩) fu ?q6
  case hw6=>(intro w hSw;obtain⟨s0,s1,s2⟩:=hSw;go_simp;try with_reducible rfl)
  simp only[Act.put,List.setIfInBounds_toArray,List.set_cons_zero,List.set_cons_succ];refine Tw.takeD (i:=6) (d:=29) (v:=?v7) rfl rfl (by kernel_rfl) (by kernel_rfl) (by kernel_rfl) (fun _ _ _ h=>h) (Or.inl ⟨by rfl,?hw7⟩) fu ?q7
  case hw7=>(intro w hSw;obtain⟨s0,s1,s2⟩:=hSw;go_simp;try with_reducible rfl)
  simp only[Act.put,List.setIfInBounds_toArray,List.set_cons_zero,List.set_cons_succ];refine Tw.takeD (i:=7) (d:=30) (v:=?v8) rfl rfl (by kernel_rfl) (by kernel_rfl) (by kernel_rfl) (fun _ _ _ h=>h) (Or.inl ⟨by rfl,?hw8⟩) fu ?q8
  case hw8=>(intro w hSw;obtain⟨s0,s1,s2⟩:=hSw;go_simp;try with_reducible rfl)
  simp only[Act.put,List.setIfInBounds_toArray,List.set_cons_zero,List.set_cons_succ];refine wpAnyH_ready (rs:=[8]) (by kernel_rfl) (by simp) (AllReadyH.cons rfl (fun K hK=>?_) AllReadyH.nil);rw[if_pos (by rfl)];go_simp
  refine(Lm (T.aB k) (T.off k) H3.out.dev).mono ?_;rintro e w3 ⟨rfl,hw3⟩;rw[hw3];clear hw3 w3;simp only[];refine hK.out _ _ fu (fun _=>?_);clear hK K
  (try simp only[Act.put,List.setIfInBounds_toArray,List.set_cons_zero,List.set_cons_succ])
  refine Tw.takeD (i:=9) (d:=22) (v:=?v11) rfl rfl (by kernel_rfl) (by kernel_rfl) (by kernel_rfl) (fun _ _ _ h=>h) (Or.inl ⟨by rfl,?hw11⟩) fu ?q11
  case hw11=>(intro w hSw;obtain⟨s0,s1,s2⟩:=hSw;go_simp;try with_reducible rfl)
  simp only[Act.put,List.setIfInBounds_toArray,List.set_cons_zero,List.set_cons_succ];refine Tw.takeD (i:=10) (d:=32) (v:=?v12) rfl rfl (by kernel_rfl) (by kernel_rfl) (by kernel_rfl) (fun _ _ _ h=>h) (Or.inl ⟨by rfl,?hw12⟩) fu ?q12
  case hw12=>(intro w hSw;obtain⟨s0,s1,s2⟩:=hSw;go_simp;try with_reducible rfl)
  simp only[Act.put,List.setIfInBounds_toArray,List.set_cons_zero,List.set_cons_succ];refine Tw.takeD (i:=11) (d:=33) (v:=?v13) rfl rfl (by kernel_rfl) (by kernel_rfl) (by kernel_rfl) (fun _ _ _ h=>h) (Or.inl ⟨by rfl,?hw13⟩) fu ?q13
  case hw13=>(intro w hSw;obtain⟨s0,s1,s2⟩:=hSw;go_simp;try with_reducible rfl)
  simp only[Act.put,List.setIfInBounds_toArray,List.set_cons_zero,List.set_cons_succ];refine Tw.takeD (i:=12) (d:=9) (v:=?v14) rfl rfl (by kernel_rfl) (by kernel_rfl) (by kernel_rfl) (fun _ _ _ h=>h) (Or.inl ⟨by rfl,?hw14⟩) fu ?q14
  case hw14=>(intro w hSw;obtain⟨s0,s1,s2⟩:=hSw;go_simp;try with_reducible rfl)
  simp only[Act.put,List.setIfInBounds_toArray,List.set_cons_zero,List.set_cons_succ];refine Tw.takeD (i:=13) (d:=10) (v:=?v15) rfl rfl (by kernel_rfl) (by kernel_rfl) (by kernel_rfl) (fun _ _ _ h=>h) (Or.inl ⟨by rfl,?hw15⟩) fu ?q15
  case hw15=>(intro w hSw;obtain⟨s0,s1,s2⟩:=hSw;go_simp;try with_reducible rfl)
  simp only[Act.put,List.setIfInBounds_toArray,List.set_cons_zero,List.set_cons_succ];refine wpAnyH_done (by kernel_rfl) ?_ _;clear fu g1 g2 hix yP;have iw:Hid (Since w w2.drew):=HS.out.trans HS2.out;have HR3:Hid (ak w2.drew (w.heap.size+1) 24 (aK (fun _=>⟨#[]⟩))):=HR.out.since HS2.out;have XA:Hid (ak w2.drew (w.heap.size+1+1) 24 (aK (aI kb S.D T k))):=HX.out.since HS2.out;clear HS HR HX HS2;generalize w2.drew=w3 at *;by_cases hz:0≤T.aB k∧T.aB k<8∧0≤T.off k∧T.off k<S.D.cnt (T.aB k).toNat
  ·have e1:XD S.D (T.aB k) (T.off k)=(ja S.D (T.aB k) (T.off k),0):=by
    unfold XD;rw[if_neg (fun q=>q ⟨hz.1,hz.2.1⟩),if_neg (fun q=>q ⟨hz.2.2.1,hz.2.2.2⟩)]
   rw[e1,vH];have HZ:Hid (0≤T.aB k∧T.aB k<8∧0≤T.off k∧T.off k<S.D.cnt (T.aB k).toNat):=hz;have Xd:Hid ((ja S.D (T.aB k) (T.off k)).size=128):=dG _ _;have Lt:Hid (there kb S.D T k↔((ja S.D (T.aB k) (T.off k)).extract 0 16=Sl.mX kb k (ja S.D (T.aB k) (T.off k))∧(ja S.D (T.aB k) (T.off k)).extract 0 16=T.tag k)):=by
    constructor
    ·rintro (q | q)
     ·exact absurd q YX.out
     exact q.2
    exact fun q=>Or.inr ⟨HZ.out,q⟩
   have Xe:Hid (∀j,aZ (aK (aI kb S.D T k)) k (.string (Sl.textOf kb (ja S.D (T.aB k) (T.off k)))) j=aK (aI kb S.D T (k+1)) j):=fun j=>Pq kb S.D T k _ (by rw[if_neg YX.out]) j
   clear hz e1;have q2:=H3.out.c2;have qt:w3.cell? ⟨wr.heap.size,2,none⟩=some (.string (T.tag k)):=jZ.out.cell 2 (by omega);generalize hbb:ja S.D (T.aB k) (T.off k)=bb at *;clear hbb;by_cases hg:bb.extract 0 16=Sl.mX kb k bb
   ·go_wp2_with fail
    refine(Sl.Jq kb k bb _ HB.out.kb (by have:=Xd.out;omega) (by have:=Xd.out;omega) hg (H3.out.Pj HB.out)).mono ?_;rintro e w4 ⟨rfl,h4⟩;have iY:Hid (Since w w4):=iw.out.trans h4;have HR4:Hid (ak w4 (w.heap.size+1) 24 (aK (fun _=>⟨#[]⟩))):=HR3.out.since h4;have HX4:Hid (ak w4 (w.heap.size+1+1) 24 (aK (aI kb S.D T k))):=XA.out.since h4;have qt4:w4.cell? ⟨wr.heap.size,2,none⟩=some (.string (T.tag k)):=(jZ.out.since h4).cell 2 (by omega);have HG:Hid (bb.extract 0 16=Sl.mX kb k bb):=hg;clear h4 hg qt q2 iw HR3 XA jZ H3;by_cases YY:bb.extract 0 16=T.tag k
    ·have HTK:Hid (there kb S.D T k):=Lt.out.2 ⟨HG.out,YY⟩;rw[YY];clear YY Lt HG;generalize Sl.textOf kb bb=tx at *;have qx:=HX4.out.cell k hlt;have qf:=HX4.out.frozen k hlt;go_wp2_with fail
     go_roundw
     case rel=>
      refine⟨k+1,by omega,by go_num,fun i hi=>?_,HR4.out.other (by show w.heap.size+1+1≠w.heap.size+1;omega) _,(HX4.out.set k hlt _).congr (fun j _=>Xe.out j),iY.out.setCell (by show w.heap.size≤w.heap.size+1+1;omega) _⟩;by_cases e:i=k
      ·subst e;exact HTK.out
      exact JK.out i (by omega)
     case measure=>simp[intOf];omega
    have hnl:=Tw.iP YY;have ZT:Hid (¬∀i,i<24→there kb S.D T i):=fun q=>YY (Lt.out.1 (q k hlt)).2
    clear YY Lt HG;generalize Sl.textOf kb bb=tx at *;generalize bb.extract 0 16=tg at *;have wK:=xz HR4.out;have hth:=BG HR4.out;have Dg:Hid ((w4.setCells (w.heap.size+1) 0 z24.toList).rangeAt (w.heap.size+1) 0 (aa 24 (aK (fun _=>⟨#[]⟩)))):=zY wK;have uH:Hid (Since w (w4.setCells (w.heap.size+1) 0 z24.toList)):=iY.out.setCells (by omega) _ _;clear wK;go_wp2_with (refine wpList_store_mid (by rfl) 164 _ _ (by rfl) (w.heap.size+1) 0 z24 (by rfl) (by rfl) hth (by kernel_rfl) (by kernel_rfl) ?_)
    exact bodyPost_ret (Tw.aY Tryz.results222 _ _ _ (w.heap.size+1) _ _ _ (by rfl) Dg.out Tryz.underlying164 (by rfl) (by rw[Lp];kernel_rfl) rfl) rfl ⟨Or.inr ⟨ZT.out,rfl⟩,uH.out⟩
   have ZT:Hid (¬∀i,i<24→there kb S.D T i):=fun q=>hg (Lt.out.1 (q k hlt)).1
   go_wp2_with fail
   refine(Sl.Oq kb k bb _ HB.out.kb (by have:=Xd.out;omega) (by have:=Xd.out;omega) hg (H3.out.Pj HB.out)).mono ?_;rintro e w4 ⟨rfl,h4⟩;have iY:Hid (Since w w4):=iw.out.trans h4;have HR4:Hid (ak w4 (w.heap.size+1) 24 (aK (fun _=>⟨#[]⟩))):=HR3.out.since h4;clear h4 hg qt q2 iw HR3 XA jZ H3 Lt Xe;have wK:=xz HR4.out;have hth:=BG HR4.out;have Dg:Hid ((w4.setCells (w.heap.size+1) 0 z24.toList).rangeAt (w.heap.size+1) 0 (aa 24 (aK (fun _=>⟨#[]⟩)))):=zY wK;have uH:Hid (Since w (w4.setCells (w.heap.size+1) 0 z24.toList)):=iY.out.setCells (by omega) _ _;clear wK;go_wp2_with (refine wpList_store_mid (by rfl) 164 _ _ (by rfl) (w.heap.size+1) 0 z24 (by rfl) (by rfl) hth (by kernel_rfl) (by kernel_rfl) ?_)
   exact bodyPost_ret (Tw.aY Tryz.results222 _ _ _ (w.heap.size+1) _ _ _ (by rfl) Dg.out Tryz.underlying164 (by rfl) (by rw[Lp];kernel_rfl) rfl) rfl ⟨Or.inr ⟨ZT.out,rfl⟩,uH.out⟩
  obtain⟨er,he1,he2⟩:∃er:Int,XD S.D (T.aB k) (T.off k)=(⟨#[]⟩,er)∧er≠0:=by
   unfold XD;by_cases h8:0≤T.aB k∧T.aB k<8
   ·rw[if_neg (fun q=>q h8)];rw[if_pos (fun q=>hz ⟨h8.1,h8.2,q.1,q.2⟩)];exact⟨7,rfl,by decide⟩
   rw[if_pos h8];exact⟨2,rfl,by decide⟩
  rw[he1,oQ _ he2];have ZT:Hid (¬∀i,i<24→there kb S.D T i):=fun q=>by
   rcases q k hlt with h6 | h6
   ·exact YX.out h6
   exact hz h6.1
  clear he1 he2 hz;have wK:=xz HR3.out;have hth:=BG HR3.out;have Dg:Hid ((w3.setCells (w.heap.size+1) 0 z24.toList).rangeAt (w.heap.size+1) 0 (aa 24 (aK (fun _=>⟨#[]⟩)))):=zY wK;have uH:Hid (Since w (w3.setCells (w.heap.size+1) 0 z24.toList)):=iw.out.setCells (by omega) _ _;clear wK;go_wp2_with (refine wpList_store_mid (by rfl) 164 _ _ (by rfl) (w.heap.size+1) 0 z24 (by rfl) (by rfl) hth (by kernel_rfl) (by kernel_rfl) ?_)
  exact bodyPost_ret (Tw.aY Tryz.results222 _ _ _ (w.heap.size+1) _ _ _ (by rfl) Dg.out Tryz.underlying164 (by rfl) (by rw[Lp];kernel_rfl) rfl) rfl ⟨Or.inr ⟨ZT.out,rfl⟩,uH.out⟩
 have hke:k=24:=by omega
 subst hke;have hR:=zY HX.out;have hL:=Lp (aI kb S.D T 24);obtain⟨hst,wK⟩:=rJ HR.out (aI kb S.D T 24);have Dg:Hid ((wr.setCells (w.heap.size+1) 0 (aa 24 (aK (aI kb S.D T 24)))).rangeAt (w.heap.size+1) 0 (aa 24 (aK (aI kb S.D T 24)))):=zY wK;have uH:Hid (Since w (wr.setCells (w.heap.size+1) 0 (aa 24 (aK (aI kb S.D T 24))))):=HS.out.setCells (by omega) _ _;clear wK;have HV:Hid (TV (aI kb S.D T 24)=.agg (aa 24 (aK (aI kb S.D T 24))).toArray):=show TV (aI kb S.D T 24)=_ from rfl
 generalize aa 24 (aK (aI kb S.D T 24))=cs4 at *;go_wp2_with (refine wpList_load_mid (by rfl) 164 _ (by rfl) (w.heap.size+1+1) 0 (by rfl) _ _ hR Tryz.underlying164 (by rfl) (by rw[hL];kernel_rfl) ?_)
 exact bodyPost_ret (Tw.aY Tryz.results222 _ _ _ (w.heap.size+1) _ _ _ (by rfl) Dg.out Tryz.underlying164 (by rfl) (by rw[hL];kernel_rfl) rfl) rfl ⟨Or.inl ⟨JK.out,by rw[HV.out];rfl⟩,uH.out⟩
end
end Vl
end Go.Proofs.YtmhcfaaggkidjaaGreatDoor
end
section
namespace Go.Proofs.YtmhcfaaggkidjaaGreatDoor
set_option maxRecDepth 100000
namespace Vl
open Go.RowKit
open Tw (Tb af bE bO)
def xA (kt s:ByteArray):Prop:=Tw.zD s∧Tw.FP (Tw.rd s)=true∧Tw.text kt (Tw.rd s)=s.extract 0 456
theorem Lu (kt s:ByteArray) (w:World) (hk:kt.size=32) (hs:s.size=500) (hT:Sm.jW w) :
  Calls Tryz.prog 221 #[.string kt,.string s] w fun e w'=>((xA kt s∧e=.returned (.tuple #[bE (Tw.rd s),.nilIface]))∨(¬xA kt s∧e=.returned (.tuple #[bE Tb.zero,.iface 32 (.int .i64 15)])))∧Since w w':=by
 by_cases ht:Tw.zD s
 ·by_cases hr:Tw.FP (Tw.rd s)=true
  ·by_cases he:Tw.text kt (Tw.rd s)=s.extract 0 456
   ·refine(Tw.qb kt s w hk (by omega) (by omega) ht hT (Tw.text kt (Tw.rd s)) .nilIface _ (fun W hW=>Tw.wO kt (Tw.rd s) W hk ((Tw.og _).1 hr) hW) (Or.inr (Or.inr ⟨rfl,he,rfl⟩))).mono ?_;rintro e w' ⟨rfl,h⟩;exact⟨Or.inl ⟨⟨ht,hr,he⟩,rfl⟩,h⟩
   refine(Tw.qb kt s w hk (by omega) (by omega) ht hT (Tw.text kt (Tw.rd s)) .nilIface _ (fun W hW=>Tw.wO kt (Tw.rd s) W hk ((Tw.og _).1 hr) hW) (Or.inr (Or.inl ⟨rfl,he,rfl⟩))).mono ?_;rintro e w' ⟨rfl,h⟩;exact⟨Or.inr ⟨fun q=>he q.2.2,rfl⟩,h⟩
  have hr2:Tw.FP (Tw.rd s)=false:=by simpa using hr
  refine(Tw.qb kt s w hk (by omega) (by omega) ht hT ⟨#[]⟩ (.iface 32 (.int .i64 1)) _ (fun W hW=>Tw.KD kt (Tw.rd s) W hk hr2) (Or.inl ⟨rfl,rfl⟩)).mono ?_;rintro e w' ⟨rfl,h⟩;exact⟨Or.inr ⟨fun q=>hr q.2.1,rfl⟩,h⟩
 refine(Tw.Gc kt s w hk (by omega) (by omega) ht).mono ?_;rintro e w' ⟨rfl,h⟩;exact⟨Or.inr ⟨fun q=>ht q.1,rfl⟩,h⟩
theorem Lv (D:Dv) (n:Int):(bH D n).size=500:=dG _ _
theorem GV (db cb:Nat) (kb kt:ByteArray) (T U:Tb) (X Y:Nat→ByteArray) (f:Bool) (j:Nat) (hj:j<102) :
  dF (bV db cb kb kt T X f) 77 24 (aK Y) j=bV db cb kb kt T Y f j:=by
 unfold dF;by_cases h:77≤j∧j<77+24
 ·rw[if_pos h];have:=ql db cb kb kt T Y f (j-77) (by omega);rw[show 77+(j-77)=j by omega] at this;rw[this]
  rfl
 rw[if_neg h];unfold bV;by_cases h4:j<77
 ·simp only[if_pos h4]
 have h5:¬j<101:=by omega
 simp only[if_neg h4,if_neg h5]
theorem iE {w:World} {b o b':Nat} {l:List Value} (h:w.rangeAt b o l) (hb:b'≠b) (o':Nat) (vs:List Value):(w.setCells b' o' vs).rangeAt b o l:=fun j x hj=>by
 rw[World.cell?_setCells_out b' _ o' w _ (fun e _=>absurd e.symm hb)];exact h j x hj
section
variable {w0 w:World} {vb db cb:Nat} {kb kt:ByteArray} {S:Vs} {v:Value}
set_option maxHeartbeats 8000000 in
theorem rM (B:Base w0 kb kt) (n:Int) (hn:0≤n) (h:bg w0 w vb db cb kb kt S v) :
  Calls Tryz.prog 169 #[.pointer (some ⟨vb,0,none⟩),.int .i64 n] w fun e w'=>(whole kb kt S.D n∧e=.returned (.bool true)∧bF w0 w w' vb db cb kb kt { S with T:=dh S.D n,X:=aI kb S.D (dh S.D n) 24 } v)∨(¬whole kb kt S.D n∧e=.returned (.bool false)∧Since w w'):=by
 have HB:Hid (Base w0 kb kt):=B;have H:Hid (bg w0 w vb db cb kb kt S v):=h;have hn1:0≤n:=hn;obtain⟨kk,hkk,hk2⟩:∃k:Nat,n % 2=k∧k<2:=⟨(n % 2).toNat,by omega,by omega⟩
 have HKK:Hid (n % 2=(kk:Int)∧kk<2):=⟨hkk,hk2⟩
 have HST:Hid (bH S.D n=txt 500 (S.D.aJ kk (fun _=>true))):=by
  show bH S.D n=_
  unfold bH;rw[hkk,Int.toNat_natCast]
 clear hkk hk2 h B hn;go_enter Tryz.func169,Tryz.ntmps169
 go_wp2_with fail
 have H1:Hid (bg w0 w.drew vb db cb kb kt S v):=H.out.go (Since.refl _).drew;have hS1:(fun W:World=>W.cell? ⟨vb,0,none⟩=some (.pointer (some ⟨db,0,none⟩))) w.drew:=H1.out.c0;refine wp_region_held (S:=fun W:World=>W.cell? ⟨vb,0,none⟩=some (.pointer (some ⟨db,0,none⟩))) (by kernel_rfl) ?_;refine Tw.takeD (i:=0) (d:=11) (v:=?v1) rfl rfl (by kernel_rfl) (by kernel_rfl) (by kernel_rfl) (fun _ _ _ h=>h) (Or.inl ⟨by rfl,?hw1⟩) hS1 ?q1
 case hw1=>(intro w hSw;have s0:=hSw;go_simp;try with_reducible rfl)
 simp only[Act.put,List.setIfInBounds_toArray,List.set_cons_zero,List.set_cons_succ];refine Tw.takeD (i:=1) (d:=12) (v:=?v2) rfl rfl (by kernel_rfl) (by kernel_rfl) (by kernel_rfl) (fun _ _ _ h=>h) (Or.inl ⟨by rfl,?hw2⟩) hS1 ?q2
 case hw2=>(intro w hSw;have s0:=hSw;go_simp;try with_reducible rfl)
 simp only[Act.put,List.setIfInBounds_toArray,List.set_cons_zero,List.set_cons_succ];refine Tw.takeD (i:=2) (d:=13) (v:=?v3) rfl rfl (by kernel_rfl) (by kernel_rfl) (by kernel_rfl) (fun _ _ _ h=>h) (Or.inl ⟨by rfl,?hw3⟩) hS1 ?q3
 case hw3=>(intro w hSw;have s0:=hSw;go_simp;try with_reducible rfl)
 simp only[Act.put,List.setIfInBounds_toArray,List.set_cons_zero,List.set_cons_succ];refine Tw.takeD (i:=3) (d:=14) (v:=?v4) rfl rfl (by kernel_rfl) (by kernel_rfl) (by kernel_rfl) (fun _ _ _ h=>h) (Or.inl ⟨by rfl,?hw4⟩) hS1 ?q4
 case hw4=>(intro w hSw;have s0:=hSw;go_simp;try with_reducible rfl)
 simp only[Act.put,List.setIfInBounds_toArray,List.set_cons_zero,List.set_cons_succ];refine Tw.takeD (i:=4) (d:=15) (v:=?v5) rfl rfl (by kernel_rfl) (by kernel_rfl) (by kernel_rfl) (fun _ _ _ h=>h) (Or.inl ⟨by rfl,?hw5⟩) hS1 ?q5
 case hw5=>(intro w hSw;have s0:=hSw;go_simp;try with_reducible rfl)
 simp only[Act.put,List.setIfInBounds_toArray,List.set_cons_zero,List.set_cons_succ];refine wpAnyH_ready (rs:=[5]) (by kernel_rfl) (by simp) (AllReadyH.cons rfl (fun K hK=>?_) AllReadyH.nil);rw[if_pos (by rfl)];go_simp
 refine(iy n _ hn1).mono ?_;rintro e w1 ⟨rfl,hw1⟩;rw[hw1];clear hw1 w1;simp only[];refine hK.out _ _ hS1 (fun _=>?_);clear hK K
 (try simp only[Act.put,List.setIfInBounds_toArray,List.set_cons_zero,List.set_cons_succ])
 refine wpAnyH_ready (rs:=[6]) (by kernel_rfl) (by simp) (AllReadyH.cons rfl (fun K hK=>?_) AllReadyH.nil);rw[if_pos (by rfl)];go_simp
 rw[HKK.out.1];refine(AJ S.D v db kk _ H1.out.dev HKK.out.2).mono ?_;rintro e w2 ⟨rfl,h2⟩;simp only[];have H2:Hid (bg w0 w2 vb db cb kb kt S v):=H1.out.go h2;have HS2:Hid (Since w w2):=(Since.refl _).drew.trans h2;have hS2:(fun W:World=>W.cell? ⟨vb,0,none⟩=some (.pointer (some ⟨db,0,none⟩))) w2:=H2.out.c0;clear h2;refine hK.out _ _ hS2 (fun _=>?_);clear hK K
 (try simp only[Act.put,List.setIfInBounds_toArray,List.set_cons_zero,List.set_cons_succ])
 refine Tw.takeD (i:=7) (d:=10) (v:=?v10) rfl rfl (by kernel_rfl) (by kernel_rfl) (by kernel_rfl) (fun _ _ _ h=>h) (Or.inl ⟨by rfl,?hw10⟩) hS2 ?q10
 case hw10=>(intro w hSw;have s0:=hSw;go_simp;try with_reducible rfl)
 simp only[Act.put,List.setIfInBounds_toArray,List.set_cons_zero,List.set_cons_succ];refine Tw.takeD (i:=8) (d:=18) (v:=?v11) rfl rfl (by kernel_rfl) (by kernel_rfl) (by kernel_rfl) (fun _ _ _ h=>h) (Or.inl ⟨by rfl,?hw11⟩) hS2 ?q11
 case hw11=>(intro w hSw;have s0:=hSw;go_simp;try with_reducible rfl)
 simp only[Act.put,List.setIfInBounds_toArray,List.set_cons_zero,List.set_cons_succ];refine Tw.takeD (i:=9) (d:=19) (v:=?v12) rfl rfl (by kernel_rfl) (by kernel_rfl) (by kernel_rfl) (fun _ _ _ h=>h) (Or.inl ⟨by rfl,?hw12⟩) hS2 ?q12
 case hw12=>(intro w hSw;have s0:=hSw;go_simp;try with_reducible rfl)
 simp only[Act.put,List.setIfInBounds_toArray,List.set_cons_zero,List.set_cons_succ];refine Tw.takeD (i:=10) (d:=5) (v:=?v13) rfl rfl (by kernel_rfl) (by kernel_rfl) (by kernel_rfl) (fun _ _ _ h=>h) (Or.inl ⟨by rfl,?hw13⟩) hS2 ?q13
 case hw13=>(intro w hSw;have s0:=hSw;go_simp;try with_reducible rfl)
 simp only[Act.put,List.setIfInBounds_toArray,List.set_cons_zero,List.set_cons_succ];refine Tw.takeD (i:=11) (d:=6) (v:=?v14) rfl rfl (by kernel_rfl) (by kernel_rfl) (by kernel_rfl) (fun _ _ _ h=>h) (Or.inl ⟨by rfl,?hw14⟩) hS2 ?q14
 case hw14=>(intro w hSw;have s0:=hSw;go_simp;try with_reducible rfl)
 simp only[Act.put,List.setIfInBounds_toArray,List.set_cons_zero,List.set_cons_succ];refine wpAnyH_done (by kernel_rfl) ?_ _;rw[←HST.out];clear hS1 hS2 H1;have XE:Hid (whole kb kt S.D n↔(xA kt (bH S.D n)∧(dh S.D n).count=n)∧∀i,i<24→there kb S.D (dh S.D n) i):=by
  show whole kb kt S.D n↔_
  unfold whole JA xA dh;constructor
  ·rintro ⟨⟨a,b,c,d⟩,e⟩;exact⟨⟨⟨a,b,c⟩,d⟩,e⟩
  rintro ⟨⟨⟨a,b,c⟩,d⟩,e⟩;exact⟨⟨a,b,c,d⟩,e⟩
 have HZ:Hid ((bH S.D n).size=500):=Lv _ _;have HTA:Hid (Tw.rd (bH S.D n)=dh S.D n):=show Tw.rd (bH S.D n)=dh S.D n from rfl
 have ZU:Hid (∀W,Sm.jW W→Calls Tryz.prog 221 #[.string kt,.string (bH S.D n)] W fun e w'=>((xA kt (bH S.D n)∧e=.returned (.tuple #[bE (dh S.D n),.nilIface]))∨(¬xA kt (bH S.D n)∧e=.returned (.tuple #[bE Tb.zero,.iface 32 (.int .i64 15)])))∧Since W w'):=fun W hW=>Lu kt (bH S.D n) W HB.out.kt HZ.out hW
 generalize bH S.D n=sl at *;generalize hTT:dh S.D n=T at *;have Ti:Hid (dh S.D n=T):=hTT;clear hTT;have q3:=H2.out.c3;go_wp2_with fail
 refine(ZU.out _ (H2.out.Pj HB.out)).mono ?_;rintro e w3 ⟨hor,h3⟩;have H3:Hid (bg w0 w3 vb db cb kb kt S v):=H2.out.go h3;have iw:Hid (Since w w3):=HS2.out.trans h3;clear h3 q3 H2 HS2 ZU;rcases hor with⟨Ps,rfl⟩ | ⟨Ps,rfl⟩
 ·have a2I:Hid (xA kt sl):=Ps;clear Ps;have fT:=Tw.cO w3 w3.heap.size rfl;obtain⟨hst,pg⟩:=Tw.fU fT T;have yO:Hid (ak ((w3.alloc (.cells Tryz.zeroCells163 163)).setCells w3.heap.size 0 (aa 73 (af T))) w3.heap.size 73 (af T)):=pg;have iY:Hid (Since w3 ((w3.alloc (.cells Tryz.zeroCells163 163)).setCells w3.heap.size 0 (aa 73 (af T)))):=((Since.refl w3).alloc _).setCells (Nat.le_refl _) _ _;clear fT pg;have c0:((w3.alloc (.cells Tryz.zeroCells163 163)).setCells w3.heap.size 0 (aa 73 (af T))).cell? ⟨w3.heap.size,0,none⟩=some (.int .i64 T.count):=yO.out.cell 0 (by omega);have hL:=Tw.pW T;have hV:bE T=.agg (aa 73 (af T)).toArray:=rfl;rw[hV]
  have Wt:Hid (∀W,bg w0 W vb db cb kb kt S v→Calls Tryz.prog 222 #[.pointer (some ⟨vb,0,none⟩),.agg (aa 73 (af T)).toArray] W fun e w'=>(((∀i,i<24→there kb S.D T i)∧e=.returned (.tuple #[.agg (aa 24 (aK (aI kb S.D T 24))).toArray,.bool true]))∨((¬∀i,i<24→there kb S.D T i)∧e=.returned (.tuple #[.agg (aa 24 (aK (fun _=>⟨#[]⟩))).toArray,.bool false])))∧Since W w'):=fun W hW=>GQ HB.out T hW
  clear hV;have KS:=Tw.dD yO.out;generalize hcs:aa 73 (af T)=cs at *;have TT:Hid (aa 73 (af T)=cs):=hcs;clear hcs;generalize ((w3.alloc (.cells Tryz.zeroCells163 163)).setCells w3.heap.size 0 cs)=w4 at *;have H4:Hid (bg w0 w4 vb db cb kb kt S v):=H3.out.go iY.out;have qL:Hid (Since w w4):=iw.out.trans iY.out;by_cases hc:T.count=n
  ·have HCN:Hid (T.count=n):=hc;rw[hc] at c0;clear hc;go_wp2_with (refine wpList_load_mid (by rfl) 163 _ (by rfl) w3.heap.size 0 (by rfl) _ _ KS Tryz.underlying163 (by rfl) (by rw[hL];kernel_rfl) ?_)
   refine(Wt.out _ H4.out).mono ?_;rintro e w5 ⟨hor,h5⟩;have Bc:Hid (ak w5 w3.heap.size 73 (af T)):=yO.out.since h5;have H5:Hid (bg w0 w5 vb db cb kb kt S v):=H4.out.go h5;have uH:Hid (Since w w5):=qL.out.trans h5;have HN5:Hid (vb≠w3.heap.size∧vb<w5.heap.size):=by
    refine⟨fun e=>?_,H5.out.bL.lt (by omega)⟩;have:=H3.out.bL.lt (by omega);omega
   clear h5 KS c0 hst yO iY H4 qL Wt H3 iw;rcases hor with⟨hth,rfl⟩ | ⟨hth,rfl⟩
   ·have HW:Hid (whole kb kt S.D n):=XE.out.2 ⟨⟨a2I.out,HCN.out⟩,hth⟩;clear hth XE;have hzc:=vQ w5 w5.heap.size rfl;have wK:=(rJ hzc (aI kb S.D T 24)).2;have hL5:=Lp (aI kb S.D T 24);have h15:(aa 24 (aK (aI kb S.D T 24))).toArray.all (·.oneCell')=true:=all_oneCell_toArray (fC _ _ (fun j _=>oD _ j));have TW:(w5.alloc (.cells z24 164)).there w5.heap.size 0 (aa 24 (aK (aI kb S.D T 24))).toArray.size:=by
     have e5:∀l:List Value,l.length=24→l.toArray.size=24:=fun l hl=>by rw[List.size_toArray];exact hl
     rw[e5 _ hL5];exact hzc.there 0 24 (by omega)
    have Xa:Hid (ak ((w5.alloc (.cells z24 164)).setCells w5.heap.size 0 (aa 24 (aK (aI kb S.D T 24)))) w5.heap.size 24 (aK (aI kb S.D T 24))):=wK;have Wj:Hid (Since w5 ((w5.alloc (.cells z24 164)).setCells w5.heap.size 0 (aa 24 (aK (aI kb S.D T 24))))):=((Since.refl w5).alloc _).setCells (Nat.le_refl _) _ _;clear hzc wK;generalize hcx:aa 24 (aK (aI kb S.D T 24))=cx at *;have YT:Hid (aa 24 (aK (aI kb S.D T 24))=cx):=hcx;clear hcx;go_wp2_with (refine wpList_store_mid (by rfl) 164 _ _ (by rfl) w5.heap.size 0 cx.toArray (by rfl) (by rfl) TW (by rw[List.size_toArray,hL5];kernel_rfl) h15 ?_)
    have GU:z24=#[.string ⟨#[]⟩,.string ⟨#[]⟩,.string ⟨#[]⟩,.string ⟨#[]⟩,.string ⟨#[]⟩,.string ⟨#[]⟩,.string ⟨#[]⟩,.string ⟨#[]⟩,.string ⟨#[]⟩,.string ⟨#[]⟩,.string ⟨#[]⟩,.string ⟨#[]⟩,.string ⟨#[]⟩,.string ⟨#[]⟩,.string ⟨#[]⟩,.string ⟨#[]⟩,.string ⟨#[]⟩,.string ⟨#[]⟩,.string ⟨#[]⟩,.string ⟨#[]⟩,.string ⟨#[]⟩,.string ⟨#[]⟩,.string ⟨#[]⟩,.string ⟨#[]⟩]:=rfl;rw[←GU];clear GU TW h15;generalize (w5.alloc (.cells z24 164)).setCells w5.heap.size 0 cx=w6 at *;have H6:Hid (bg w0 w6.drew vb db cb kb kt S v):=(H5.out.go Wj.out).go (Since.refl _).drew;have ZV:Hid (Since w w6.drew):=(uH.out.trans Wj.out).drew;have Dg:Hid (w6.drew.rangeAt w3.heap.size 0 cs):=by
     have:=Tw.dD (Bc.out.since (Wj.out.trans (Since.refl w6).drew));rw[TT.out] at this;exact this
    have HX6:Hid (w6.drew.rangeAt w5.heap.size 0 cx):=by
     have:=zY (Xa.out.since (Since.refl w6).drew);rw[YT.out] at this;exact this
    have ZW:=H6.out.bL.store Tryz.prog 4 73 (by omega) (af T) (fun j _=>Tw.kR _ j);rw[TT.out] at ZW;have HC7:Hid (ak (w6.drew.setCells vb 4 cs) vb 102 (bV db cb kb kt T S.X S.dead)):=by
     have:=(H6.out.bL.setRow 4 73 (by omega) (af T)).congr (fun j hj=>xy db cb kb kt S.T T S.X S.dead j hj);rw[TT.out] at this;exact this
    have ZX:=HC7.out.store Tryz.prog 77 24 (by omega) (aK (aI kb S.D T 24)) (fun j _=>oD _ j);rw[YT.out] at ZX;have HC8:Hid (ak ((w6.drew.setCells vb 4 cs).setCells vb 77 cx) vb 102 (bV db cb kb kt T (aI kb S.D T 24) S.dead)):=by
     have:=(HC7.out.setRow 77 24 (by omega) (aK (aI kb S.D T 24))).congr (fun j hj=>GV db cb kb kt T T S.X (aI kb S.D T 24) S.dead j hj);rw[YT.out] at this;exact this
    have HF8:Hid (Fr vb none w6.drew ((w6.drew.setCells vb 4 cs).setCells vb 77 cx)):=(Fr.setCells _ _ _ _ _).trans' (Fr.setCells _ _ _ _ _);have a2L:Hid (Ty ((w6.drew.setCells vb 4 cs).setCells vb 77 cx) vb 166):=Ty.setCells _ _ _ _ (Ty.setCells _ _ _ _ H6.out.ty);have Sz:Hid (vb≠w3.heap.size∧vb≠w5.heap.size):=⟨HN5.out.1,by have:=HN5.out.2;omega⟩
    have Tj:(fun W:World=>W.rangeAt w3.heap.size 0 cs∧W.rangeAt w5.heap.size 0 cx) w6.drew:=⟨Dg.out,HX6.out⟩
    have ZY:Hid ((fun W:World=>W.rangeAt w3.heap.size 0 cs∧W.rangeAt w5.heap.size 0 cx) (w6.drew.setCells vb 4 cs)):=⟨iE Dg.out Sz.out.1 _ _,iE HX6.out Sz.out.2 _ _⟩
    have ZZ:Hid ((fun W:World=>W.rangeAt w3.heap.size 0 cs∧W.rangeAt w5.heap.size 0 cx) ((w6.drew.setCells vb 4 cs).setCells vb 77 cx)):=⟨iE (iE Dg.out Sz.out.1 _ _) Sz.out.1 _ _,iE (iE HX6.out Sz.out.2 _ _) Sz.out.2 _ _⟩
    clear Bc Xa Wj uH H5 HN5;refine wp_region_held (S:=fun W:World=>W.rangeAt w3.heap.size 0 cs∧W.rangeAt w5.heap.size 0 cx) (by kernel_rfl) ?_;refine Tw.takeD (i:=0) (d:=47) (v:=?v16) rfl rfl (by kernel_rfl) (by kernel_rfl) (by kernel_rfl) (fun _ _ _ h=>h) (Or.inl ⟨by rfl,?hw16⟩) Tj ?q16
    case hw16=>(intro w hSw;obtain⟨s0,s1⟩:=hSw;go_simp;try with_reducible rfl)
    simp only[Act.put,List.setIfInBounds_toArray,List.set_cons_zero,List.set_cons_succ];refine Tw.takeD (i:=1) (d:=48) (v:=?v17) rfl rfl (by kernel_rfl) (by kernel_rfl) (by kernel_rfl) (fun _ _ _ h=>h) (Or.inl ⟨by rfl,?hw17⟩) Tj ?q17
    case hw17=>(intro w hSw;obtain⟨s0,s1⟩:=hSw;go_simp;try with_reducible rfl)
    simp only[Act.put,List.setIfInBounds_toArray,List.set_cons_zero,List.set_cons_succ];refine Tw.takeD (i:=2) (d:=49) (v:=.agg cs.toArray) rfl rfl (by kernel_rfl) (by kernel_rfl) (by kernel_rfl) (fun _ _ _ h=>h) (yieldsIf_load_mid (by rfl) 163 _ (by rfl) w3.heap.size 0 (by rfl) _ _ (fun w hSw=>hSw.1) Tryz.underlying163 (by rfl) (by rw[hL];kernel_rfl)) Tj ?q18;simp only[Act.put,List.setIfInBounds_toArray,List.set_cons_zero,List.set_cons_succ];refine Tw.takeD (i:=3) (d:=50) (v:=.agg cx.toArray) rfl rfl (by kernel_rfl) (by kernel_rfl) (by kernel_rfl) (fun _ _ _ h=>h) (yieldsIf_load_mid (by rfl) 164 _ (by rfl) w5.heap.size 0 (by rfl) _ _ (fun w hSw=>hSw.2) Tryz.underlying164 (by rfl) (by rw[hL5];kernel_rfl)) Tj ?q19;simp only[Act.put,List.setIfInBounds_toArray,List.set_cons_zero,List.set_cons_succ]
    refine Tw.takeD (i:=4) (d:=51) (v:=?v20) rfl rfl (by kernel_rfl) (by kernel_rfl) (by kernel_rfl) (fun _ _ _ h=>h) (Or.inl ⟨by rfl,?hw20⟩) Tj ?q20
    case hw20=>(intro w hSw;obtain⟨s0,s1⟩:=hSw;go_simp;try with_reducible rfl)
    simp only[Act.put,List.setIfInBounds_toArray,List.set_cons_zero,List.set_cons_succ];refine Tw.takeD (i:=5) (d:=52) (v:=?v21) rfl rfl (by kernel_rfl) (by kernel_rfl) (by kernel_rfl) (fun _ _ _ h=>h) (Or.inl ⟨by rfl,?hw21⟩) Tj ?q21
    case hw21=>(intro w hSw;obtain⟨s0,s1⟩:=hSw;go_simp;try with_reducible rfl)
    simp only[Act.put,List.setIfInBounds_toArray,List.set_cons_zero,List.set_cons_succ];refine wpAnyH_ready (rs:=[6]) (by kernel_rfl) (by simp) (AllReadyH.cons rfl (fun K hK=>?_) AllReadyH.nil);rw[if_pos (by rfl)];go_simp
    have Cz:(fun W:World=>W.rangeAt w3.heap.size 0 cs∧W.rangeAt w5.heap.size 0 cx) (w6.drew.setCells vb 4 cs):=ZY.out;refine hK.out _ _ Cz (fun _=>?_);clear hK K
    (try simp only[Act.put,List.setIfInBounds_toArray,List.set_cons_zero,List.set_cons_succ])
    refine Tw.takeD (i:=7) (d:=53) (v:=?v24) rfl rfl (by kernel_rfl) (by kernel_rfl) (by kernel_rfl) (fun _ _ _ h=>h) (Or.inl ⟨by rfl,?hw24⟩) Cz ?q24
    case hw24=>(intro w hSw;obtain⟨s0,s1⟩:=hSw;go_simp;try with_reducible rfl)
    simp only[Act.put,List.setIfInBounds_toArray,List.set_cons_zero,List.set_cons_succ];refine Tw.takeD (i:=8) (d:=54) (v:=?v25) rfl rfl (by kernel_rfl) (by kernel_rfl) (by kernel_rfl) (fun _ _ _ h=>h) (Or.inl ⟨by rfl,?hw25⟩) Cz ?q25
    case hw25=>(intro w hSw;obtain⟨s0,s1⟩:=hSw;go_simp;try with_reducible rfl)
    simp only[Act.put,List.setIfInBounds_toArray,List.set_cons_zero,List.set_cons_succ];refine wpAnyH_ready (rs:=[9]) (by kernel_rfl) (by simp) (AllReadyH.cons rfl (fun K hK=>?_) AllReadyH.nil);rw[if_pos (by rfl)];go_simp
    have ZL:(fun W:World=>W.rangeAt w3.heap.size 0 cs∧W.rangeAt w5.heap.size 0 cx) ((w6.drew.setCells vb 4 cs).setCells vb 77 cx):=ZZ.out;refine hK.out _ _ ZL (fun _=>?_);clear hK K
    (try simp only[Act.put,List.setIfInBounds_toArray,List.set_cons_zero,List.set_cons_succ])
    refine wpAnyH_done (by kernel_rfl) ?_ _;clear ZW ZX Tj Cz ZL ZY ZZ;generalize (w6.drew.setCells vb 4 cs).setCells vb 77 cx=w7 at *;go_wp2_with fail
    go_ret;rw[Ti.out];exact Or.inl ⟨HW.out,rfl,bF.pre ZV.out (H6.out.DV HC8.out HF8.out a2L.out)⟩
   have HW:Hid (¬whole kb kt S.D n):=fun q=>hth (XE.out.1 q).2
   clear hth XE;have hzc:=vQ w5 w5.heap.size rfl;have wK:=(rJ hzc (fun _=>⟨#[]⟩)).2;have hL5:=Lp (fun _=>⟨#[]⟩);have h15:(aa 24 (aK (fun _=>⟨#[]⟩))).toArray.all (·.oneCell')=true:=all_oneCell_toArray (fC _ _ (fun j _=>oD _ j));have TW:(w5.alloc (.cells z24 164)).there w5.heap.size 0 (aa 24 (aK (fun _=>⟨#[]⟩))).toArray.size:=by
    have e5:∀l:List Value,l.length=24→l.toArray.size=24:=fun l hl=>by rw[List.size_toArray];exact hl
    rw[e5 _ hL5];exact hzc.there 0 24 (by omega)
   have Xa:Hid (ak ((w5.alloc (.cells z24 164)).setCells w5.heap.size 0 (aa 24 (aK (fun _=>⟨#[]⟩)))) w5.heap.size 24 (aK (fun _=>⟨#[]⟩))):=wK;have Wj:Hid (Since w5 ((w5.alloc (.cells z24 164)).setCells w5.heap.size 0 (aa 24 (aK (fun _=>⟨#[]⟩))))):=((Since.refl w5).alloc _).setCells (Nat.le_refl _) _ _;clear hzc wK;generalize hcx:aa 24 (aK (fun _=>⟨#[]⟩))=cx at *;have YT:Hid (aa 24 (aK (fun _=>⟨#[]⟩))=cx):=hcx;clear hcx;have ZV:Hid (Since w ((w5.alloc (.cells z24 164)).setCells w5.heap.size 0 cx)):=uH.out.trans Wj.out;go_wp2_with (refine wpList_store_mid (by rfl) 164 _ _ (by rfl) w5.heap.size 0 cx.toArray (by rfl) (by rfl) TW (by rw[List.size_toArray,hL5];kernel_rfl) h15 ?_)
   go_ret;exact Or.inr ⟨HW.out,rfl,ZV.out⟩
  have HW:Hid (¬whole kb kt S.D n):=fun q=>hc (XE.out.1 q).1.2
  go_wp2_with fail
  go_ret;exact Or.inr ⟨HW.out,rfl,qL.out⟩
 have HW:Hid (¬whole kb kt S.D n):=fun q=>Ps (XE.out.1 q).1.1
 clear Ps XE;have fT:=Tw.cO w3 w3.heap.size rfl;obtain⟨hst,pg⟩:=Tw.fU fT Tb.zero;have iY:Hid (Since w ((w3.alloc (.cells Tryz.zeroCells163 163)).setCells w3.heap.size 0 (aa 73 (af Tb.zero)))):=(iw.out.alloc _).setCells (iw.out.size) _ _;clear fT pg;have hV:bE Tb.zero=.agg (aa 73 (af Tb.zero)).toArray:=rfl;rw[hV];clear hV;have hL:=Tw.pW Tb.zero;generalize aa 73 (af Tb.zero)=cs at *;go_wp2_with fail
 go_ret;exact Or.inr ⟨HW.out,rfl,iY.out⟩
end
end Vl
end Go.Proofs.YtmhcfaaggkidjaaGreatDoor
end
section
namespace Go.Proofs.YtmhcfaaggkidjaaGreatDoor
set_option maxRecDepth 100000
namespace Vl
open Go.RowKit
open Tw (Tb af bE bO)
section
variable {w0 w:World} {vb db cb:Nat} {kb kt:ByteArray} {S:Vs} {v:Value}
def eB (kb kt:ByteArray) (S:Vs) (r:Int) (S':Vs):Prop:=
 (whole kb kt S.D (S.c+1)∧r=0∧S'={ S with T:=dh S.D (S.c+1),X:=aI kb S.D (dh S.D (S.c+1)) 24,c:=S.c+1 })∨(¬whole kb kt S.D (S.c+1)∧S.c=0∧r=0∧S'=S)∨(¬whole kb kt S.D (S.c+1)∧S.c≠0∧whole kb kt S.D S.c∧r=0∧S'={ S with T:=dh S.D S.c,X:=aI kb S.D (dh S.D S.c) 24 })∨(¬whole kb kt S.D (S.c+1)∧S.c≠0∧¬whole kb kt S.D S.c∧r=15∧S'=S)
set_option maxHeartbeats 4000000 in
theorem GX (B:Base w0 kb kt) (hc:0≤S.c∧S.c<1000000000) (h:bg w0 w vb db cb kb kt S v) :
  Calls Tryz.prog 115 #[.pointer (some ⟨vb,0,none⟩)] w fun e w'=>∃r S',e=.returned (ev r)∧eB kb kt S r S'∧bF w0 w w' vb db cb kb kt S' v:=by
 have HB:Hid (Base w0 kb kt):=B;have H:Hid (bg w0 w vb db cb kb kt S v):=h;obtain⟨hc0,hc1⟩:=hc;have q1:=h.c1;have HT1:Hid (∀W V SS,bg w0 W vb db cb kb kt SS V→Calls Tryz.prog 169 #[.pointer (some ⟨vb,0,none⟩),.int .i64 (S.c+1)] W fun e w'=>(whole kb kt SS.D (S.c+1)∧e=.returned (.bool true)∧bF w0 W w' vb db cb kb kt { SS with T:=dh SS.D (S.c+1),X:=aI kb SS.D (dh SS.D (S.c+1)) 24 } V)∨(¬whole kb kt SS.D (S.c+1)∧e=.returned (.bool false)∧Since W w')):=fun W V SS hV=>rM B (S.c+1) (by omega) hV
 have HT0:Hid (∀W V SS,bg w0 W vb db cb kb kt SS V→Calls Tryz.prog 169 #[.pointer (some ⟨vb,0,none⟩),.int .i64 S.c] W fun e w'=>(whole kb kt SS.D S.c∧e=.returned (.bool true)∧bF w0 W w' vb db cb kb kt { SS with T:=dh SS.D S.c,X:=aI kb SS.D (dh SS.D S.c) 24 } V)∨(¬whole kb kt SS.D S.c∧e=.returned (.bool false)∧Since W w')):=fun W V SS hV=>rM B S.c hc0 hV
 clear h B;go_enter Tryz.func115,Tryz.ntmps115
 go_wp2_with fail
 refine(Mt.AJ cb S.c _ (H.out.sQ.cell 0 (by omega))).mono ?_;rintro e wx ⟨rfl,hw⟩;rw[hw];clear hw wx;go_wp2_with fail
 refine(HT1.out _ _ _ H.out).mono ?_;rintro e w1 (⟨hw1,rfl,h1⟩ | ⟨hw1,rfl,h1⟩)
 ·have HW:Hid (whole kb kt S.D (S.c+1)):=hw1;obtain⟨v1,h1v,F1⟩:=h1.cont;have H1:Hid (bg w0 w1 vb db cb kb kt { S with T:=dh S.D (S.c+1),X:=aI kb S.D (dh S.D (S.c+1)) 24 } v1):=h1v;have YQ:Hid (∀w' S',bF w0 w1 w' vb db cb kb kt S' v1→bF w0 w w' vb db cb kb kt S' v):=F1;clear hw1 h1 h1v F1 q1;have q2:=H1.out.c1;go_wp2_with fail
  refine(Mt.CB cb S.c (S.c+1) _ (H1.out.sQ.cell 0 (by omega)) (H1.out.sQ.frozen 0 (by omega)) (by omega)).mono ?_;rintro e w2 ⟨rfl,h2⟩;have HT2:Hid (bF w0 w w2 vb db cb kb kt { S with T:=dh S.D (S.c+1),X:=aI kb S.D (dh S.D (S.c+1)) 24,c:=S.c+1 } v):=by
   rw[h2];exact YQ.out _ _ (H1.out.Pi (c':=S.c+1))
  clear h2;go_wp2_with fail
  go_ret;exact⟨0,_,by rw[vH];rfl,Or.inl ⟨HW.out,rfl,rfl⟩,HT2.out⟩
 have HW:Hid (¬whole kb kt S.D (S.c+1)):=hw1;have H1:Hid (bg w0 w1 vb db cb kb kt S v):=H.out.go h1;have bY:Hid (Since w w1):=h1;clear hw1 h1 q1;by_cases h0:S.c=0
 ·have HC:Hid (S.c=0):=h0;go_wp2_with fail
  go_ret;exact⟨0,S,by rw[vH];rfl,Or.inr (Or.inl ⟨HW.out,HC.out,rfl,rfl⟩),H1.out.self |> bF.pre bY.out⟩
 have HC:Hid (S.c≠0):=h0;go_wp2_with fail
 refine(HT0.out _ _ _ H1.out).mono ?_;rintro e w2 (⟨hw2,rfl,h2⟩ | ⟨hw2,rfl,h2⟩)
 ·have HW2:Hid (whole kb kt S.D S.c):=hw2;have HT2:Hid (bF w0 w w2 vb db cb kb kt { S with T:=dh S.D S.c,X:=aI kb S.D (dh S.D S.c) 24 } v):=bF.pre bY.out h2;clear hw2 h2;go_wp2_with fail
  go_ret;exact⟨0,_,by rw[vH];rfl,Or.inr (Or.inr (Or.inl ⟨HW.out,HC.out,HW2.out,rfl,rfl⟩)),HT2.out⟩
 have HW2:Hid (¬whole kb kt S.D S.c):=hw2;have HS2:Hid (Since w w2):=bY.out.trans h2;clear hw2 h2;go_wp2_with fail
 go_ret;exact⟨15,S,by rw[oQ 15 (by decide)];rfl,Or.inr (Or.inr (Or.inr ⟨HW.out,HC.out,HW2.out,rfl,rfl⟩)),H.out.to HS2.out⟩
end
def bz (secret:ByteArray):ByteArray:=Mt.keyOf secret Mt.lD
def aT (secret:ByteArray):ByteArray:=Mt.keyOf secret Mt.nW
theorem lT (s u:ByteArray):(Mt.keyOf s u).size=32:=by
 unfold Mt.keyOf;rw[strOfNums_size]
 rfl
end Vl
end Go.Proofs.YtmhcfaaggkidjaaGreatDoor
end
section
namespace Go.Proofs.YtmhcfaaggkidjaaGreatDoor
set_option maxRecDepth 100000
namespace Vl
open Go.RowKit
open Tw (Tb af bE bO)
def TY (s k:ByteArray) (u:Int):Prop:=∀W,Sm.jW W→Calls Tryz.prog 167 #[.string s,.int .u8 u] W fun e w'=>e=.returned (.tuple #[.string k,.nilIface])∧Since W w'
theorem a2M (s:ByteArray) (h:s.size=16):TY s (bz s) 98:=fun W hW=>Mt.JI s 98 Mt.lD W h (Or.inl ⟨rfl,rfl⟩) hW
theorem a2N (s:ByteArray) (h:s.size=16):TY s (aT s) 116:=fun W hW=>Mt.JI s 116 Mt.nW W h (Or.inr ⟨rfl,rfl⟩) hW
set_option maxHeartbeats 4000000 in
theorem Lx (s:ByteArray) (w:World) (h:s.size=16) (hT:Sm.jW w) :
  Calls Tryz.prog 114 #[.string s] w fun e w'=>∃w1,e=.returned (.tuple #[.pointer (some ⟨w1.heap.size,0,none⟩),.nilIface])∧Since w w1∧w'=w1.alloc (.cells ((Tryz.zeroCells166.setIfInBounds 2 (.string (bz s))).setIfInBounds 3 (.string (aT s))) 166):=by
 have HKB:Hid (TY s (bz s) 98):=a2M s h;have HKT:Hid (TY s (aT s) 116):=a2N s h;have HT:Hid (Sm.jW w):=hT;clear h hT;generalize bz s=kb at *;generalize aT s=kt at *;go_enter Tryz.func114,Tryz.ntmps114
 go_wp2_with fail
 refine(HKB.out _ HT.out).mono ?_;rintro e w1 ⟨rfl,h1⟩;have bY:Hid (Since w w1):=h1;clear h1;go_wp2_with fail
 refine(HKT.out _ (HT.out.since bY.out)).mono ?_;rintro e w2 ⟨rfl,h2⟩;have HS2:Hid (Since w w2):=bY.out.trans h2;clear h2;go_wp2_with fail
 go_ret2;exact⟨w2,rfl,HS2.out,rfl⟩
structure DC (w0 w:World) (db cb:Nat) (D:Dv) (c:Int) (v:Value):Prop where
 dev:Dev w db D v
 sQ:ak w cb 1 (fun _=>.int .i64 c)
 ne:db≠cb
 own:v.ownBlock≠some cb
 since:Since w0 w
 lo:w0.heap.size≤db∧w0.heap.size≤cb∧∀k,v.ownBlock=some k→w0.heap.size≤k
theorem DC.go {w0 w w':World} {db cb:Nat} {D:Dv} {c:Int} {v:Value} (h:DC w0 w db cb D c v) (hs:Since w w'):DC w0 w' db cb D c v:=⟨h.dev.since hs,h.sQ.since hs,h.ne,h.own,h.since.trans hs,h.lo⟩
theorem bg.dc {w0 w:World} {vb db cb:Nat} {kb kt:ByteArray} {S:Vs} {v:Value} (h:bg w0 w vb db cb kb kt S v):DC w0 w db cb S.D S.c v:=⟨h.dev,h.sQ,h.ne.2.2,h.own.2,h.since,h.lo.2⟩
theorem DY (j:Nat) (hj:j<102):Tryz.zeroCells166[j]?=some (if j=0∨j=1 then .pointer none else bV 0 0 ⟨#[]⟩ ⟨#[]⟩ Tb.zero (fun _=>⟨#[]⟩) false j):=by
 have hr:Tryz.zeroCells166.toList=aa 102 (fun j=>if j=0∨j=1 then .pointer none else bV 0 0 ⟨#[]⟩ ⟨#[]⟩ Tb.zero (fun _=>⟨#[]⟩) false j):=by kernel_rfl
 rw[←Array.getElem?_toList,hr];exact aU _ _ _ hj
theorem XF (w:World) (kb kt:ByteArray) (db cb:Nat) (b:Nat) (hb:b=w.heap.size) :
  ak (((w.alloc (.cells ((Tryz.zeroCells166.setIfInBounds 2 (.string kb)).setIfInBounds 3 (.string kt)) 166)).setCell ⟨b,0,none⟩ (.pointer (some ⟨db,0,none⟩))).setCell ⟨b,1,none⟩ (.pointer (some ⟨cb,0,none⟩))) b 102 (bV db cb kb kt Tb.zero (fun _=>⟨#[]⟩) false):=by
 have h0:ak (w.alloc (.cells ((Tryz.zeroCells166.setIfInBounds 2 (.string kb)).setIfInBounds 3 (.string kt)) 166)) b 102 (fun j=>if j=3 then .string kt else if j=2 then .string kb else if j=0∨j=1 then .pointer none else bV 0 0 ⟨#[]⟩ ⟨#[]⟩ Tb.zero (fun _=>⟨#[]⟩) false j):=by
  refine ak.new w _ _ _ _ (fun j hj=>?_) _ hb;have hz:=Tryz.zeroCells166_size;by_cases h3:j=3
  ·subst h3;rw[if_pos rfl,Array.getElem?_setIfInBounds_self_of_lt (by rw[Array.size_setIfInBounds,hz];omega)]
  rw[if_neg h3,Array.getElem?_setIfInBounds_ne (fun e=>h3 e.symm)];by_cases h2:j=2
  ·subst h2;rw[if_pos rfl,Array.getElem?_setIfInBounds_self_of_lt (by rw[hz];omega)]
  rw[if_neg h2,Array.getElem?_setIfInBounds_ne (fun e=>h2 e.symm)];exact DY j hj
 refine((h0.set 0 (by omega) _).set 1 (by omega) _).congr (fun j hj=>?_);unfold aZ;by_cases h1:j=1
 ·subst h1;rfl
 rw[if_neg h1];by_cases h00:j=0
 ·subst h00;rfl
 rw[if_neg h00];by_cases h3:j=3
 ·subst h3;rfl
 by_cases h2:j=2
 ·subst h2;rfl
 simp only[if_neg h3,if_neg h2,h00,h1,or_self,if_false];unfold bV;simp only[if_neg h00,if_neg h1,if_neg h2,if_neg h3]
def BH (w0 w w':World) (db cb:Nat) (s:ByteArray) (D:Dv) (c:Int) (v:Value) (e:Ending):Prop:=
 ∃vb r S' v',eB (bz s) (aT s) (fresh D c) r S'∧((r=0∧e=.returned (.tuple #[.pointer (some ⟨vb,0,none⟩),.nilIface]))∨(r≠0∧e=.returned (.tuple #[.pointer none,ev r])))∧w.heap.size≤vb∧bg w0 w' vb db cb (bz s) (aT s) S' v'∧
  Fs (fun k=>k=db∨k=cb∨v.ownBlock=some k) w w'∧Nx w v.ownBlock v'.ownBlock
set_option maxHeartbeats 4000000 in
theorem a0l {w0 w:World} {db cb:Nat} {D:Dv} {c:Int} {v:Value} (s:ByteArray) (hs:s.size=16) (hT:Sm.jW w0) (hc:0≤c∧c<1000000000) (h:DC w0 w db cb D c v) :
  Calls Tryz.prog 62 #[.pointer (some ⟨db,0,none⟩),.pointer (some ⟨cb,0,none⟩),.string s] w fun e w'=>BH w0 w w' db cb s D c v e:=by
 have HB:Hid (Base w0 (bz s) (aT s)):=⟨hT,lT _ _,lT _ _⟩
 have H:Hid (DC w0 w db cb D c v):=h;have HC:Hid (0≤c∧c<1000000000):=hc;have HK:Hid (∀W,Sm.jW W→Calls Tryz.prog 114 #[.string s] W fun e w'=>∃w1,e=.returned (.tuple #[.pointer (some ⟨w1.heap.size,0,none⟩),.nilIface])∧Since W w1∧w'=w1.alloc (.cells ((Tryz.zeroCells166.setIfInBounds 2 (.string (bz s))).setIfInBounds 3 (.string (aT s))) 166)):=fun W hW=>Lx s W hs hW
 unfold BH;generalize bz s=kb at *;generalize aT s=kt at *;clear h hc hs hT;go_enter Tryz.func62,Tryz.ntmps62
 go_wp2_with fail
 refine(HK.out _ (HB.out.tab.since H.out.since)).mono ?_;rintro e w2 ⟨w1,rfl,h1,h2⟩;have H1:Hid (DC w0 w1 db cb D c v):=H.out.go h1;have bY:Hid (Since w w1):=h1;have HN:=XF w1 kb kt db cb w1.heap.size rfl;rw[←h2] at HN;have hA:ak w2 w1.heap.size 102 (fun j=>((Tryz.zeroCells166.setIfInBounds 2 (.string kb)).setIfInBounds 3 (.string kt))[j]?.getD undef):=by
  rw[h2];refine ak.new w1 _ _ _ _ (fun j hj=>?_) _ rfl;rw[Array.getElem?_eq_getElem (by rw[Array.size_setIfInBounds,Array.size_setIfInBounds,Tryz.zeroCells166_size];exact hj)]
  rfl
 have a0:=hA.cell 0 (by omega);have a1:=hA.cell 1 (by omega);have f0:=hA.frozen 0 (by omega);have f1:=hA.frozen 1 (by omega);have a2O:Hid (Ty w2 w1.heap.size 166):=by
  show Ty w2 w1.heap.size 166
  rw[h2];exact Ty.new _ _ _
 have HS2:Hid (Since w1 w2):=by
  show Since w1 w2
  rw[h2];exact(Since.refl w1).alloc _
 clear hA h1 h2 HK;have HNV:Hid (ak ((w2.setCell ⟨w1.heap.size,0,none⟩ (.pointer (some ⟨db,0,none⟩))).setCell ⟨w1.heap.size,1,none⟩ (.pointer (some ⟨cb,0,none⟩))) w1.heap.size 102 (bV db cb kb kt Tb.zero (fun _=>⟨#[]⟩) false)):=HN;clear HN;generalize (((Tryz.zeroCells166.setIfInBounds 2 (.string kb)).setIfInBounds 3 (.string kt))[0]?.getD undef)=x0 at *;generalize (((Tryz.zeroCells166.setIfInBounds 2 (.string kb)).setIfInBounds 3 (.string kt))[1]?.getD undef)=x1 at *;have b1:(w2.setCell ⟨w1.heap.size,0,none⟩ (.pointer (some ⟨db,0,none⟩))).cell? ⟨w1.heap.size,1,none⟩=some x1:=by
  rw[World.cell?_setCell_other _ _ _ _ (by intro hc;injection hc with _ h2;omega)];exact a1
 have HVL:Hid (bg w0 ((w2.setCell ⟨w1.heap.size,0,none⟩ (.pointer (some ⟨db,0,none⟩))).setCell ⟨w1.heap.size,1,none⟩ (.pointer (some ⟨cb,0,none⟩))) w1.heap.size db cb kb kt (fresh D c) v∧Since w1 ((w2.setCell ⟨w1.heap.size,0,none⟩ (.pointer (some ⟨db,0,none⟩))).setCell ⟨w1.heap.size,1,none⟩ (.pointer (some ⟨cb,0,none⟩)))):=by
  have hS:Since w1 ((w2.setCell ⟨w1.heap.size,0,none⟩ (.pointer (some ⟨db,0,none⟩))).setCell ⟨w1.heap.size,1,none⟩ (.pointer (some ⟨cb,0,none⟩))):=(HS2.out.setCell (Nat.le_refl _) _).setCell (Nat.le_refl _) _;have hd:=H1.out.go hS;have l1:=H1.out.dev.lt;have l2:=H1.out.sQ.lt (by omega);refine⟨⟨HNV.out,hd.dev,hd.sQ,⟨by omega,by omega,hd.ne⟩,⟨fun e=>?_,hd.own⟩,(a2O.out.setCell _ _).setCell _ _,hd.since,Nat.le_trans H1.out.since.size (Nat.le_refl _),hd.lo⟩,hS⟩;have:=H1.out.dev.glt _ e;omega
 clear HNV a1;go_wp2_with fail
 generalize ((w2.setCell ⟨w1.heap.size,0,none⟩ (.pointer (some ⟨db,0,none⟩))).setCell ⟨w1.heap.size,1,none⟩ (.pointer (some ⟨cb,0,none⟩)))=w3 at *;refine(GX HB.out (S:=fresh D c) HC.out HVL.out.1).mono ?_;rintro e w4 ⟨r,S',rfl,hop,h4⟩;have Wt:Hid (eB kb kt (fresh D c) r S'):=hop;have HF:Hid (∃v',bg w0 w4 w1.heap.size db cb kb kt S' v'∧Fs (fun k=>k=db∨k=cb∨v.ownBlock=some k) w w4∧Nx w v.ownBlock v'.ownBlock):=by
  obtain⟨v',hv,F,n⟩:=h4;have fu:Since w w3:=bY.out.trans HVL.out.2;refine⟨v',hv,⟨F.os.trans fu.os,F.tape.trans fu.tape,F.output.trans fu.output,Nat.le_trans fu.size F.size,fun k hk hs=>?_⟩,fun k hk=>?_⟩
  ·rw[F.block k (Nat.lt_of_lt_of_le hk fu.size) ?_]
   ·exact fu.block k hk
   rintro (e | e | e | e)
   ·have:=bY.out.size;omega
   ·exact hs (Or.inl e)
   ·exact hs (Or.inr (Or.inl e))
   exact hs (Or.inr (Or.inr e))
  rcases n k hk with h5 | h5
  ·exact Or.inl h5
  exact Or.inr (Nat.le_trans fu.size h5)
 have HLE:Hid (w.heap.size≤w1.heap.size):=bY.out.size;clear hop h4;by_cases h0:r=0
 ·subst h0;rw[vH];go_wp2_with fail
  go_ret2;obtain⟨v',hv,F,n⟩:=HF.out;exact⟨_,0,S',v',Wt.out,Or.inl ⟨rfl,rfl⟩,HLE.out,hv,F,n⟩
 rw[oQ _ h0];have HE:Hid (ev r=.iface 32 (.int .i64 r)∧r≠0):=⟨oQ _ h0,h0⟩
 clear h0;go_wp2_with fail
 go_ret2;obtain⟨v',hv,F,n⟩:=HF.out;exact⟨_,r,S',v',Wt.out,Or.inr ⟨HE.out.2,by rw[HE.out.1];rfl⟩,HLE.out,hv,F,n⟩
end Vl
end Go.Proofs.YtmhcfaaggkidjaaGreatDoor
end
section
namespace Go.Proofs.YtmhcfaaggkidjaaGreatDoor
set_option maxRecDepth 100000
namespace Vl
open Go.RowKit
open Tw (Tb gJ may Same Rt)
def rO (kb kt:ByteArray) (D:Dv) (c:Int) (T:Tb) (X:Nat→ByteArray):Prop:=
 ((c=0∧(∀i,i<24→X i=⟨#[]⟩))∨(c≠0∧Rt T∧T.count=c∧Slot kt (D.slot (c % 2).toNat) T∧JD kb D D.sure T X∧∀i,(X i).size≤80))∧(∀k,k<2→(Tw.rd (txt 500 (D.slot k))).count≤c)
theorem GY {kb kt:ByteArray} {S:Vs} {n:Int} (h:Good kb kt S n) (hn:n<1000000000):rO kb kt (S.flush kt).2.D (S.flush kt).2.c (S.flush kt).2.T (S.flush kt).2.X∧(S.flush kt).2.D.ws=[]:=by
 obtain⟨hg,hs,hr⟩:=qg h (by omega);obtain⟨_,_,hcnt,hc,_,_⟩:=iC h.on kt;have hD:(S.flush kt).2.D=((S.D.synced).wrote (S.next.count % 2).toNat (Tw.text kt S.next)).synced:=by rw[rE h.on kt]
 have hws:(S.flush kt).2.D.ws=[]:=by rw[hD];rfl
 have hsu:∀z,z<8→(S.flush kt).2.D.sure z=(S.flush kt).2.D.cnt z:=fun z hz=>by
  rw[hD];exact(rG _).2.2.2.2 z hz
 have h0:=h.ok.c0;have h1:=h.ok.cnt;generalize S.flush kt=F at *;have hlow:=hg.low;have hsl:∀k,F.2.D.aJ k (fun _=>true)=F.2.D.slot k:=fun k=>qd _ hws k _
 rw[hsl] at hs;refine⟨⟨Or.inr ⟨by omega,hr,hg.ok.cnt,hs,fun i hi=>?_,hg.ok.txt⟩,fun k hk=>?_⟩,hws⟩
 ·rcases hg.lie i hi with h2 | ⟨h2,h3,h4⟩
  ·exact Or.inl h2
  refine Or.inr ⟨h2,?_,h4⟩;rw[hsu _ (by have:=h2.2.1;have:=h2.2.2.1;omega)];exact h3
 have:=hlow k hk
 rwa [hsl] at this
theorem Pt {kb kt:ByteArray} {D:Dv} {c:Int} {T:Tb} {X:Nat→ByteArray} (h:rO kb kt D c T X) (hs:∀z,z<8→D.sure z≤D.cnt z) (z:Nat) (hz:z<8) (s:ByteArray):rO kb kt (D.app z s) c T X:=by
 refine⟨?_,h.2⟩;rcases h.1 with h1 | ⟨h0,hr,hc,hsl,hl,hx⟩
 ·exact Or.inl h1
 refine Or.inr ⟨h0,hr,hc,hsl,fun i hi=>?_,hx⟩;rcases hl i hi with h2 | ⟨h2,h3,h4,h5⟩
 ·exact Or.inl h2
 refine Or.inr ⟨h2,h3,h4,fun j hj=>?_⟩;show (if (T.aB i).toNat=z∧(T.off i).toNat=D.cnt z then _ else D.blk _ _ _)=_
 rw[if_neg (fun q=>by
  have:=h2.2.2.2.1;have:=hs z hz;rw[q.1] at h3;omega)]
 exact h5 j hj
theorem GZ {kb kt:ByteArray} {D:Dv} {c:Int} {T:Tb} {X:Nat→ByteArray} (h:rO kb kt D c T X) (hw:D.ws=[]) (nk:Nat) (ks:Nat→Int) (ns:Nat) (sl:Nat→Bool):Told kb kt (D.bG nk ks ns sl) c T X∧low (D.bG nk ks ns sl) c:=by
 have Wu:=BC D nk ks ns sl hw;have hsk:∀k,k<2→(D.bG nk ks ns sl).aJ k (fun _=>true)=D.slot k:=fun k hk=>by
  rw[qd _ (pq D nk ks ns sl).2];have:k=0∨k=1:=by omega
  rcases this with rfl | rfl
  ·exact Wu.1
  exact Wu.2
 refine⟨?_,fun k hk=>by rw[hsk k hk];exact h.2 k hk⟩;rcases h.1 with h1 | ⟨h0,hr,hc,hsl,hl,hx⟩
 ·exact Or.inl h1
 refine Or.inr ⟨h0,hr,hc,by rw[hsk _ (by omega)];exact hsl,fun i hi=>?_,hx⟩;rcases hl i hi with h2 | ⟨h2,h3,h4,h5⟩
 ·exact Or.inl h2
 have wJ:(T.aB i).toNat<8:=by have:=h2.2.1;have:=h2.2.2.1;omega
 have hge:=Pp (D.cnt (T.aB i).toNat) (D.sure (T.aB i).toNat) (fV nk ks (T.aB i).toNat);have ho:=h2.2.2.2.1;refine Or.inr ⟨h2,?_,h4,fun j hj=>?_⟩
 ·rw[uJ _ _ _ _ _ _ wJ];omega
 rw[DX _ _ _ _ _ _ _ (by omega)];exact h5 j hj
theorem Ha {kb kt:ByteArray} {S:Vs} {n:Int} (h:Good kb kt S n) (ht:tot S.D<108) (hs:∀z,z<8→S.D.sure z≤S.D.cnt z) (i:Nat) (hi:i<24) (t:ByteArray) (h80:t.size≤80) {c:Int} {T:Tb} {X:Nat→ByteArray} (hsu:rO kb kt S.D c T X) (hw:S.D.ws=[]) :
  rO kb kt (S.write kb kt i t).2.D c T X∧(S.write kb kt i t).2.D.ws=[]∧(S.write kb kt i t).2.c=S.c:=by
 have he:S.write kb kt i t=if t=S.X i then (0,S) else if t=⟨#[]⟩ then (0,S.set i 0 0 ⟨#[]⟩ ⟨#[]⟩) else if S.free≤20 then (if (S.ae kb kt).1.2.2≠0 then ((S.ae kb kt).1.2.2,(S.ae kb kt).2) else (S.ae kb kt).2.put kb i (-1) t) else S.put kb i (-1) t:=by
  unfold Vs.write;rw[if_neg (by rw[h.on.dead];decide),if_neg (by omega),if_neg (by omega),Int.toNat_natCast]
 rw[he];by_cases h1:t=S.X i
 ·rw[if_pos h1];exact⟨hsu,hw,rfl⟩
 rw[if_neg h1];by_cases h2:t=⟨#[]⟩
 ·rw[if_pos h2];exact⟨hsu,hw,rfl⟩
 rw[if_neg h2,a0s h.on.c16,if_neg (by omega)];obtain⟨z,_,wJ,KV,_,hp⟩:=tK h.on (by omega) kb i (-1) (Or.inl (by omega)) t;rw[hp];exact⟨Pt hsu hs z wJ _,hw,rfl⟩
section
variable {w0 w w':World} {vb db cb:Nat} {S S':Vs} {v v':Value} {D D':Dv} {c:Int}
theorem DC.turn (h:DC w0 w db cb D c v) (hd:Dev w' db D' v') (hf:Fr db none w w') (hv:v'.ownBlock=none):DC w0 w' db cb D' c v':=
 ⟨hd,h.sQ.fr hf (fun e=>h.ne e.symm) (by simp),h.ne,by rw[hv];simp,hf.since h.since h.lo.1 (fun k e=>by cases e),h.lo.1,h.lo.2.1,fun k hk=>by rw[hv] at hk;cases hk⟩
theorem Jq {s:ByteArray} {T:Tb} {X:Nat→ByteArray} (hs:s.size=16) (hT:Sm.jW w0) (hc:0≤c∧c<1000000000) (h:DC w0 w db cb D c v) (ht:Told (bz s) (aT s) D c T X) (hl:low D c) :
  Calls Tryz.prog 62 #[.pointer (some ⟨db,0,none⟩),.pointer (some ⟨cb,0,none⟩),.string s] w fun e w'=>∃vb S' v',e=.returned (.tuple #[.pointer (some ⟨vb,0,none⟩),.nilIface])∧w.heap.size≤vb∧bg w0 w' vb db cb (bz s) (aT s) S' v'∧(S'.D=D∧S'.c=c∧S'.dead=false∧S'.T.count=c∧(c=0→S'=fresh D c)∧(∀i,i<24→S'.X i=X i)∧(c≠0→Same S'.T T∧whole (bz s) (aT s) D c∧S'=opened (bz s) D c c))∧Fs (fun k=>k=db∨k=cb∨v.ownBlock=some k) w w'∧Nx w v.ownBlock v'.ownBlock:=by
 refine(a0l s hs hT hc h).mono ?_;rintro e w' ⟨vb,r,S',v',hto,he,hvb,tY,hf,hn⟩;have ho:Br (bz s) (aT s) D c r S':=hto;obtain⟨hr,h1,h2,h3,h4,h5,h6⟩:=tL ht hl ho;subst hr;rcases he with⟨_,rfl⟩ | ⟨h0,_⟩
 ·refine⟨vb,S',v',rfl,hvb,tY,⟨h1,h2,h3,?_,h4,h6,h5⟩,hf,hn⟩;by_cases hc0:c=0
  ·rw[h4 hc0,hc0];rfl
  rw[(h5 hc0).1.1];rcases ht with⟨h7,_⟩ | ⟨_,_,h8,_⟩
  ·exact absurd h7 hc0
  exact h8
 exact absurd rfl h0
end
end Vl
end Go.Proofs.YtmhcfaaggkidjaaGreatDoor
end
section
namespace Go.Proofs.YtmhcfaaggkidjaaGreatDoor
set_option maxRecDepth 100000
namespace Vl
open Go.RowKit
section
variable {w0 w w':World} {vb db cb:Nat} {kb kt:ByteArray} {S S':Vs} {v:Value}
end
end Vl
end Go.Proofs.YtmhcfaaggkidjaaGreatDoor
end
section
namespace Go.Proofs.YtmhcfaaggkidjaaGreatDoor
set_option maxRecDepth 100000
namespace Vl
open Go.RowKit
open Tw (Tb gJ may Same Rt)
def ay:ByteArray:=⟨#[48,49,50,51,52,53,54,55,56,57,97,98,99,100,101,102]⟩
section
variable {w0 w w':World} {vb db cb:Nat} {kb kt:ByteArray} {S S':Vs} {v v':Value} {D D':Dv} {c n:Int} {k:Nat}
theorem XG (w:World):DC w ((w.alloc (.cells Tryz.zeroCells104 104)).alloc (.cells #[.int .i64 0] 55)) w.heap.size (w.heap.size+1) mr 0 (.slice none 0 0):=by
 have hz:(w.alloc (.cells Tryz.zeroCells104 104)).heap.size=w.heap.size+1:=by simp
 refine⟨(SY w).since ((Since.refl _).alloc _),?_,by omega,by simp[Value.ownBlock],((Since.refl w).alloc _).alloc _,Nat.le_refl _,by omega,fun k hk=>by simp[Value.ownBlock] at hk⟩;exact ak.new _ 1 _ _ _ (fun j hj=>by
  obtain rfl:j=0:=by omega
  rfl) _ hz.symm
end
theorem a0V (w:World) (b:Nat) (f:Nat→Value):Go.Proofs.YtmhcfaaggkidjaaGreatDoor.Sl w b (.slice none 0 0) 0 f:=⟨none,0,rfl,fun h=>by omega⟩
theorem a0t (kb kt:ByteArray):rO kb kt mr 0 Tb.zero (fun _=>⟨#[]⟩):=
 ⟨Or.inl ⟨rfl,fun _ _=>rfl⟩,fun k hk=>by
  have e:mr.slot k=fun _=>0:=rfl
  rw[e,JE];omega⟩
end Vl
end Go.Proofs.YtmhcfaaggkidjaaGreatDoor
end
section
namespace Go.Proofs.YtmhcfaaggkidjaaGreatDoor
set_option maxRecDepth 100000
namespace Vl
open Go.RowKit
open Tw (Tb gJ may Same Rt)
end Vl
end Go.Proofs.YtmhcfaaggkidjaaGreatDoor
end
section
namespace Go.Proofs.YtmhcfaaggkidjaaGreatDoor
set_option maxRecDepth 100000
namespace Vl
open Go.RowKit
open Tw (Tb gJ may Same Rt)
end Vl
end Go.Proofs.YtmhcfaaggkidjaaGreatDoor
end
section
namespace Go.Proofs.YtmhcfaaggkidjaaGreatDoor
set_option maxRecDepth 100000
namespace Vl
open Go.RowKit
open Tw (Tb gJ may Same Rt)
end Vl
end Go.Proofs.YtmhcfaaggkidjaaGreatDoor
end
