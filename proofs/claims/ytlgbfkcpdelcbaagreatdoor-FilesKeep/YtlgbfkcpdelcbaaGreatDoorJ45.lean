import Derived.Test.YtlgbfkcpdelcbaaGreatDoorJ44
set_option linter.unusedSimpArgs false
set_option linter.unusedVariables false
set_option maxHeartbeats 8000000
set_option maxRecDepth 100000
namespace Go.Proofs.YtlgbfkcpdelcbaaGreatDoor
section
namespace Vl
open Go.RowKit
open Tw (Tb ae aY aU)
theorem Kh (hsum:Sm.nM)(Rb:Nat)(kt s:ByteArray)(w:World)(hk:kt.size=32)(hs:s.size=500)(hh:Sm.aN w Rb 0 8 Sm.H0.fn)(hkn:Sm.aN w Rb 8 64 Sm.kn) :
  Calls Tryz.prog 147 #[.pointer (some ⟨Rb,0,none⟩),.string kt,.string s] w fun e w'=>(∃U er,e=.returned (.tuple #[.agg (ak 73 (ae U)).toArray,.int .i64 er])∧((kV kt s∧U=Tw.rd s∧er=0)∨(¬kV kt s∧U=Tb.zero∧er=15)))∧Since w w':=by
 by_cases hr:Tw.uG (Tw.rd s)=true
 ·have hR:=(Tw.mF _).1 hr;have hz:(Tw.text kt (Tw.rd s)).size=456:=Tw.gG hR.2;have hiff:=Tw.NA s (Tw.text kt (Tw.rd s)) hz (by omega);by_cases he:s=Tw.text kt (Tw.rd s)++txt (s.size-456) (fun _=>0)
  ·refine(Tw.oz Rb kt s w hk (by omega) (by omega) hh hkn (Tw.text kt (Tw.rd s)) 0 _ (by omega) (fun W h1 h2=>Tw.tY hsum Rb kt (Tw.rd s) W hk hR h1 h2) (Or.inr (Or.inr ⟨rfl,he,rfl⟩))).mono ?_;rintro e w' ⟨rfl,h⟩;exact⟨⟨_,_,rfl,Or.inl ⟨⟨(hiff.1 he).2,hr,(hiff.1 he).1.symm⟩,rfl,rfl⟩⟩,h⟩
  refine(Tw.oz Rb kt s w hk (by omega) (by omega) hh hkn (Tw.text kt (Tw.rd s)) 0 _ (by omega) (fun W h1 h2=>Tw.tY hsum Rb kt (Tw.rd s) W hk hR h1 h2) (Or.inr (Or.inl ⟨rfl,he,rfl⟩))).mono ?_;rintro e w' ⟨rfl,h⟩;exact⟨⟨_,_,rfl,Or.inr ⟨fun q=>he (hiff.2 ⟨q.2.2.symm,q.1⟩),rfl,rfl⟩⟩,h⟩
 have hr2:Tw.uG (Tw.rd s)=false:=by simpa using hr
 refine(Tw.oz Rb kt s w hk (by omega) (by omega) hh hkn ⟨#[]⟩ 1 _ (by decide) (fun W h1 h2=>Tw.IR Rb kt (Tw.rd s) W hk hr2) (Or.inl ⟨rfl,rfl⟩)).mono ?_;rintro e w' ⟨rfl,h⟩;exact⟨⟨_,_,rfl,Or.inr ⟨fun q=>hr q.2.1,rfl,rfl⟩⟩,h⟩
section
variable {q:Bool} {w0 w:World} {N rv Rb rd rc:Nat} {s kb kt:ByteArray} {S:Vs}
theorem Ki (z o:Int)(hok:S.D.ok)(h:bg w0 w N rv Rb rd rc s S) :
  Calls Tryz.prog 148 #[.pointer (some ⟨rd,0,none⟩),.int .i64 z,.int .i64 o] w fun e w'=>e=.returned (.tuple #[.string (MM S.D z o).1,.int .i64 (MM S.D z o).2])∧w'=w:=by
 obtain⟨lv,av,wv,hr⟩:=h.sV;unfold MM;by_cases hz:0≤z∧z<8
 ·rw[if_neg (fun q=>q hz)];obtain⟨k,rfl⟩:=Int.eq_ofNat_of_zero_le hz.1;rw[Int.toNat_natCast];have h16:=hok.cnt k (by omega);by_cases ho:0≤o∧o<S.D.cnt k
  ·rw[if_neg (fun q=>q ho)];obtain⟨j,rfl⟩:=Int.eq_ofNat_of_zero_le ho.1;exact PN S.D lv av wv rd N k j w hr (by omega) (by omega) h16
  rw[if_pos ho];exact JU S.D lv av wv rd N k o w hr (by omega) ho h16
 rw[if_pos hz];exact PM rd z o w hz
theorem Qd (B:ja Rb s kb kt)(n:Int)(hn:0≤n)(hok:S.D.ok)(h:bg w0 w N rv Rb rd rc s S) :
  Calls Tryz.prog 86 #[.pointer (some ⟨rv,0,none⟩),.int .i64 n] w fun e w'=>(whole kb kt S.D n∧e=.returned (.bool true)∧iZ q w0 w w' N rv Rb rd rc s { S with T:=dz S.D n,X:=aM kb S.D (dz S.D n) 24 })∨(¬whole kb kt S.D n∧e=.returned (.bool false)∧Since w w'):=by
 have HB:=hid B;have H:=hid h;have cO:=hid hok;have hn1:0≤n:=hn;obtain⟨kk,hkk,hk2⟩:∃k:Nat,n % 2=k∧k<2:=⟨(n % 2).toNat,by omega,by omega⟩
 have HKK:=hid (an hkk hk2);have HST:Hid (aX S.D n=txt 500 (S.D.aL kk (fun _=>true))):=by
  show aX S.D n=_
  unfold aX;rw[hkk,Int.toNat_natCast]
 have ht2:n.tmod 2=(kk:Int):=by rw[SL _ (by omega)];exact hkk
 have hw64:wrap64 (kk:Int)=(kk:Int):=by unfold wrap64;omega
 clear hkk hk2 h B hn hok;have q1:=H.o.c1;go_enter Tryz.func86,Tryz.ntmps86
 go_wp2_with fail
 obtain⟨lv,av,wv,hr⟩:=H.o.sV;refine(yO S.D lv av wv rd N kk _ hr HKK.o.2 (by have:=cO.o.few;omega)).mono ?_;clear hr;rintro e wx ⟨rfl,hw⟩;rw[hw];clear hw wx;rw[←HST.o];clear ht2 hw64 q1;have Em:Hid (whole kb kt S.D n↔(kV kt (aX S.D n)∧(dz S.D n).count=n)∧∀i,i<24→there kb S.D (dz S.D n) i):=by
  show whole kb kt S.D n↔_
  unfold whole Eb kV dz;constructor
  ·rintro ⟨⟨a,b,c,d⟩,e⟩;exact⟨⟨⟨a,b,c⟩,d⟩,e⟩
  rintro ⟨⟨⟨a,b,c⟩,d⟩,e⟩;exact⟨⟨a,b,c,d⟩,e⟩
 have HZ:Hid ((aX S.D n).size=500):=Ag _ _;have kQ:Hid (∀W,Since w.drew W→(fun W:World=>W.cell? ⟨rv,0,none⟩=some (.pointer (some ⟨Rb,0,none⟩))) W):=fun W hW=>(H.o.go ((Since.refl w).drew.trans hW)).c0
 have HKY:Hid (∀W,Since w.drew W→Calls Tryz.prog 62 #[.pointer (some ⟨rv,0,none⟩),.int .u8 116] W fun e w'=>e=.returned (.string kt)∧Since W w'):=fun W hW=>vZ kt 116 HB.o.a5m (H.o.go ((Since.refl w).drew.trans hW))
 have MO:Hid (∀W,Since w.drew W→Calls Tryz.prog 147 #[.pointer (some ⟨Rb,0,none⟩),.string kt,.string (aX S.D n)] W fun e w'=>(∃U er,e=.returned (.tuple #[.agg (ak 73 (ae U)).toArray,.int .i64 er])∧((kV kt (aX S.D n)∧U=dz S.D n∧er=0)∨(¬kV kt (aX S.D n)∧U=Tb.zero∧er=15)))∧Since W w'):=fun W hW=>Kh HB.o.sum Rb kt (aX S.D n) W HB.o.kt HZ.o (H.o.go ((Since.refl w).drew.trans hW)).hh.1 (H.o.go ((Since.refl w).drew.trans hW)).hh.2
 generalize aX S.D n=sl at *;generalize hTT:dz S.D n=T at *;have YI:=hid hTT;clear hTT;go_upto_region 2 with fail
 go_cut [7,8] (fun t7 t8 wx=>∃(bt:Nat) (U:Tb) (er:Int),t7=.pointer (some ⟨bt,0,none⟩)∧t8=.int .i64 er∧((kV kt sl∧U=T∧er=0)∨(¬kV kt sl∧U=Tb.zero∧er=15))∧aA wx bt 73 (ae U)∧Ty wx bt 72∧w.heap.size≤bt∧Since w wx)
 case first=>
  have hS1:(fun W:World=>W.cell? ⟨rv,0,none⟩=some (.pointer (some ⟨Rb,0,none⟩))) w.drew:=kQ.o _ (Since.refl _);refine wp_region_held (S:=fun W:World=>W.cell? ⟨rv,0,none⟩=some (.pointer (some ⟨Rb,0,none⟩))) (by kernel_rfl) ?_;refine Tw.tk 0 27 hS1 ?_;refine Tw.tk 1 28 hS1 ?_;refine Tw.tk 2 29 hS1 ?_;refine Tw.tk 3 30 hS1 ?_;refine Tw.tk 4 31 hS1 ?_;refine Tw.tk 6 33 hS1 ?_;refine wpAnyH_ready (rs:=[5,11]) (by kernel_rfl) (by simp) (AllReadyH.cons rfl (fun K hK=>?_) (AllReadyH.cons rfl (fun K hK=>?_) AllReadyH.nil))
  ·rw[if_pos (by rfl)];go_simp
   refine(HKY.o _ (Since.refl _)).mono ?_;rintro e a1 ⟨rfl,h_a1⟩;simp only[];have UC:=hid h_a1;clear h_a1;refine hK.out _ _ (kQ.o _ UC.out) (fun _=>?_);clear hK K;refine Tw.nz ?_;refine wpAnyH_ready (rs:=[7,11]) (by kernel_rfl) (by simp) (AllReadyH.cons rfl (fun K hK=>?_) (AllReadyH.cons rfl (fun K hK=>?_) AllReadyH.nil))
   ·rw[if_pos (by rfl)];go_simp
    refine(MO.o _ UC.out).mono ?_;rintro e a2 ⟨⟨U,er,rfl,hU⟩,h_a2⟩;simp only[];have Qe:=hid (UC.out.trans h_a2);have HU:=hid hU;clear h_a2 hU;refine hK.out _ _ (kQ.o _ Qe.out) (fun _=>?_);clear hK K;refine Tw.nz ?_;have hS2:=kQ.o _ Qe.out;refine Tw.tk 8 26 hS2 ?_;refine Tw.tk 9 35 hS2 ?_;refine Tw.tk 10 36 hS2 ?_;refine Tw.ry 11 (fun K hK=>?_);rw[if_pos (by rfl)];go_simp
    refine hK.out _ _ (kQ.o _ (Qe.out.alloc _)) (fun _=>?_);clear hK K;refine Tw.nz ?_;have HY9:Ty (a2.alloc (.cells Tryz.zeroCells72 72)) a2.heap.size 72:=Ty.new _ _ _;have UD:w.heap.size≤a2.heap.size:=Qe.out.size;obtain⟨hst,Ze⟩:=Tw.di (Tw.bA a2 a2.heap.size rfl) U;have XU:=hid Ze;have Kj:Hid (Since w.drew ((a2.alloc (.cells Tryz.zeroCells72 72)).setCells a2.heap.size 0 (ak 73 (ae U)))):=Since.setCells (Qe.out.alloc _) (UD) _ _;have HYU:Hid (Ty ((a2.alloc (.cells Tryz.zeroCells72 72)).setCells a2.heap.size 0 (ak 73 (ae U))) a2.heap.size 72):=Ty.setCells _ _ _ _ HY9;clear Ze;have hL9:=Tw.jc U;generalize UE:ak 73 (ae U)=cs9 at *;clear UE;refine Tw.ry 12 (fun K hK=>?_);rw[if_pos (by rfl)];go_simp
    refine hK.out _ _ (kQ.o _ Kj.o) (fun _=>?_);clear hK K;refine Tw.nz ?_;have Kc:=kQ.o _ Kj.o;refine Tw.tk 13 8 Kc ?_;refine wpAnyH_done (by kernel_rfl) ?_ _;go_wp2_with fail
    go_meet
    case rel=>exact⟨a2.heap.size,U,er,rfl,rfl,HU.o,XU.o,HYU.o,UD,(Since.refl w).drew.trans Kj.o⟩
   rw[if_pos (by rfl)];go_simp
   refine hK.out _ _ (kQ.o _ (UC.out.alloc _)) (fun _=>?_);clear hK K;refine Tw.nz ?_;have HZ1:Hid (aA (a1.alloc (.cells Tryz.zeroCells72 72)) a1.heap.size 73 (ae Tb.zero)):=Tw.bA a1 a1.heap.size rfl;have HY1:Hid (Ty (a1.alloc (.cells Tryz.zeroCells72 72)) a1.heap.size 72):=Ty.new _ _ _;refine Tw.ry 7 (fun K hK=>?_);rw[if_pos (by rfl)];go_simp
   refine(MO.o _ (UC.out.alloc _)).mono ?_;rintro e a2 ⟨⟨U,er,rfl,hU⟩,h_a2⟩;simp only[];have Qe:Hid (Since w.drew a2):=(UC.out.alloc _).trans h_a2;have HU:=hid hU;have HZ2:=hid (HZ1.o.since h_a2);have HY9:Ty a2 a1.heap.size 72:=HY1.o.since h_a2;clear h_a2 hU;refine hK.out _ _ (kQ.o _ Qe.out) (fun _=>?_);clear hK K;refine Tw.nz ?_;have hS2:=kQ.o _ Qe.out;refine Tw.tk 8 26 hS2 ?_;refine Tw.tk 9 35 hS2 ?_;refine Tw.tk 10 36 hS2 ?_;have UD:w.heap.size≤a1.heap.size:=UC.out.size;obtain⟨hst,Ze⟩:=Tw.di (HZ2.o) U;have XU:=hid Ze;have Kj:Hid (Since w.drew ((a2).setCells a1.heap.size 0 (ak 73 (ae U)))):=Since.setCells (Qe.out) (UD) _ _;have HYU:Hid (Ty ((a2).setCells a1.heap.size 0 (ak 73 (ae U))) a1.heap.size 72):=Ty.setCells _ _ _ _ HY9;clear Ze;have hL9:=Tw.jc U;generalize UE:ak 73 (ae U)=cs9 at *;clear UE;refine Tw.ry 12 (fun K hK=>?_)
   rw[if_pos (by rfl)];go_simp
   refine hK.out _ _ (kQ.o _ Kj.o) (fun _=>?_);clear hK K;refine Tw.nz ?_;have Kc:=kQ.o _ Kj.o;refine Tw.tk 13 8 Kc ?_;refine wpAnyH_done (by kernel_rfl) ?_ _;go_wp2_with fail
   go_meet
   case rel=>exact⟨a1.heap.size,U,er,rfl,rfl,HU.o,XU.o,HYU.o,UD,(Since.refl w).drew.trans Kj.o⟩
  rw[if_pos (by rfl)];go_simp
  have SB0:Hid (Since w.drew (w.drew.alloc (.cells Tryz.zeroCells72 72))):=(Since.refl _).alloc _;refine hK.out _ _ (kQ.o _ SB0.out) (fun _=>?_);clear hK K;refine Tw.nz ?_;have HZ1:Hid (aA (w.drew.alloc (.cells Tryz.zeroCells72 72)) w.heap.size 73 (ae Tb.zero)):=Tw.bA w.drew w.heap.size rfl;have HY1:Hid (Ty (w.drew.alloc (.cells Tryz.zeroCells72 72)) w.heap.size 72):=Ty.new w.drew _ _;refine Tw.ry 5 (fun K hK=>?_);rw[if_pos (by rfl)];go_simp
  refine(HKY.o _ SB0.out).mono ?_;rintro e a1 ⟨rfl,h_a1⟩;simp only[];have UC:=hid (SB0.out.trans h_a1);have HZ2:=hid (HZ1.o.since h_a1);have HY2:=hid (HY1.o.since h_a1);clear h_a1;refine hK.out _ _ (kQ.o _ UC.out) (fun _=>?_);clear hK K;refine Tw.nz ?_;refine Tw.ry 7 (fun K hK=>?_);rw[if_pos (by rfl)];go_simp
  refine(MO.o _ UC.out).mono ?_;rintro e a2 ⟨⟨U,er,rfl,hU⟩,h_a2⟩;simp only[];have Qe:=hid (UC.out.trans h_a2);have HU:=hid hU;have HZ3:=hid (HZ2.o.since h_a2);have HY9:Ty a2 w.heap.size 72:=HY2.o.since h_a2;clear h_a2 hU;refine hK.out _ _ (kQ.o _ Qe.out) (fun _=>?_);clear hK K;refine Tw.nz ?_;have hS2:=kQ.o _ Qe.out;refine Tw.tk 8 26 hS2 ?_;refine Tw.tk 9 35 hS2 ?_;refine Tw.tk 10 36 hS2 ?_;have UD:w.heap.size≤w.heap.size:=Nat.le_refl _;obtain⟨hst,Ze⟩:=Tw.di (HZ3.o) U;have XU:=hid Ze;have Kj:Hid (Since w.drew ((a2).setCells w.heap.size 0 (ak 73 (ae U)))):=Since.setCells (Qe.out) (UD) _ _;have HYU:Hid (Ty ((a2).setCells w.heap.size 0 (ak 73 (ae U))) w.heap.size 72):=Ty.setCells _ _ _ _ HY9;clear Ze;have hL9:=Tw.jc U;generalize UE:ak 73 (ae U)=cs9 at *;clear UE;refine Tw.ry 12 (fun K hK=>?_);rw[if_pos (by rfl)];go_simp
  refine hK.out _ _ (kQ.o _ Kj.o) (fun _=>?_);clear hK K;refine Tw.nz ?_;have Kc:=kQ.o _ Kj.o;refine Tw.tk 13 8 Kc ?_;refine wpAnyH_done (by kernel_rfl) ?_ _;go_wp2_with fail
  go_meet
  case rel=>exact⟨w.heap.size,U,er,rfl,rfl,HU.o,XU.o,HYU.o,UD,(Since.refl w).drew.trans Kj.o⟩
 case rest=>
 obtain⟨bt,U,er,rfl,rfl,hU,hCU,hYU,hbt,hsU⟩:=hcut;have Wn:=hid hsU;rcases hU with⟨xJ,rfl,rfl⟩ | ⟨xJ,rfl,rfl⟩
 ·have a0f:=hid xJ;have HCU:=hid hCU;have HYU:=hid hYU;have UD:Hid (w.heap.size≤bt∧bt<wc.heap.size):=⟨hbt,hCU.lt (by omega)⟩
  have c0:wc.cell? ⟨bt,0,none⟩=some (.int .i64 U.count):=hCU.cell 0 (by omega);clear xJ hCU hYU hbt hsU MO HKY kQ;by_cases hc:U.count=n
  ·have HCN:=hid hc;rw[hc] at c0;clear hc;have yZ:(wc.alloc (.cells z24 73)).rangeAt bt 1 (ak 72 (aU U)):=dm (Tw.fJ HCU.o) ((Since.refl _).alloc _);have rU:Hid (aA (wc.alloc (.cells z24 73)) wc.heap.size 24 (aW (aM kb S.D U 0))):=(si _ _ rfl).congr (fun j hj=>by unfold aW aM;rw[if_neg (by omega)]);have jS:Hid (aA (wc.alloc (.cells z24 73)) bt 73 (ae U)):=HCU.o.since ((Since.refl _).alloc _);have cK:Hid (Since w (wc.alloc (.cells z24 73))):=Wn.o.alloc _;have hL:(ak 72 (aU U)).length=72:=ax _ _;have NL:Hid (∀(k:Nat) (hk:k<24) (w:World),(Instr.index 70 (.agg (ak 72 (aU U)).toArray) (.int .i64 (k:Int))).run Tryz.prog w=.ok (.agg #[.int .i64 (U.az k),.int .i64 (U.off k),.string (U.tag k)]) w):=fun k hk w=>Tw.gX U k hk w
   generalize hcs:ak 72 (aU U)=cs at *;clear hcs;have vG:z24=#[.string ⟨#[]⟩,.string ⟨#[]⟩,.string ⟨#[]⟩,.string ⟨#[]⟩,.string ⟨#[]⟩,.string ⟨#[]⟩,.string ⟨#[]⟩,.string ⟨#[]⟩,.string ⟨#[]⟩,.string ⟨#[]⟩,.string ⟨#[]⟩,.string ⟨#[]⟩,.string ⟨#[]⟩,.string ⟨#[]⟩,.string ⟨#[]⟩,.string ⟨#[]⟩,.string ⟨#[]⟩,.string ⟨#[]⟩,.string ⟨#[]⟩,.string ⟨#[]⟩,.string ⟨#[]⟩,.string ⟨#[]⟩,.string ⟨#[]⟩,.string ⟨#[]⟩]:=rfl;rw[vG] at rU yZ jS cK;go_wp2_with (refine wpList_load_mid (by rfl) 70 _ (by rfl) bt 1 (by rfl) _ _ yZ Tryz.underlying70 (by rfl) (by rw[hL];kernel_rfl) ?_)
   rw[←vG] at rU yZ jS cK;rw[←vG];clear yZ hL vG c0;generalize wc.alloc (.cells z24 73)=w1 at *;go_loopw [47,10,11,12,13,14,15] (fun i _ _ _ _ _ _ wr=>∃k:Nat,k≤24∧i=.int .i64 k∧(∀i,i<k→there kb S.D U i)∧aA wr bt 73 (ae U)∧aA wr wc.heap.size 24 (aW (aM kb S.D U k))∧Since w wr) (fun i _ _ _ _ _ _ _=>24-(intOf i).toNat)
   case atStart=>exact⟨0,by omega,rfl,fun i hi=>by omega,jS.o,rU.o,cK.o⟩
   clear rU jS cK;obtain⟨k,hk,rfl,hth,hr1,hx1,hs1⟩:=hrel;have HTH:=hid hth;have HR:=hid hr1;have HX:=hid hx1;have HS:=hid hs1;clear hth hr1 hx1 hs1;by_cases hlt:k<24
   ·have hlt2:(k:Int)<24:=by omega
    have hix:=NL.o k hlt;by_cases te:U.tag k=⟨#[]⟩
    ·have OZ:=hid te;rw[te] at hix;clear te;go_wp2_with fail
     go_roundw
     case rel=>
      refine⟨k+1,by omega,by go_num,fun i hi=>?_,HR.o.since ((Since.refl _).alloc _),(HX.o.congr (fun j _=>Af kb S.D U k OZ.o j)).since ((Since.refl _).alloc _),HS.o.alloc _⟩;by_cases e:i=k
      ·subst e;exact Or.inl OZ.o
      exact HTH.o i (by omega)
     case measure=>simp[intOf];omega
    obtain⟨g1,g2⟩:=uk te;have OZ:=hid te;clear te;go_wp2_with fail
    have nO:Hid (aA (wr.alloc (.cells #[.int .i64 (U.az k),.int .i64 (U.off k),.string (U.tag k)] 69)) wr.heap.size 3 (fun j=>if j=0 then .int .i64 (U.az k) else if j=1 then .int .i64 (U.off k) else .string (U.tag k))):=aA.new wr _ _ _ _ (fun j hj=>by
     match j,hj with
     | 0,_=>rfl
     | 1,_=>rfl
     | 2,_=>rfl) _ rfl
    have HS2:Hid (Since wr (wr.alloc (.cells #[.int .i64 (U.az k),.int .i64 (U.off k),.string (U.tag k)] 69)).drew):=((Since.refl wr).alloc _).drew;generalize hw2:wr.alloc (.cells #[.int .i64 (U.az k),.int .i64 (U.off k),.string (U.tag k)] 69)=w2 at *;clear hw2;have jR:Hid (aA w2.drew wr.heap.size 3 (fun j=>if j=0 then .int .i64 (U.az k) else if j=1 then .int .i64 (U.off k) else .string (U.tag k))):=nO.o.since (Since.refl _).drew;have H3:=hid (H.o.go (HS.o.trans HS2.o));have bQ:(fun W:World=>W.cell? ⟨rv,1,none⟩=some (.pointer (some ⟨rd,0,none⟩))∧W.cell? ⟨wr.heap.size,0,none⟩=some (.int .i64 (U.az k))∧W.cell? ⟨wr.heap.size,1,none⟩=some (.int .i64 (U.off k))) w2.drew:=⟨H3.o.c1,jR.o.cell 0 (by omega),jR.o.cell 1 (by omega)⟩
    refine wp_region_held (S:=fun W:World=>W.cell? ⟨rv,1,none⟩=some (.pointer (some ⟨rd,0,none⟩))∧W.cell? ⟨wr.heap.size,0,none⟩=some (.int .i64 (U.az k))∧W.cell? ⟨wr.heap.size,1,none⟩=some (.int .i64 (U.off k))) (by kernel_rfl) ?_;refine Tw.tk 0 55 bQ ?_;refine Tw.tk 1 56 bQ ?_;refine Tw.tk 2 57 bQ ?_;refine Tw.tk 3 58 bQ ?_;refine Tw.tk 4 59 bQ ?_;refine Tw.tk 5 60 bQ ?_;refine Tw.tk 6 61 bQ ?_;refine Tw.tk 7 62 bQ ?_;refine Tw.ry 8 (fun K hK=>?_);rw[if_pos (by rfl)];go_simp
    refine(Ki (U.az k) (U.off k) cO.o H3.o).mono ?_;rintro e w3 ⟨rfl,hw3⟩;rw[hw3];clear hw3 w3;simp only[];refine hK.out _ _ bQ (fun _=>?_);clear hK K;refine Tw.nz ?_;refine Tw.tk 9 54 bQ ?_;refine Tw.tk 10 64 bQ ?_;refine Tw.tk 11 65 bQ ?_;refine Tw.tk 12 12 bQ ?_;refine Tw.tk 13 13 bQ ?_;refine wpAnyH_done (by kernel_rfl) ?_ _;clear bQ g1 g2 hix nO;have dZ:=hid (HS.o.trans HS2.o);have HR3:=hid (HR.o.since HS2.o);have ML:=hid (HX.o.since HS2.o);clear HS HR HX HS2;generalize w2.drew=w3 at *;by_cases hz:0≤U.az k∧U.az k<8∧0≤U.off k∧U.off k<S.D.cnt (U.az k).toNat
    ·have e1:MM S.D (U.az k) (U.off k)=(gm S.D (U.az k) (U.off k),0):=by
      unfold MM;rw[if_neg (fun q=>q ⟨hz.1,hz.2.1⟩),if_neg (fun q=>q ⟨hz.2.2.1,hz.2.2.2⟩)]
     rw[e1];have HZ:=hid hz;have Mw:Hid ((gm S.D (U.az k) (U.off k)).size=128):=bG _ _;have ul:Hid (there kb S.D U k↔((gm S.D (U.az k) (U.off k)).extract 0 16=Sl.kT kb k (gm S.D (U.az k) (U.off k))∧(gm S.D (U.az k) (U.off k)).extract 0 16=U.tag k)):=by
      constructor
      ·rintro (q | q)
       ·exact absurd q OZ.o
       exact q.2
      exact fun q=>Or.inr ⟨HZ.o,q⟩
     have Zz:Hid (∀j,aJ (aW (aM kb S.D U k)) k (.string (Sl.textOf kb (gm S.D (U.az k) (U.off k)))) j=aW (aM kb S.D U (k+1)) j):=fun j=>El kb S.D U k _ (by rw[if_neg OZ.o]) j
     clear hz e1;generalize hbb:gm S.D (U.az k) (U.off k)=bb at *;clear hbb;go_wp2_with fail
     have H4:Hid (bg w0 w3.drew N rv Rb rd rc s S):=H3.o.go (Since.refl _).drew;have qZ:Hid (aA w3.drew wr.heap.size 3 (fun j=>if j=0 then .int .i64 (U.az k) else if j=1 then .int .i64 (U.off k) else .string (U.tag k))):=jR.o.since (Since.refl _).drew;have fO:=hid dZ.o.drew;have HR4:Hid (aA w3.drew bt 73 (ae U)):=HR3.o.since (Since.refl _).drew;have HX4:Hid (aA w3.drew wc.heap.size 24 (aW (aM kb S.D U k))):=ML.o.since (Since.refl _).drew;clear H3 jR dZ HR3 ML;have cz:(fun W:World=>W.cell? ⟨rv,0,none⟩=some (.pointer (some ⟨Rb,0,none⟩))) w3.drew:=H4.o.c0;refine wp_region_held (S:=fun W:World=>W.cell? ⟨rv,0,none⟩=some (.pointer (some ⟨Rb,0,none⟩))) (by kernel_rfl) ?_;refine Tw.tk 0 69 cz ?_;refine Tw.tk 1 70 cz ?_;refine Tw.tk 2 71 cz ?_;refine Tw.tk 3 72 cz ?_;refine Tw.tk 4 73 cz ?_;refine Tw.tk 6 75 cz ?_;refine Tw.tk 7 76 cz ?_
     refine Tw.ry 5 (fun K hK=>?_);rw[if_pos (by rfl)];go_simp
     refine(vZ kb 98 HB.o.a5l H4.o).mono ?_;rintro e w5 ⟨rfl,h5⟩;simp only[];have H5:=hid (H4.o.go h5);have iM:=hid (qZ.o.since h5);have jX:=hid (fO.o.trans h5);have HR5:=hid (HR4.o.since h5);have HX5:=hid (HX4.o.since h5);have hS5:(fun W:World=>W.cell? ⟨rv,0,none⟩=some (.pointer (some ⟨Rb,0,none⟩))) w5:=H5.o.c0;clear h5;refine hK.out _ _ hS5 (fun _=>?_);clear hK K;refine Tw.nz ?_;have HUN:Hid (∀W,Sm.aN W Rb 0 8 Sm.H0.fn→Sm.aN W Rb 8 64 Sm.kn→Calls Tryz.prog 149 #[.pointer (some ⟨Rb,0,none⟩),.string kb,.int .i64 (k:Int),.string bb] W fun e w'=>(∃tg tx er,e=.returned (.tuple #[.string tg,.string tx,.int .i64 er])∧((bb.extract 0 16=Sl.kT kb k bb∧tg=bb.extract 0 16∧tx=Sl.textOf kb bb∧er=0)∨(¬bb.extract 0 16=Sl.kT kb k bb∧er=15)))∧Since W w'):=fun W h1 h2=>by
      by_cases hg:bb.extract 0 16=Sl.kT kb k bb
      ·refine(Sl.Ka HB.o.sum Rb kb k bb W HB.o.kb (by have:=Mw.o;omega) (by have:=Mw.o;omega) hg h1 h2).mono ?_;rintro e w' ⟨rfl,h⟩;exact⟨⟨_,_,_,rfl,Or.inl ⟨hg,rfl,rfl,rfl⟩⟩,h⟩
      refine(Sl.Fh HB.o.sum Rb kb k bb W HB.o.kb (by have:=Mw.o;omega) (by have:=Mw.o;omega) hg h1 h2).mono ?_;rintro e w' ⟨rfl,h⟩;exact⟨⟨_,_,_,rfl,Or.inr ⟨hg,rfl⟩⟩,h⟩
     refine Tw.ry 8 (fun K hK=>?_);rw[if_pos (by rfl)];go_simp
     refine(HUN.o _ H5.o.hh.1 H5.o.hh.2).mono ?_;rintro e w6 ⟨⟨tg,tx,er6,rfl,a5u⟩,h6⟩;simp only[];have H6:=hid (H5.o.go h6);have Hd:=hid (iM.o.since h6);have iL:=hid (jX.o.trans h6);have rF:=hid (HR5.o.since h6);have Tc:=hid (HX5.o.since h6);have XY:=hid a5u;have gH:(fun W:World=>W.cell? ⟨rv,0,none⟩=some (.pointer (some ⟨Rb,0,none⟩))) w6:=H6.o.c0;clear h6 a5u HUN;refine hK.out _ _ gH (fun _=>?_);clear hK K;refine Tw.nz ?_;refine Tw.tk 9 68 gH ?_;refine Tw.tk 10 78 gH ?_;refine Tw.tk 11 79 gH ?_;refine Tw.tk 12 80 gH ?_;refine Tw.tk 13 14 gH ?_;refine Tw.tk 14 15 gH ?_;refine Tw.tk 15 13 gH ?_;refine wpAnyH_done (by kernel_rfl) ?_ _;clear cz hS5 gH H4 H5 qZ iM fO jX HR4 HR5 HX4 HX5;have qt6:w6.cell? ⟨wr.heap.size,2,none⟩=some (.string (U.tag k)):=Hd.o.cell 2 (by omega);rcases XY.o with⟨hg,rfl,rfl,rfl⟩ | ⟨hg,rfl⟩
     ·by_cases Pb:bb.extract 0 16=U.tag k
      ·have HTK:=hid (ul.o.2 ⟨hg,Pb⟩);rw[Pb];clear Pb ul hg XY;generalize Sl.textOf kb bb=tx at *;have qx:=Tc.o.cell k hlt;have qf:=Tc.o.frozen k hlt;go_wp2_with fail
       go_roundw
       case rel=>
        refine⟨k+1,by omega,by go_num,fun i hi=>?_,rF.o.other (by have:=UD.o;show wc.heap.size≠bt;omega) _,(Tc.o.set k hlt _).congr (fun j _=>Zz.o j),iL.o.setCell (by have:=Wn.o.size;exact this) _⟩;by_cases e:i=k
        ·subst e;exact HTK.o
        exact HTH.o i (by omega)
       case measure=>simp[intOf];omega
      have hnl:=Tw.fD Pb;have Ta:Hid (¬whole kb kt S.D n):=fun q=>Pb (ul.o.1 ((Em.o.1 q).2 k hlt)).2
      clear Pb ul hg XY;generalize Sl.textOf kb bb=tx at *;generalize bb.extract 0 16=tg at *;go_wp2_with fail
      go_ret;exact Or.inr ⟨Ta.o,rfl,iL.o⟩
     have Ta:Hid (¬whole kb kt S.D n):=fun q=>hg (ul.o.1 ((Em.o.1 q).2 k hlt)).1
     clear hg ul XY;go_wp2_with fail
     go_ret;exact Or.inr ⟨Ta.o,rfl,iL.o⟩
    obtain⟨er,he1,he2⟩:∃er:Int,MM S.D (U.az k) (U.off k)=(⟨#[]⟩,er)∧er≠0:=by
     unfold MM;by_cases h8:0≤U.az k∧U.az k<8
     ·rw[if_neg (fun q=>q h8)];rw[if_pos (fun q=>hz ⟨h8.1,h8.2,q.1,q.2⟩)];exact⟨7,rfl,by decide⟩
     rw[if_pos h8];exact⟨2,rfl,by decide⟩
    rw[he1];have Ta:Hid (¬whole kb kt S.D n):=fun q=>by
     rcases (Em.o.1 q).2 k hlt with h6 | h6
     ·exact OZ.o h6
     exact hz h6.1
    have hed:¬er=0:=he2;clear he1 he2 hz;go_wp2_with fail
    go_ret;exact Or.inr ⟨Ta.o,rfl,dZ.o⟩
   have hke:k=24:=by omega
   subst hke;have HW:=hid (Em.o.2 ⟨⟨a0f.o,HCN.o⟩,HTH.o⟩);have hL:=Tw.jc U;have hL5:=Jn (aM kb S.D U 24);have H6:=hid (H.o.go HS.o.drew);have MP:=hid HS.o.drew;have rF:Hid (wr.drew.rangeAt bt 0 (ak 73 (ae U))):=Tw.bJ (HR.o.since (Since.refl _).drew);have Tc:Hid (wr.drew.rangeAt wc.heap.size 0 (ak 24 (aW (aM kb S.D U 24)))):=xH (HX.o.since (Since.refl _).drew);have Xi:=H6.o.aQ.store Tryz.prog 4 73 (by omega) (ae U) (fun j _=>Tw.jd _ j);have Qw:=hid ((H6.o.aQ.setRow 4 73 (by omega) (ae U)).congr (fun j hj=>vg Rb rd rc s S.T U S.X S.dead j hj));have Xj:=Qw.o.store Tryz.prog 77 24 (by omega) (aW (aM kb S.D U 24)) (fun j _=>lT _ j);have HC8:=hid ((Qw.o.setRow 77 24 (by omega) (aW (aM kb S.D U 24))).congr (fun j hj=>Fj Rb rd rc s U U S.X (aM kb S.D U 24) S.dead j hj))
   have HF8:Hid (Fr rv none wr.drew ((wr.drew.setCells rv 4 (ak 73 (ae U))).setCells rv 77 (ak 24 (aW (aM kb S.D U 24))))):=(Fr.setCells _ _ _ _ _).trans' (Fr.setCells _ _ _ _ _);have a0h:Hid (Ty ((wr.drew.setCells rv 4 (ak 73 (ae U))).setCells rv 77 (ak 24 (aW (aM kb S.D U 24)))) rv 75):=Ty.setCells _ _ _ _ (Ty.setCells _ _ _ _ H6.o.ty);have Cv:Hid (rv≠bt∧rv≠wc.heap.size):=by
    have h1:=H.o.ty.lt;have h2:=UD.o;have h3:=Wn.o.size;exact⟨by omega,by omega⟩
   generalize ak 73 (ae U)=cs7 at *;generalize ak 24 (aW (aM kb S.D U 24))=cx at *;have gH:(fun W:World=>W.rangeAt bt 0 cs7∧W.rangeAt wc.heap.size 0 cx) wr.drew:=⟨rF.o,Tc.o⟩
   have Td:Hid ((fun W:World=>W.rangeAt bt 0 cs7∧W.rangeAt wc.heap.size 0 cx) (wr.drew.setCells rv 4 cs7)):=⟨dw rF.o Cv.o.1 _ _,dw Tc.o Cv.o.2 _ _⟩
   have Te:Hid ((fun W:World=>W.rangeAt bt 0 cs7∧W.rangeAt wc.heap.size 0 cx) ((wr.drew.setCells rv 4 cs7).setCells rv 77 cx)):=⟨dw (dw rF.o Cv.o.1 _ _) Cv.o.1 _ _,dw (dw Tc.o Cv.o.2 _ _) Cv.o.2 _ _⟩
   go_wp2_with fail
   refine wp_region_held (S:=fun W:World=>W.rangeAt bt 0 cs7∧W.rangeAt wc.heap.size 0 cx) (by kernel_rfl) ?_;refine Tw.tk 0 93 gH ?_;refine Tw.tk 1 94 gH ?_;refine Tw.takeD (i:=2) (d:=95) (v:=.agg cs7.toArray) rfl rfl (by kernel_rfl) (by kernel_rfl) (by kernel_rfl) (fun _ _ _ h=>h) (yieldsIf_load_mid (by rfl) 72 _ (by rfl) bt 0 (by rfl) _ _ (fun w hSw=>hSw.1) Tryz.underlying72 (by rfl) (by rw[hL];kernel_rfl)) gH ?q70;simp only[Act.put,List.setIfInBounds_toArray,List.set_cons_zero,List.set_cons_succ];refine Tw.takeD (i:=3) (d:=96) (v:=.agg cx.toArray) rfl rfl (by kernel_rfl) (by kernel_rfl) (by kernel_rfl) (fun _ _ _ h=>h) (yieldsIf_load_mid (by rfl) 73 _ (by rfl) wc.heap.size 0 (by rfl) _ _ (fun w hSw=>hSw.2) Tryz.underlying73 (by rfl) (by rw[hL5];kernel_rfl)) gH ?q71;simp only[Act.put,List.setIfInBounds_toArray,List.set_cons_zero,List.set_cons_succ];refine Tw.tk 4 97 gH ?_
   refine Tw.tk 5 98 gH ?_;refine Tw.ry 6 (fun K hK=>?_);rw[if_pos (by rfl)];go_simp
   have sU:(fun W:World=>W.rangeAt bt 0 cs7∧W.rangeAt wc.heap.size 0 cx) (wr.drew.setCells rv 4 cs7):=Td.o;refine hK.out _ _ sU (fun _=>?_);clear hK K;refine Tw.nz ?_;refine Tw.tk 7 99 sU ?_;refine Tw.tk 8 100 sU ?_;refine Tw.ry 9 (fun K hK=>?_);rw[if_pos (by rfl)];go_simp
   have Ad:(fun W:World=>W.rangeAt bt 0 cs7∧W.rangeAt wc.heap.size 0 cx) ((wr.drew.setCells rv 4 cs7).setCells rv 77 cx):=Te.o;refine hK.out _ _ Ad (fun _=>?_);clear hK K;refine Tw.nz ?_;refine wpAnyH_done (by kernel_rfl) ?_ _;clear Xi Xj gH sU Ad Td Te;generalize (wr.drew.setCells rv 4 cs7).setCells rv 77 cx=w7 at *;go_wp2_with fail
   go_ret;rw[YI.o];exact Or.inl ⟨HW.o,rfl,iZ.pre MP.o (H6.o.nJ HC8.o HF8.o a0h.o)⟩
  have HW:Hid (¬whole kb kt S.D n):=fun q=>hc (Em.o.1 q).1.2
  go_wp2_with fail
  go_ret;exact Or.inr ⟨HW.o,rfl,Wn.o⟩
 have HW:Hid (¬whole kb kt S.D n):=fun q=>xJ (Em.o.1 q).1.1
 clear xJ hCU hYU hbt hsU MO HKY kQ;go_wp2_with fail
 go_ret;exact Or.inr ⟨HW.o,rfl,Wn.o⟩
end
end Vl
end
section
namespace Vl
open Go.RowKit
open Tw (Tb ae aY aU)
structure Qf (w0 w:World)(N Rb rd rc:Nat)(D:Dv)(c:Int):Prop where
 sV:∃lv av wv,Ref w rd N D lv av wv
 iN:aA w rc 1 (fun _=>.int .i64 c)
 hh:Sm.aN w Rb 0 8 Sm.H0.fn∧Sm.aN w Rb 8 64 Sm.kn
 ne:Rb<N∧rd<N∧rc<N∧rd≠rc∧rd≠Rb∧rc≠Rb
 since:Since w0 w
 lo:w0.heap.size≤Rb∧w0.heap.size≤rd∧w0.heap.size≤rc
theorem Qf.go {w0 w w':World}{N Rb rd rc:Nat}{D:Dv}{c:Int}(h:Qf w0 w N Rb rd rc D c)(hs:Since w w'):Qf w0 w' N Rb rd rc D c where
 sV:=by
  obtain⟨lv,av,wv,hr⟩:=h.sV;exact⟨lv,av,wv,hr.since hs⟩
 iN:=h.iN.since hs
 hh:=⟨h.hh.1.since hs,h.hh.2.since hs⟩
 ne:=h.ne
 since:=h.since.trans hs
 lo:=h.lo
theorem bg.rdc {w0 w:World}{N rv Rb rd rc:Nat}{s:ByteArray}{S:Vs}(h:bg w0 w N rv Rb rd rc s S):Qf w0 w N Rb rd rc S.D S.c:=⟨h.sV,h.iN,h.hh,⟨h.ne.1,h.ne.2.1,h.ne.2.2.1,h.ne.2.2.2.2⟩,h.since,h.lo⟩
theorem Cm (j:Nat)(hj:j<102):Tryz.zeroCells75[j]?=some (if j<3 then .pointer none else bN 0 0 0 ⟨#[]⟩ Tb.zero (fun _=>⟨#[]⟩) false j):=by
 have hr:Tryz.zeroCells75.toList=ak 102 (fun j=>if j<3 then .pointer none else bN 0 0 0 ⟨#[]⟩ Tb.zero (fun _=>⟨#[]⟩) false j):=by kernel_rfl
 rw[←Array.getElem?_toList,hr];exact bM _ _ _ hj
theorem XZ (w:World)(Rb rd rc:Nat)(s:ByteArray):aA (w.alloc (.cells ((((Tryz.zeroCells75.setIfInBounds 0 (.pointer (some ⟨Rb,0,none⟩))).setIfInBounds 1 (.pointer (some ⟨rd,0,none⟩))).setIfInBounds 2 (.pointer (some ⟨rc,0,none⟩))).setIfInBounds 3 (.string s)) 75)) w.heap.size 102 (bN Rb rd rc s Tb.zero (fun _=>⟨#[]⟩) false):=by
 refine aA.new w _ _ _ _ (fun j hj=>?_) _ rfl;have hz:=Tryz.zeroCells75_size;by_cases h3:j=3
 ·subst h3;rw[Array.getElem?_setIfInBounds_self_of_lt (by simp only[Array.size_setIfInBounds,hz];omega)]
  rfl
 rw[Array.getElem?_setIfInBounds_ne (fun e=>h3 e.symm)];by_cases h2:j=2
 ·subst h2;rw[Array.getElem?_setIfInBounds_self_of_lt (by simp only[Array.size_setIfInBounds,hz];omega)]
  rfl
 rw[Array.getElem?_setIfInBounds_ne (fun e=>h2 e.symm)];by_cases h1:j=1
 ·subst h1;rw[Array.getElem?_setIfInBounds_self_of_lt (by simp only[Array.size_setIfInBounds,hz];omega)]
  rfl
 rw[Array.getElem?_setIfInBounds_ne (fun e=>h1 e.symm)];by_cases h0:j=0
 ·subst h0;rw[Array.getElem?_setIfInBounds_self_of_lt (by rw[hz];omega)]
  rfl
 rw[Array.getElem?_setIfInBounds_ne (fun e=>h0 e.symm),Cm j hj,if_neg (by omega)];unfold bN;simp only[if_neg h0,if_neg h1,if_neg h2,if_neg h3]
def Np (w0 w w':World)(N Rb rd rc:Nat)(s kb kt:ByteArray)(D:Dv)(c:Int)(e:Ending):Prop:=
 ∃rv r S',gM kb kt (fresh D c) r S'∧((r=0∧e=.returned (.tuple #[.pointer (some ⟨rv,0,none⟩),.int .i64 0]))∨(r≠0∧e=.returned (.tuple #[.pointer none,.int .i64 r])))∧w.heap.size≤rv∧bg w0 w' N rv Rb rd rc s S'∧
  RF true N rv rd rc w w'
theorem Qg {w0 w:World}{N Rb rd rc:Nat}{s kb kt:ByteArray}{D:Dv}{c:Int}(B:ja Rb s kb kt)(hs:s.size=16)(hok:D.ok)(hc:0≤c∧c<1000000000)(h:Qf w0 w N Rb rd rc D c) :
  Calls Tryz.prog 34 #[.pointer (some ⟨Rb,0,none⟩),.pointer (some ⟨rd,0,none⟩),.pointer (some ⟨rc,0,none⟩),.string s] w fun e w'=>Np w0 w w' N Rb rd rc s kb kt D c e:=by
 have hs2:(s.size:Int)=16:=by omega
 obtain⟨hc0,hc1⟩:=hc;have HB:=hid B;have cO:=hid hok;have kN:Hid (Since w (w.alloc (.cells ((((Tryz.zeroCells75.setIfInBounds 0 (.pointer (some ⟨Rb,0,none⟩))).setIfInBounds 1 (.pointer (some ⟨rd,0,none⟩))).setIfInBounds 2 (.pointer (some ⟨rc,0,none⟩))).setIfInBounds 3 (.string s)) 75))):=(Since.refl w).alloc _;have H1:Hid (bg w0 (w.alloc (.cells ((((Tryz.zeroCells75.setIfInBounds 0 (.pointer (some ⟨Rb,0,none⟩))).setIfInBounds 1 (.pointer (some ⟨rd,0,none⟩))).setIfInBounds 2 (.pointer (some ⟨rc,0,none⟩))).setIfInBounds 3 (.string s)) 75)) N w.heap.size Rb rd rc s (fresh D c)):=by
  have h1:=h.go kN.o;obtain⟨lv,av,wv,hr⟩:=h.sV;exact⟨XZ w Rb rd rc s,h1.sV,h1.iN,h1.hh,Ty.new _ _ _,⟨h.ne.1,h.ne.2.1,h.ne.2.2.1,hr.le,h.ne.2.2.2⟩,h1.since,h.lo⟩
 have HDC:=hid h;clear h B hok hs;have q1:(w.alloc (.cells ((((Tryz.zeroCells75.setIfInBounds 0 (.pointer (some ⟨Rb,0,none⟩))).setIfInBounds 1 (.pointer (some ⟨rd,0,none⟩))).setIfInBounds 2 (.pointer (some ⟨rc,0,none⟩))).setIfInBounds 3 (.string s)) 75)).cell? ⟨rc,0,none⟩=some (.int .i64 c):=H1.o.iN.cell 0 (by omega);have Em:Hid (∀W n,0≤n→∀SS:Vs,SS.D.ok→bg w0 W N w.heap.size Rb rd rc s SS→Calls Tryz.prog 86 #[.pointer (some ⟨w.heap.size,0,none⟩),.int .i64 n] W fun e w'=>(whole kb kt SS.D n∧e=.returned (.bool true)∧iZ true w0 W w' N w.heap.size Rb rd rc s { SS with T:=dz SS.D n,X:=aM kb SS.D (dz SS.D n) 24 })∨(¬whole kb kt SS.D n∧e=.returned (.bool false)∧Since W w')):=fun W n hn SS hok hV=>Qd HB.o n hn hok hV
 go_enter Tryz.func34,Tryz.ntmps34
 go_wp2_with fail
 generalize w.alloc (.cells ((((Tryz.zeroCells75.setIfInBounds 0 (.pointer (some ⟨Rb,0,none⟩))).setIfInBounds 1 (.pointer (some ⟨rd,0,none⟩))).setIfInBounds 2 (.pointer (some ⟨rc,0,none⟩))).setIfInBounds 3 (.string s)) 75)=w1 at *;refine(Em.o w1 (c+1) (by omega) (fresh D c) cO.o H1.o).mono ?_;rintro e w2 (⟨hw1,rfl,h1⟩ | ⟨hw1,rfl,h1⟩)
 ·have HW:=hid hw1;have HT1:=hid (iZ.pre kN.o h1);clear hw1 h1 q1;have q2:w2.cell? ⟨rc,0,none⟩=some (.int .i64 c):=HT1.o.1.iN.cell 0 (by omega);have f2:=HT1.o.1.iN.frozen 0 (by omega);go_wp2_with fail
  go_ret2;have ht:=HT1.o.after (HT1.o.1.Ab (q:=true) (c':=c+1));exact⟨_,0,_,Or.inl ⟨HW.o,rfl,rfl⟩,Or.inl ⟨rfl,rfl⟩,Nat.le_refl _,ht.1,ht.2⟩
 have HW:=hid hw1;have H2:=hid (H1.o.go h1);have HS2:=hid (kN.o.trans h1);clear hw1 h1 q1;have q2:w2.cell? ⟨rc,0,none⟩=some (.int .i64 c):=H2.o.iN.cell 0 (by omega);by_cases h0:0<c
 ·have hd0:decide (0<c)=true:=decide_eq_true h0;go_wp2_with fail
  refine(Em.o w2 c hc0 (fresh D c) cO.o H2.o).mono ?_;rintro e w3 (⟨hw2,rfl,h2⟩ | ⟨hw2,rfl,h2⟩)
  ·have HW2:=hid hw2;have HT2:=hid (iZ.pre HS2.o h2);clear hw2 h2;go_wp2_with fail
   go_ret2;exact⟨_,0,_,Or.inr (Or.inr (Or.inl ⟨HW.o,by show c≠0;omega,HW2.o,rfl,rfl⟩)),Or.inl ⟨rfl,rfl⟩,Nat.le_refl _,HT2.o.1,HT2.o.2⟩
  have HW2:=hid hw2;have dZ:=hid (HS2.o.trans h2);have H3:=hid (H2.o.go h2);clear hw2 h2;go_wp2_with fail
  go_ret2;exact⟨_,15,_,Or.inr (Or.inr (Or.inr ⟨HW.o,by show c≠0;omega,HW2.o,rfl,rfl⟩)),Or.inr ⟨by decide,rfl⟩,Nat.le_refl _,H3.o,RF.ag dZ.o⟩
 have hd0:decide (0<c)=false:=decide_eq_false h0;go_wp2_with fail
 go_ret2;exact⟨_,0,_,Or.inr (Or.inl ⟨HW.o,by show c=0;omega,rfl,rfl⟩),Or.inl ⟨rfl,rfl⟩,Nat.le_refl _,H2.o,RF.ag HS2.o⟩
end Vl
end
section
namespace Vl
open Go.RowKit
open Tw (Tb ae aY aU)
structure Apart (N db cb Rb rd rc:Nat):Prop where
 lt:db<N∧cb<N∧Rb<N∧rd<N∧rc<N
 ne:db≠cb∧rd≠rc∧rd≠Rb∧rc≠Rb
 pr:db≠Rb∧db≠rd∧db≠rc∧cb≠Rb∧cb≠rd∧cb≠rc
def Safe (w:World)(db cb rd rc k:Nat):Prop:=(∃t,Ty w k t∧t≠165∧t≠75∧t≠269)∧k≠db∧k≠cb∧k≠rd∧k≠rc
theorem Safe.lt {w:World}{db cb rd rc k:Nat}(h:Safe w db cb rd rc k):k<w.heap.size:=by
 obtain⟨⟨t,ht,_⟩,_⟩:=h;exact ht.lt
section
variable {w0 w w':World} {N vb db cb rv Rb rd rc:Nat} {s kb kt:ByteArray} {S:Vs} {v:Value} {D:Dv} {c:Int}
theorem Safe.fsD {k:Nat}(h:Safe w db cb rd rc k)(hown:∀j,v.ownBlock=some j→Ty w j 269)(hf:Fs (fun k=>k=db∨k=cb∨v.ownBlock=some k) w w'):w'.heap[k]?=w.heap[k]?:=by
 obtain⟨⟨t,ht,h1,h2,h3⟩,h4,h5,_⟩:=h;refine hf.block k ht.lt ?_;rintro (e | e | e)
 ·exact h4 e
 ·exact h5 e
 exact h3 (ht.one (hown _ e))
theorem Safe.rf {k:Nat}(h:Safe w db cb rd rc k)(hty:rv<w.heap.size→Ty w rv 75)(hf:RF true N rv rd rc w w'):w'.heap[k]?=w.heap[k]?:=by
 obtain⟨⟨t,ht,h1,h2,h3⟩,h4,h5,h6,h7⟩:=h;refine hf.block k ht.lt (fun e=>?_) h6 h7 (Or.inl rfl);subst e;exact h2 (ht.one (hty ht.lt))
theorem nD {b:Nat}(h:Dev w b D v):∀j,v.ownBlock=some j→Ty w j 269:=fun j hj=>Ty.own h.own hj
theorem Qf.keep (A:Apart N db cb Rb rd rc)(h:Qf w0 w N Rb rd rc D c)(hb:∀k,k<w.heap.size→k≠db→k≠cb→(k<N∨Ty w k 3∨Ty w k 9)→w'.heap[k]?=w.heap[k]?)(hsz:w.heap.size≤w'.heap.size)(hs:Since w0 w'):Qf w0 w' N Rb rd rc D c:=by
 obtain⟨lv,av,wv,hr⟩:=h.sV;have hlt:=A.lt;have hpr:=A.pr;have hrow:∀z,z<8→w'.ownsRow N 9 1 (lv z) (D.cnt z) (lm (D.blk z) (D.cnt z)):=fun z hz=>by
  refine⟨(hr.row z hz).1,?_⟩;rcases (hr.row z hz).2 with hn | ⟨k,cap,cur,hv,hbk,hk,rest⟩
  ·exact .inl hn
  exact .inr ⟨k,cap,cur,hv,hbk,by rw[hb k (Array.getElem?_eq_some_iff.1 hk).1 (by omega) (by omega) (Or.inr (Or.inr ⟨_,_,hk⟩))];exact hk,rest⟩
 have hat:w'.ownsRow N 3 1 av D.ws.length (QB D.ws):=by
  refine⟨hr.at_.1,?_⟩;rcases hr.at_.2 with hn | ⟨k,cap,cur,hv,hbk,hk,rest⟩
  ·exact .inl hn
  exact .inr ⟨k,cap,cur,hv,hbk,by rw[hb k (Array.getElem?_eq_some_iff.1 hk).1 (by omega) (by omega) (Or.inr (Or.inl ⟨_,_,hk⟩))];exact hk,rest⟩
 have a5v:w'.ownsRow N 9 1 wv D.ws.length (lX D.ws):=by
  refine⟨hr.what.1,?_⟩;rcases hr.what.2 with hn | ⟨k,cap,cur,hv,hbk,hk,rest⟩
  ·exact .inl hn
  exact .inr ⟨k,cap,cur,hv,hbk,by rw[hb k (Array.getElem?_eq_some_iff.1 hk).1 (by omega) (by omega) (Or.inr (Or.inr ⟨_,_,hk⟩))];exact hk,rest⟩
 have e1:=hb rd (hr.aQ.lt (by omega)) (by omega) (by omega) (Or.inl (by omega));have e2:=hb rc (h.iN.lt (by omega)) (by omega) (by omega) (Or.inl (by omega));have e3:=hb Rb (nK h.hh.1 (by omega)) (by omega) (by omega) (Or.inl (by omega));exact⟨⟨lv,av,wv,⟨eU hr.aQ e1,hrow,hat,a5v,hr.apart,hr.lt,Nat.le_trans hr.le hsz⟩⟩,eU h.iN e2,⟨jN h.hh.1 e3,jN h.hh.2 e3⟩,h.ne,hs,h.lo⟩
theorem bg.keep (A:Apart N db cb Rb rd rc)(h:bg w0 w N rv Rb rd rc s S)(hb:∀k,k<w.heap.size→k≠db→k≠cb→(k<N∨Ty w k 3∨Ty w k 9)→w'.heap[k]?=w.heap[k]?)(Zc:w'.heap[rv]?=w.heap[rv]?)(hsz:w.heap.size≤w'.heap.size)(hs:Since w0 w'):bg w0 w' N rv Rb rd rc s S:=by
 have hd:=h.rdc.keep A hb hsz hs;exact⟨eU h.aQ Zc,hd.sV,hd.iN,hd.hh,h.ty.blk Zc,h.ne,hs,h.lo⟩
theorem Qf.fsP (A:Apart N db cb Rb rd rc)(hvN:∀k,v.ownBlock=some k→N≤k)(h:Qf w0 w N Rb rd rc D c){D':Dv}{c':Int}(hp:DC w0 w db cb D' c' v)(hf:Fs (fun k=>k=db∨k=cb∨v.ownBlock=some k) w w'):Qf w0 w' N Rb rd rc D c:=by
 have ho:=nD hp.dev;refine h.keep A (fun k hk h1 h2 h3=>hf.block k hk ?_) hf.size (hf.since h.since ?_)
 ·rintro (e | e | e)
  ·exact h1 e
  ·exact h2 e
  have:=hvN k e;rcases h3 with h3 | h3 | h3
  ·omega
  ·exact absurd ((ho k e).one h3) (by decide)
  exact absurd ((ho k e).one h3) (by decide)
 rintro k (e | e | e)
 ·rw[e];exact hp.lo.1
 ·rw[e];exact hp.lo.2.1
 exact hp.lo.2.2 k e
theorem DC.rf (A:Apart N db cb Rb rd rc)(hvN:∀k,v.ownBlock=some k→N≤k)(h:DC w0 w db cb D c v)(Zc:rv<w.heap.size→Ty w rv 75)(hrN:N≤rv)(hlo:w0.heap.size≤rd∧w0.heap.size≤rc∧w0.heap.size≤rv)(hf:RF true N rv rd rc w w'):DC w0 w' db cb D c v:=by
 have hlt:=A.lt;have hpr:=A.pr;have hb:∀k,k<w.heap.size→k≠rv→k≠rd→k≠rc→w'.heap[k]?=w.heap[k]?:=fun k hk h1 h2 h3=>hf.block k hk h1 h2 h3 (Or.inl rfl)
 have e2:=hb db h.dev.lt (by omega) (by omega) (by omega);have e3:=hb cb (h.iN.lt (by omega)) (by omega) (by omega) (by omega);have ho:=nD h.dev;refine⟨⟨eU h.dev.aQ e2,?_,h.dev.ne,h.dev.ok⟩,eU h.iN e3,h.ne,h.own,?_,h.lo⟩
 ·refine⟨h.dev.own.1,?_⟩;rcases h.dev.own.2 with hn | ⟨k,cap,cur,hv,hbk,hk,rest⟩
  ·exact .inl hn
  have hko:v.ownBlock=some k:=by rw[hv];rfl
  have hkN:=hvN k hko;refine .inr ⟨k,cap,cur,hv,hbk,?_,rest⟩;rw[hb k (Array.getElem?_eq_some_iff.1 hk).1 (fun e=>?_) (by omega) (by omega)]
  ·exact hk
  subst e;have ht:=ho k hko;exact absurd (ht.one (Zc ht.lt)) (by decide)
 exact Below.trans (show Below w0.heap.size w0 w from h.since) ⟨hf.os,hf.tape,hf.output,hf.size,fun k hk=>hb k (Nat.lt_of_lt_of_le hk h.since.size) (by omega) (by omega) (by omega)⟩
end
structure Both (w0 w:World)(N vb db cb rv Rb rd rc:Nat)(s kb kt:ByteArray)(S:Vs)(n:Int):Prop where
 ap:Apart N db cb Rb rd rc
 p:∃v,dL w0 w vb db cb kb kt S v∧∀k,v.ownBlock=some k→N≤k
 r:bg w0 w N rv Rb rd rc s S
 nv:N≤vb
 ok:S.ok n
 nN:N≤w.heap.size
def lY (w w':World)(db cb rd rc:Nat):Prop:=w.heap.size≤w'.heap.size∧w'.os=w.os∧w'.tape=w.tape∧w'.output=w.output∧∀k,Safe w db cb rd rc k→w'.heap[k]?=w.heap[k]?
section
variable {w0 w w':World} {N vb db cb rv Rb rd rc:Nat} {s kb kt:ByteArray} {S S':Vs} {n m:Int} {v:Value}
end
end Vl
end
section
namespace Vl
open Go.RowKit
open Tw (Tb ae aY aU)
theorem nG (n:Int)(w:World)(hg:Et w):Calls Tryz.prog 10 #[ev n,.int .i64 n] w fun e w'=>e=.returned (.bool true)∧Since w w':=by
 by_cases h:n=0
 ·subst h;rw[uK];refine(SF w).mono ?_;rintro e w' ⟨rfl,rfl⟩;exact⟨rfl,Since.refl _⟩
 rw[pO n h];exact SG n w hg
section
variable {w0 w w':World} {N vb db cb rv Rb rd rc:Nat} {s kb kt:ByteArray} {S S':Vs} {n m:Int}
end
end Vl
end
section
namespace Vl
open Go.RowKit
open Tw (Tb ae aY aU)
structure BD (w0 w:World)(N db cb Rb rd rc:Nat)(D1 D2:Dv)(c:Int):Prop where
 ap:Apart N db cb Rb rd rc
 p:∃v,DC w0 w db cb D1 c v∧∀k,v.ownBlock=some k→N≤k
 r:Qf w0 w N Rb rd rc D2 c
 nN:N≤w.heap.size
section
variable {w0 w w':World} {N vb db cb rv Rb rd rc:Nat} {s kb kt:ByteArray} {S:Vs} {n c:Int} {D1 D2 D':Dv} {v v':Value}
theorem BD.since (h:BD w0 w N db cb Rb rd rc D1 D2 c):Since w0 w:=h.r.since
theorem BD.Zf (h:BD w0 w N db cb Rb rd rc D1 D2 c):D1.ok:=by
 obtain⟨v,hp,_⟩:=h.p;exact hp.dev.ok
theorem BD.go (h:BD w0 w N db cb Rb rd rc D1 D2 c)(hs:Since w w'):BD w0 w' N db cb Rb rd rc D1 D2 c:=by
 obtain⟨v,hp,hv⟩:=h.p;exact⟨h.ap,⟨v,hp.go hs,hv⟩,h.r.go hs,Nat.le_trans h.nN hs.size⟩
theorem BD.Ya (h:BD w0 w N db cb Rb rd rc D1 D2 c)(hp:DC w0 w db cb D1 c v)(hv:∀k,v.ownBlock=some k→N≤k)(hd:Dev w' db D' v')(hf:Fr db v.ownBlock w w')(hn:Nx w v.ownBlock v'.ownBlock):BD w0 w' N db cb Rb rd rc D' D2 c∧lY w w' db cb rd rc:=by
 have hF:Fs (fun k=>k=db∨k=cb∨v.ownBlock=some k) w w':=Fs.kU hf (Or.inl rfl) (fun k hk=>Or.inr (Or.inr hk));have hF2:Fs (fun k=>k=db∨v.ownBlock=some k) w w':=Fs.kU hf (Or.inl rfl) (fun k hk=>Or.inr hk);have hlc:=hp.iN.lt (by omega);have hs:Since w0 w':=hF.since hp.since (by
  rintro k (e | e | e)
  ·rw[e];exact hp.lo.1
  ·rw[e];exact hp.lo.2.1
  exact hp.lo.2.2 k e)
 refine⟨⟨h.ap,⟨v',⟨hd,rY hp.iN hF2 ?_,hp.ne,fun e=>?_,hs,hp.lo.1,hp.lo.2.1,fun k hk=>?_⟩,fun k hk=>?_⟩,h.r.fsP h.ap hv hp hF,Nat.le_trans h.nN hf.size⟩,⟨hf.size,hf.os,hf.tape,hf.output,fun k hk=>hk.fsD (nD hp.dev) hF⟩⟩
 ·rintro (e | e)
  ·exact hp.ne e.symm
  exact hp.own e
 ·rcases hn _ e with h1 | h1
  ·exact hp.own h1
  omega
 ·rcases hn k hk with h1 | h1
  ·exact hp.lo.2.2 k h1
  exact Nat.le_trans hp.since.size h1
 rcases hn k hk with h1 | h1
 ·exact hv k h1
 exact Nat.le_trans h.nN h1
theorem BD.VL {lv:Nat→Value}{av wv:Value}(h:BD w0 w N db cb Rb rd rc D1 D2 c)(hr':Ref w' rd N D' lv av wv)(hf:Fr rd none w w'):BD w0 w' N db cb Rb rd rc D1 D' c∧lY w w' db cb rd rc:=by
 obtain⟨v,hp,hv⟩:=h.p;have hlt:=h.ap.lt;have hpr:=h.ap.pr;have hne:=h.ap.ne;have hb:∀k,k<w.heap.size→k≠rd→w'.heap[k]?=w.heap[k]?:=fun k hk h1=>hf.block k hk h1 (by simp)
 have e2:=hb db hp.dev.lt (by omega);have e3:=hb cb (hp.iN.lt (by omega)) (by omega);have e4:=hb rc (h.r.iN.lt (by omega)) (by omega);have e5:=hb Rb (nK h.r.hh.1 (by omega)) (by omega);have hs:Since w0 w':=Below.trans (show Below w0.heap.size w0 w from h.since) ⟨hf.os,hf.tape,hf.output,hf.size,fun k hk=>hb k (Nat.lt_of_lt_of_le hk h.since.size) (by have:=h.r.lo;omega)⟩;have a8A:Dev w' db D1 v:=⟨eU hp.dev.aQ e2,by
  refine⟨hp.dev.own.1,?_⟩;rcases hp.dev.own.2 with hn | ⟨k,cap,cur,hvv,hbk,hk,rest⟩
  ·exact .inl hn
  have hkN:=hv k (by rw[hvv];rfl);exact .inr ⟨k,cap,cur,hvv,hbk,by rw[hb k (Array.getElem?_eq_some_iff.1 hk).1 (by omega)];exact hk,rest⟩,hp.dev.ne,hp.dev.ok⟩
 exact⟨⟨h.ap,⟨v,⟨a8A,eU hp.iN e3,hp.ne,hp.own,hs,hp.lo⟩,hv⟩,⟨⟨lv,av,wv,hr'⟩,eU h.r.iN e4,⟨jN h.r.hh.1 e5,jN h.r.hh.2 e5⟩,h.r.ne,hs,h.r.lo⟩,Nat.le_trans h.nN hf.size⟩,⟨hf.size,hf.os,hf.tape,hf.output,fun k hk=>hb k hk.lt hk.2.2.2.1⟩⟩
theorem UF (m:Int)(h:S.ok n):({ S with D:=S.D.nL m }:Vs).ok n:=h.dev _ rfl h.ws
end
end Vl
end
section
open Go.RowKit
end
section
open Go.RowKit
end
section
namespace Vl
open Go.RowKit
open Tw (Tb ae aY aU)
theorem uz (w:World)(a:Int)(t:TypeId)(k cap:Nat)(hk:k=w.heap.size) :
  (convert 159 9 (.slice (some ⟨k,0,none⟩) 1 cap)).run Tryz.prog (w.alloc (.cells #[.int .u8 a] t))=.ok (.string (strOfNums [a])) (w.alloc (.cells #[.int .u8 a] t)):=by
 subst hk;refine run_convert_bytes_arg _ 159 5 Tryz.underlying159 Tryz.underlying5 w.heap.size 0 1 cap [a] rfl (fun i hi=>?_) 9 Tryz.underlying9;have hi0:i=0:=by simp at hi;omega
 subst hi0;rw[World.cell?_alloc_new]
 rfl
theorem a0W (w:World)(a:Int)(t:TypeId)(k cap:Nat)(hk:k=w.heap.size) :
  (convert 159 9 (.slice (some ⟨k,0,none⟩) 1 cap)).run Tryz.prog (w.alloc (.cells #[.int .u8 a] t)).drew=.ok (.string (strOfNums [a])) (w.alloc (.cells #[.int .u8 a] t)).drew:=by
 subst hk;refine run_convert_bytes_arg _ 159 5 Tryz.underlying159 Tryz.underlying5 w.heap.size 0 1 cap [a] rfl (fun i hi=>?_) 9 Tryz.underlying9;have hi0:i=0:=by simp at hi;omega
 subst hi0;show (w.alloc (.cells #[.int .u8 a] t)).cell? _=_
 rw[World.cell?_alloc_new]
 rfl
attribute [local go_sem ↓] uz a0W strOfNums_size ByteArray.size_append
section
variable {w0 w w':World} {N db cb Rb rd rc:Nat} {c:Int} {D:Dv}
end
end Vl
end
section
namespace Vl
open Go.RowKit
open Tw (Tb ae aY aU)
section
variable {w0 w w':World} {N vb db cb rv Rb rd rc:Nat} {s kb kt:ByteArray} {S S':Vs} {n m c r:Int} {D:Dv} {a b:Value}
def St (w0 w:World)(N db cb Rb rd rc:Nat)(s kb kt:ByteArray)(n:Int)(a b:Value):Prop:=
 (∃vb rv S,a=.pointer (some ⟨rv,0,none⟩)∧b=.pointer (some ⟨vb,0,none⟩)∧Both w0 w N vb db cb rv Rb rd rc s kb kt S n)∨(a=.pointer none∧b=.pointer none∧∃D c,BD w0 w N db cb Rb rd rc D D c∧D.ws.length≤1∧0≤c∧c≤n)
theorem gM.one {r1 r2:Int}{S1 S2:Vs}(h1:gM kb kt S r1 S1)(h2:gM kb kt S r2 S2):r1=r2∧S1=S2:=by
 unfold gM at h1 h2
 grind
end
end Vl
end
section
namespace Vl
open Go.RowKit
open Tw (Tb ae aY aU)
section
variable {w0 w w':World} {N vb db cb rv Rb rd rc:Nat} {s:ByteArray} {S S':Vs} {n m c r:Int} {D:Dv} {a b v:Value}
theorem bg.fsD (A:Apart N db cb Rb rd rc)(hvN:∀k,v.ownBlock=some k→N≤k)(h:bg w0 w N rv Rb rd rc s S){D':Dv}{c':Int}(hp:DC w0 w db cb D' c' v)(hf:Fs (fun k=>k=db∨k=cb∨v.ownBlock=some k) w w'):bg w0 w' N rv Rb rd rc s S:=by
 have ho:=nD hp.dev;refine h.keep A (fun k hk h1 h2 h3=>hf.block k hk ?_) (hf.block rv h.ty.lt ?_) hf.size (hf.since h.since ?_)
 ·rintro (e | e | e)
  ·exact h1 e
  ·exact h2 e
  have:=hvN k e;rcases h3 with h3 | h3 | h3
  ·omega
  ·exact absurd ((ho k e).one h3) (by decide)
  exact absurd ((ho k e).one h3) (by decide)
 ·have:=A.lt;have:=h.ne;rintro (e | e | e)
  ·omega
  ·omega
  exact absurd ((ho _ e).one h.ty) (by decide)
 rintro k (e | e | e)
 ·rw[e];exact hp.lo.1
 ·rw[e];exact hp.lo.2.1
 exact hp.lo.2.2 k e
end
end Vl
end
end Go.Proofs.YtlgbfkcpdelcbaaGreatDoor
