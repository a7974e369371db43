import Derived.Deep.Cut
import Derived.Test.YtlgbfkcpdelcbaaGreatDoorJ40
set_option linter.unusedSimpArgs false
set_option linter.unusedVariables false
set_option maxHeartbeats 8000000
set_option maxRecDepth 100000
namespace Go.Proofs.YtlgbfkcpdelcbaaGreatDoor
namespace Sm.Sr
open Go.RowKit
attribute [local go_sem ↓] gQ eF iB iC lq iD iE iG dU eG cZ dG bu
theorem uz (w:World)(a:Int)(t:TypeId)(k cap:Nat)(hk:k=w.heap.size) :
  (convert 159 9 (.slice (some ⟨k,0,none⟩) 1 cap)).run Tryz.prog (w.alloc (.cells #[.int .u8 a] t))=.ok (.string (strOfNums [a])) (w.alloc (.cells #[.int .u8 a] t)):=by
 subst hk;refine run_convert_bytes_arg _ 159 5 Tryz.underlying159 Tryz.underlying5 w.heap.size 0 1 cap [a] rfl (fun i hi=>?_) 9 Tryz.underlying9;have hi0:i=0:=by simp at hi;omega
 subst hi0;rw[World.cell?_alloc_new]
 rfl
theorem fo (xs ys:List Int):strOfNums xs++strOfNums ys=strOfNums (xs++ys):=by
 apply ByteArray.ext
 simp[strOfNums,ByteArray.data_append]
theorem pW (G:Nat→BitVec 32)(i r:Nat)(hr:r<4):byteOf G (4*i+r)=(((G i).toNat / 2 ^ (8*r) % 256:Nat):Int):=by
 unfold byteOf CB;rw[show (4*i+r) / 4=i by omega,show (4*i+r) % 4=r by omega,BitVec.toNat_ushiftRight,Nat.shiftRight_eq_div_pow]
def oV (G:Nat→BitVec 32)(i:Nat):List Int:=(List.range (4*i)).map (byteOf G)
theorem yP (G:Nat→BitVec 32)(i:Nat):(oV G i).length=4*i:=by simp[oV]
theorem Ux (G:Nat→BitVec 32)(i:Nat):oV G (i+1)=oV G i++[byteOf G (4*i),byteOf G (4*i+1),byteOf G (4*i+2),byteOf G (4*i+3)]:=by
 unfold oV;rw[show 4*(i+1)=4*i+4 by omega,List.range_add,List.map_append]
 rfl
theorem XR (key ah:ByteArray)(n:Int)(w:World)(h:¬(key.size=32∧ah.size=12∧0≤n∧n<4294967296)) :
  Calls Tryz.prog 254 #[.string key,.int .i64 n,.string ah] w fun e w'=>e=.returned (.tuple #[.string ⟨#[]⟩,.int .i64 1])∧w'=w:=by
 by_cases h1:key.size=32
 ·by_cases h2:ah.size=12
  ·have hn:(decide (0≤n)&&decide (n≤4294967295))=false:=by
    rw[Bool.and_eq_false_iff];by_cases h3:0≤n
    ·right;simp;omega
    left;simp;omega
   go_enter Tryz.func254,Tryz.ntmps254
   go_wp2_with fail
   refine(fu _ _).mono ?_;rintro e w1 ⟨rfl,rfl⟩;rw[hn];go_wp2_with fail
   go_ret2;exact⟨rfl,rfl⟩
  have h2I:((ah.size:Int) != 12)=true:=by simp;omega
  go_enter Tryz.func254,Tryz.ntmps254
  go_wp2_with fail
  go_ret2;exact⟨rfl,rfl⟩
 have h1I:((key.size:Int) != 32)=true:=by simp;omega
 go_enter Tryz.func254,Tryz.ntmps254
 go_wp2_with fail
 go_ret2;exact⟨rfl,rfl⟩
attribute [local go_sem ↓] uz fo strOfNums_size
theorem sN (key ah:ByteArray)(n:Int)(w:World)(hk:key.size=32)(hnn:ah.size=12)(n0:0≤n)(n1:n<4294967296) :
  Calls Tryz.prog 254 #[.string key,.int .i64 n,.string ah] w fun e w'=>e=.returned (.tuple #[.string (strOfNums (iP key (BitVec.ofInt 32 n) ah)),.int .i64 0])∧Since w w':=by
 obtain⟨i0,hi,hz,hsz,hby⟩:∃i,Tryz.prog.info? 81=some i∧i.zero=some (.int .u32 0)∧i.size=1∧i.bytes=4:=⟨_,rfl,by kernel_rfl,by kernel_rfl,by kernel_rfl⟩
 have hn:(decide (0≤n)&&decide (n≤4294967295))=true:=by simp;omega
 have he:bC.size=16:=rfl;have hek:(bC++key).size=48:=by rw[ByteArray.size_append];omega
 go_enter Tryz.func254,Tryz.ntmps254
 go_wp2_with fail
 refine(fu _ _).mono ?_;rintro e w1 ⟨rfl,rfl⟩;rw[hn];go_wp2_with fail
 have ex:∀z:ByteArray,({ data:=#[101,120,112,97,110,100,32,51,50,45,98,121,116,101,32,107] }:ByteArray)++z=bC++z:=fun _=>rfl
 rw[ex];clear ex;generalize hE:bC++key=E at *;have HE:=(show Hid (bC++key=E) from hE)
 clear hE;refine(AV E _ (by omega)).mono ?_;rintro e w2 ⟨v2,rfl,hR2,hS2⟩;have e12:E.size / 4=12:=by omega
 rw[e12] at hR2;have HN:=(show Hid (dx key ah (BitVec.ofInt 32 n)=dx key ah (BitVec.ofInt 32 n)) from rfl)
 generalize hx:BitVec.ofInt 32 n=x at *;clear HN;have hrl:(row 12 (aC E)).length=12:=aB _ _;have il:(row 12 (aC E)).length+1≤maxLen:=by simp[maxLen,hrl]
 have hbb:((row 12 (aC E)).length+1)*4≤140737488355328:=by rw[hrl];omega
 have hbase:∀o,w1.heap.size≤(w2.alloc o).heap.size:=by intro o;have:=hS2.size;simp;omega
 go_wp2_with (at_builtin;refine wpList_append_lies _ (by rfl) _ _ 360 (by rfl) w1.heap.size 81 i0 (.int .u32 0) 1 4 Tryz.underlying360 hi hz hsz hby (by rfl) (by decide) v2 (row 12 (aC E)).length (row 12 (aC E)) (by rfl) (hR2.since ((Since.refl _).alloc _)) ⟨w2.heap.size,0,none⟩ 1 1 [U x] (by rfl) (by rfl) (mM _ _ _ _ rfl) (fun u hu=>by simp at hu;subst hu;rfl) (by decide) il hbb (hbase _) (w2.heap.size+1) (by simp) ?_;intro g3 cp3 w3 hown hgrow hat hlt3)
 have yZ:Row w3 w1.heap.size 81 (.slice (some ⟨g3,0,none⟩) 13 cp3) (row 12 (aC E)++[U x]):=by
  unfold Row;rw[List.length_append,hrl];rw[hrl] at hown;exact hown
 have bQ:Since w1 w3:=(hS2.alloc _).grown hgrow (fun k hk=>hR2.own k hk);clear hown hgrow hat hR2 il hbb hbase hS2;refine(AV ah _ (by omega)).mono ?_;rintro e w4 ⟨v4,rfl,OU,cz⟩;have e3:ah.size / 4=3:=by omega
 rw[e3] at OU;rcases OU.form with⟨_,h0⟩ | ⟨g4,cp4,hv4,a8l,a8m⟩
 ·exfalso;have:=congrArg List.length h0;simp[row] at this
 rw[aB] at hv4;subst hv4;have a0K:=yZ.since cz;have a0L:=bQ.trans cz;have Nk:(row 12 (aC E)++[U x]).length=13:=by simp[row]
 have hrl3:(row 3 (aC ah)).length=3:=aB _ _;have il:(row 12 (aC E)++[U x]).length+3≤maxLen:=by simp[maxLen,Nk]
 have hbb:((row 12 (aC E)++[U x]).length+3)*4≤140737488355328:=by rw[Nk];omega
 have hbase:=a0L.size;have hnews:∀j u,(row 3 (aC ah))[j]?=some u→w4.cell? ((⟨g4,0,none⟩:Addr).add j)=some u:=World.ownsRow.cells OU rfl;go_upto_region 5 with(at_builtin;refine wpList_append_lies _ (by rfl) _ _ 360 (by rfl) w1.heap.size 81 i0 (.int .u32 0) 1 4 Tryz.underlying360 hi hz hsz hby (by rfl) (by decide) (.slice (some ⟨g3,0,none⟩) 13 cp3) (row 12 (aC E)++[U x]).length (row 12 (aC E)++[U x]) (by rfl) a0K ⟨g4,0,none⟩ 3 cp4 (row 3 (aC ah)) (by rfl) (by rw[hrl3]) hnews (row_one _ _) (by decide) il hbb hbase w4.heap.size rfl ?_;intro g5 cp5 w5 hown hgrow hat a3Z)
 have VF:Row w5 w1.heap.size 81 (.slice (some ⟨g5,0,none⟩) 16 cp5) (row 16 (dx key ah x)):=by
  have e:row 12 (aC E)++[U x]++row 3 (aC ah)=row 16 (dx key ah x):=by rw[←HE.o];exact Uw key ah x
  unfold Row;rw[aB,←e];rw[Nk] at hown;exact hown
 have hS5:Since w1 w5:=a0L.grown hgrow (fun k hk=>a0K.own k hk);clear hown hgrow hat a0K il hbb hbase hnews Nk hrl3 yZ bQ OU cz a0L a8l a8m hlt3 hrl;generalize hf:dx key ah x=f at *;have HFl:=(show Hid (dx key ah x=f) from hf)
 clear hf;have YZ:(row 16 f).length=16:=aB _ _;have hnews:∀j u,(row 16 f)[j]?=some u→(w5.alloc (.cells #[] 81)).cell? ((⟨g5,0,none⟩:Addr).add j)=some u:=World.ownsRow.cells (VF.since ((Since.refl _).alloc _)) rfl;have hown0:(w5.alloc (.cells #[] 81)).ownsRow w5.heap.size 81 1 (.slice (some ⟨w5.heap.size,0,none⟩) 0 0) 0 []:=World.ownsRow_made w5 #[] 0 (Nat.le_refl _) (by simp[maxLen]) rfl;have il:0+16≤maxLen:=by simp[maxLen]
 have hbb:(0+16)*4≤140737488355328:=by omega
 have hbase:w5.heap.size≤(w5.alloc (.cells #[] 81)).heap.size:=by simp
 go_wp2_with (at_builtin;refine wpList_append_lies _ (by rfl) _ _ 360 (by rfl) w5.heap.size 81 i0 (.int .u32 0) 1 4 Tryz.underlying360 hi hz hsz hby (by rfl) (by decide) (.slice (some ⟨w5.heap.size,0,none⟩) 0 0) 0 [] (by rfl) hown0 ⟨g5,0,none⟩ 16 cp5 (row 16 f) (by rfl) (by rw[YZ]) hnews (row_one _ _) (by decide) il hbb hbase (w5.heap.size+1) (by simp) ?_;intro g6 cp6 w6 hown hgrow hat RG)
 have a0M:Since w5 w6:=((Since.refl w5).alloc _).grown hgrow (fun k hk=>by simp[Value.ownBlock] at hk;omega);have b4u:g5<w5.heap.size:=(VF.arr).lt (by omega);have hg6:w5.heap.size≤g6:=(World.ownsRow.lt hown g6 rfl).1;have tJ:aN w6 g6 0 16 f:=by
  refine Row.arr (B:=w5.heap.size) (e:=81) (cap:=cp6) ?_;unfold Row;rw[aB];exact hown
 have xB:aN w6 g5 0 16 f:=(VF.arr).since a0M;have gH:Since w1 w6:=hS5.trans a0M;have b4v:=hS5.size;clear hown hgrow hat hnews hown0 il hbb hbase VF YZ RG a0M hS5;clear hi hz hsz hby;go_loopw [43] (fun i wr=>∃k:Nat,k≤20∧i=.int .i64 k∧aN wr g6 0 16 (rr f k)∧aN wr g5 0 16 f∧Since w1 wr) (fun i _=>20-(intOf i).toNat)
 case atStart=>exact⟨0,by omega,rfl,tJ,xB,gH⟩
 clear tJ xB gH;obtain⟨k,b4w,rfl,tJ,xB,gH⟩:=hrel;by_cases hlt:k<20
 ·have Hrr:=(show Hid (rr f (k+1)=tq (k % 2) (rr f k)) from rfl)
  generalize rr f k=h at *;by_cases hp:k % 2=1
  ·have hpI:(k:Int) % 2=1:=by omega
   go_wp2_with fail
   go_loopw [46] (fun i wr=>∃m:Nat,m≤4∧i=.int .i64 m∧aN wr g6 0 16 (bK 1 h m)∧aN wr g5 0 16 f∧Since w1 wr) (fun i _=>4-(intOf i).toNat)
   case atStart=>exact⟨0,by omega,rfl,tJ.congr (fun j _=>rfl),xB,gH⟩
   clear tJ xB gH;obtain⟨m,hm,rfl,tJ,xB,gH⟩:=hrel;by_cases hm4:m<4
   ·have HA6:=(show Hid (aN wr g6 0 16 (bK 1 h m)) from tJ)
    have HA5:=(show Hid (aN wr g5 0 16 f) from xB)
    have iL:=(show Hid (Since w1 wr) from gH)
    clear tJ xB gH;go_wp2_with fail
    obtain⟨p1,hp1⟩:∃p1,p1=(m+1) % 4:=⟨_,rfl⟩
    obtain⟨p2,hp2⟩:∃p2,p2=(m+2) % 4:=⟨_,rfl⟩
    obtain⟨p3,hp3⟩:∃p3,p3=(m+3) % 4:=⟨_,rfl⟩
    have x1:((m:Int)+1) % 4=p1:=by omega
    have x2:((m:Int)+2) % 4=p2:=by omega
    have x3:((m:Int)+3) % 4=p3:=by omega
    have y1:(4:Int)+p1=((4+p1:Nat):Int):=by omega
    have y2:(8:Int)+p2=((8+p2:Nat):Int):=by omega
    have y3:(12:Int)+p3=((12+p3:Nat):Int):=by omega
    have HST:=(show Hid (∀j,j<16→mx (bK 1 h m) (m) (4+p1) (8+p2) (12+p3) 2 j=bK 1 h (m+1) j) from fun j hj=>by
     have h:=Nj 1 h (by omega) m hm4 j hj;rw[show (m+1) % 4=p1 by omega,show (m+2*1) % 4=p2 by omega,show (m+3*1) % 4=p3 by omega] at h;exact h)
    rw[x1,x2,x3,y1,y2,y3];refine(vK (bK 1 h m) g6 cp6 (m) (4+p1) (8+p2) (12+p3) _ (by omega) (by omega) (by omega) (by omega) (by omega) (by omega) (by omega) (by omega) (by omega) (by omega) (HA6.o.alloc _)).mono ?_;rintro e w7 ⟨rfl,VA,hF7⟩;have hA8:=VA.congr (fun j hj=>HST.o j hj);have a0O:=hF7.arr g5 0 16 f (by omega) (HA5.o.alloc _);have Ad:=hF7.since w1 (iL.o.alloc _) (by omega);clear VA hF7 HST;go_wp2_with fail
    refine⟨⟨m+1,by omega,by go_num,hA8,a0O,Ad⟩,by simp[intOf];omega⟩
   have hme:m=4:=by omega
   subst hme;go_wp2_with fail
   refine⟨⟨k+1,by omega,by go_num,?_,xB,gH⟩,by simp[intOf];omega⟩;rw[Hrr.o,show k % 2=1 by omega];exact tJ.congr (fun j _=>mr 1 h j)
  have hpI:(k:Int) % 2=0:=by omega
  go_wp2_with fail
  go_loopw [46] (fun i wr=>∃m:Nat,m≤4∧i=.int .i64 m∧aN wr g6 0 16 (bK 0 h m)∧aN wr g5 0 16 f∧Since w1 wr) (fun i _=>4-(intOf i).toNat)
  case atStart=>exact⟨0,by omega,rfl,tJ.congr (fun j _=>rfl),xB,gH⟩
  clear tJ xB gH;obtain⟨m,hm,rfl,tJ,xB,gH⟩:=hrel;by_cases hm4:m<4
  ·have HA6:=(show Hid (aN wr g6 0 16 (bK 0 h m)) from tJ)
   have HA5:=(show Hid (aN wr g5 0 16 f) from xB)
   have iL:=(show Hid (Since w1 wr) from gH)
   clear tJ xB gH;go_wp2_with fail
   have y1:(4:Int)+m=((4+m:Nat):Int):=by omega
   have y2:(8:Int)+m=((8+m:Nat):Int):=by omega
   have y3:(12:Int)+m=((12+m:Nat):Int):=by omega
   have HST:=(show Hid (∀j,j<16→mx (bK 0 h m) (m) (4+m) (8+m) (12+m) 2 j=bK 0 h (m+1) j) from fun j hj=>by
    have h:=Nj 0 h (by omega) m hm4 j hj;simp only[Nat.mul_zero,Nat.add_zero,Nat.mod_eq_of_lt hm4] at h;exact h)
   rw[y1,y2,y3];refine(vK (bK 0 h m) g6 cp6 (m) (4+m) (8+m) (12+m) _ (by omega) (by omega) (by omega) (by omega) (by omega) (by omega) (by omega) (by omega) (by omega) (by omega) (HA6.o.alloc _)).mono ?_;rintro e w7 ⟨rfl,VA,hF7⟩;have hA8:=VA.congr (fun j hj=>HST.o j hj);have a0O:=hF7.arr g5 0 16 f (by omega) (HA5.o.alloc _);have Ad:=hF7.since w1 (iL.o.alloc _) (by omega);clear VA hF7 HST;go_wp2_with fail
   refine⟨⟨m+1,by omega,by go_num,hA8,a0O,Ad⟩,by simp[intOf];omega⟩
  have hme:m=4:=by omega
  subst hme;go_wp2_with fail
  refine⟨⟨k+1,by omega,by go_num,?_,xB,gH⟩,by simp[intOf];omega⟩;rw[Hrr.o,show k % 2=0 by omega];exact tJ.congr (fun j _=>mr 0 h j)
 have hke:k=20:=by omega
 subst hke;have e20:rr f 20=tu f 10:=a0J f 10;rw[e20] at tJ;have HG:=(show Hid (∀j,mh f j=tu f 10 j+f j) from fun _=>rfl)
 generalize tu f 10=h at *;generalize hG:mh f=G at *;have HGe:=(show Hid (mh f=G) from hG)
 clear hG e20;go_wp2_with fail
 go_loopw [81,13] (fun i o wr=>∃m:Nat,m≤16∧i=.int .i64 m∧o=.string (strOfNums (oV G m))∧aN wr g6 0 16 h∧aN wr g5 0 16 f∧Since w1 wr) (fun i _ _=>16-(intOf i).toNat)
 case atStart=>exact⟨0,by omega,rfl,rfl,tJ,xB,gH⟩
 clear tJ xB gH;obtain⟨m,hm,rfl,rfl,tJ,xB,gH⟩:=hrel;by_cases b4z:m<16
 ·have c1:=tJ.cell m (by omega);have c2:=xB.cell m (by omega);rw[Nat.zero_add] at c1 c2;have HGm:=(show Hid (G m=h m+f m) from HG.o m)
  have HO:=(show Hid _ from Ux G m)
  have hlo:(strOfNums (oV G m)).size=4*m:=by rw[strOfNums_size,yP]
  have hlt:(oV G m).length=4*m:=yP G m;have HA6:=(show Hid (aN wr g6 0 16 h) from tJ)
  have HA5:=(show Hid (aN wr g5 0 16 f) from xB)
  have iL:=(show Hid (Since w1 wr) from gH)
  clear tJ xB gH;generalize hl:oV G m=l at *;go_wp2_with fail
  go_quiet (fail)
  go_upto_region 23 with fail
  generalize hwd:World.drewN wr _=wd;have hwS:Since wr wd:=by rw[←hwd];exact(Since.refl _).drewN _
  clear hwd c1 c2;generalize hv:h m+f m=v at *;have hU:U v=.int .u32 (v.toNat:Int):=rfl;rw[hU];clear hU;have hvl:(v.toNat:Int)<4294967296:=by have:=v.isLt;omega
  have hv0:(0:Int)≤v.toNat:=by omega
  generalize hX:(v.toNat:Int)=X at *;have HX:=(show Hid ((v.toNat:Int)=X) from hX)
  have HV:=(show Hid (h m+f m=v) from hv)
  clear hX hv;go_wp2_with fail
  refine wp_loop_rounds 5 ?_;iterate 5 (rw[rounds_succ];go_wp2_with fail)
  have hs4:∀o1 o2 o3 o4,Since wr ((((wd.alloc o1).alloc o2).alloc o3).alloc o4):=fun _ _ _ _=>(((hwS.alloc _).alloc _).alloc _).alloc _
  have e0:byteOf G (4*m)=X % 256:=by
   have h:=pW G m 0 (by omega);rw[Nat.add_zero,HGm.o,show (2:Nat) ^ (8*0)=1 by decide] at h;rw[h,←HX.o];omega
  have e1:byteOf G (4*m+1)=X / 256 % 256:=by
   have h:=pW G m 1 (by omega);rw[HGm.o,show (2:Nat) ^ (8*1)=256 by decide] at h;rw[h,←HX.o];omega
  have e2:byteOf G (4*m+2)=X / 256 / 256 % 256:=by
   have h:=pW G m 2 (by omega);rw[HGm.o,show (2:Nat) ^ (8*2)=65536 by decide] at h;rw[h,←HX.o];omega
  have e3:byteOf G (4*m+3)=X / 256 / 256 / 256 % 256:=by
   have h:=pW G m 3 (by omega);rw[HGm.o,show (2:Nat) ^ (8*3)=16777216 by decide] at h;rw[h,←HX.o];omega
  refine⟨⟨m+1,by omega,by go_num,?_,HA6.o.since (hs4 _ _ _ _),HA5.o.since (hs4 _ _ _ _),iL.o.trans (hs4 _ _ _ _)⟩,by simp[intOf];omega⟩;rw[HO.o,e0,e1,e2,e3]
 have hme:m=16:=by omega
 subst hme;have eB:iP key (BitVec.ofInt 32 n) ah=oV G 16:=by
  rw[hx];unfold iP;rw[HFl.o,HGe.o];rfl
 have HEB:=(show Hid _ from eB)
 clear eB;generalize oV G 16=l at *;go_wp2_with fail
 go_ret2;exact⟨by rw[HEB.o];rfl,gH⟩
end Sm.Sr
end Go.Proofs.YtlgbfkcpdelcbaaGreatDoor
