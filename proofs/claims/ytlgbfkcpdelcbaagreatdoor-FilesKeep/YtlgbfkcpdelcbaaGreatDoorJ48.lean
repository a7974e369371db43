import Derived.Test.YtlgbfkcpdelcbaaGreatDoorJ15
import Derived.Test.YtlgbfkcpdelcbaaGreatDoorJ46
import Derived.Test.YtlgbfkcpdelcbaaGreatDoorJ47
set_option linter.unusedSimpArgs false
set_option linter.unusedVariables false
set_option maxHeartbeats 8000000
set_option maxRecDepth 100000
namespace Go.Proofs.YtlgbfkcpdelcbaaGreatDoor
section
namespace Fl
open Go.RowKit Go.Sort Go.Shelf Go.Lib
open En (Fi fA Ints dF Row)
theorem a0Z:(Tryz.prog.info? 52).map (fun i=>i.desc)=some (.slice 129):=by kernel_rfl
theorem a1a:(Tryz.prog.info? 129).map (fun i=>(i.size,i.hasPointers,i.bytes))=some (3,true,48):=by kernel_rfl
theorem a5x {ie:TypeInfo}(n:Nat)(h2:2≤n)(ha:ie.hasPointers=true)(hb:ie.bytes=48):Lib.swapperK n ie 25=9:=by
 have c:(n==0)=false:=by simp;omega
 have d:(n==1)=false:=by simp;omega
 simp[Lib.swapperK,ha,hb,c,d]
theorem a5y {ie:TypeInfo}:Lib.swapperK 1 ie 25=2:=by simp[Lib.swapperK]
theorem Yd:Tryz.prog.funcs.findIdx? (fun f=>f.name== "internal/reflectlite"++ ".Swapper$"++toString 9)=some 179:=by kernel_rfl
theorem Ye:Tryz.prog.funcs.findIdx? (fun f=>f.name== "internal/reflectlite"++ ".Swapper$"++toString 2)=some 172:=by kernel_rfl
theorem Qj (bx blk c size:Nat)(W:World)(G:Nat→ByteArray)(hs:W.cell? ⟨bx,0,none⟩=some (.slice (some ⟨blk,0,none⟩) size c))(hc:∀t,t<size→W.cell? ⟨blk,t*3,none⟩=some (.string (G t)))(i j:Nat)(hi:i<size)(hj:j<size)(hsz:size<4611686018427387904) :
  Calls Tryz.prog 56 #[.int .i64 i,.int .i64 j,.pointer (some ⟨bx,0,none⟩)] W fun e w'=>e=.returned (.bool (Op.bytesLess (G i).toList (G j).toList))∧∃q,w'=W.drewN q:=by
 have ci:=hc i hi;have cj:=hc j hj;have hi2:(i:Int)<size:=by omega
 have hj2:(j:Int)<size:=by omega
 clear hc;go_enter Tryz.func56,Tryz.ntmps56
 go_wp2_with fail
 go_quiet (fail)
 go_wp2_with fail
 go_ret;exact⟨rfl,nq,rfl⟩
theorem Cn:∀args w,(callFunc 56 args).run Tryz.prog w=.ok (.enter 56 args) w:=enters_of Tryz.func56 (by kernel_rfl) rfl
theorem Qk (bx blk cap:Nat)(d:Array Fv)(w:World)(hs:w.cell? ⟨bx,0,none⟩=some (.slice (some ⟨blk,0,none⟩) d.size cap))(hne:bx≠blk)(hH:HoldsK gz 3 w blk 0 d)(hblk:blk<w.heap.size)(h1:1≤d.size)(h12:d.size≤12) :
  Calls Tryz.prog 55 #[.iface 52 (.slice (some ⟨blk,0,none⟩) d.size cap),.func (.func 56) #[] #[.pointer (some ⟨bx,0,none⟩)]] w fun e w'=>e=.returned (.tuple #[])∧∃d':Array Fv,d'.size=d.size∧d'.toList.Perm d.toList∧SortedIn (ltOf JH) 0 d.size d'∧HoldsK gz 3 w' blk 0 d'∧Vl.Fs (fun k=>k=blk) w w':=by
 obtain⟨i,hi,hd⟩:∃i,Tryz.prog.info? 52=some i∧i.desc=.slice 129:=by
  have h:=a0Z;cases e:Tryz.prog.info? 52 with
  | none=>rw[e] at h;cases h
  | some i=>rw[e] at h;exact⟨i,rfl,by simpa using h⟩
 obtain⟨ie,hie,hz,hp,hb⟩:∃i,Tryz.prog.info? 129=some i∧i.size=3∧i.hasPointers=true∧i.bytes=48:=by
  have h:=a1a;cases e:Tryz.prog.info? 129 with
  | none=>rw[e] at h;cases h
  | some i=>rw[e] at h;simp at h;exact⟨i,rfl,h.1,h.2.1,h.2.2⟩
 have hbx:bx<w.heap.size:=World.block_lt_of_cell? w _ hs;by_cases h2:2≤d.size
 ·have hless:LessReadsK Tryz.prog 56 #[.pointer (some ⟨bx,0,none⟩)] gz 3 (ltOf JH) blk 0 d.size w:=by
   intro m os dk hsz i j hi hj;have e:sortWorldK gz 3 w blk 0 m dk os=putRowK gz 3 (grow (Sort.ahead w m) os) blk 0 dk:=by
    unfold sortWorldK;rw[putRowK_grow _ _ (Sort.ahead w m) _ blk 0 _ hblk]
   have hHg:HoldsK gz 3 (grow (Sort.ahead w m) os) blk 0 d:=holdsK_grow _ _ _ _ blk 0 d hblk (holdsK_ahead _ _ _ _ _ _ _ hH);have hr:=Qj bx blk cap d.size (sortWorldK gz 3 w blk 0 m dk os) (fun t=>dk[t]!.1) (by
    rw[e,cell?_putRowK_other _ _ _ blk 0 dk _ (by show bx≠blk;omega),cell?_grow _ _ _ (by show bx<w.heap.size;omega)];exact hs) (fun t ht=>by
    rw[e];have:=((holdsK_putRowK _ _ _ blk 0 d dk hHg hsz).cell (i:=t) (c:=0) (by omega) (by omega)).1
    simpa [gz] using this) i j hi hj (by omega)
   rw[ltF];rw[bytesLess_eq] at hr;exact hr
  have hS:=Any.sort_Slice_small_cells_sorted Tryz.Nq 52 129 i ie hi hd (by kernel_rfl) hie 25 (fun _=>by kernel_rfl) gz 3 (fun _=>rfl) hz (fun _=>by kernel_rfl)
   (fun x v hv=>by simp[gz] at hv;rcases hv with rfl | rfl | rfl<;>rfl) (ltOf JH) a4M 56 _
   Cn blk 0 cap d h2 h12 179 (by rw[a5x _ h2 hp hb];exact Yd) false
   (fun args W=>run_callFunc_extern Tryz.func179 (by kernel_rfl) (by kernel_rfl) (by kernel_rfl) (e:=Extern.ReflectliteSwapper.swap false) (by kernel_rfl) args W) w hless hH hblk
  change Calls Tryz.prog 55 _ _ _ at hS
  refine hS.mono ?_;rintro e w' ⟨he,d',n,os,hp,hs,rfl⟩;refine⟨he,d',hp.1,?_,hs,?_,MX w blk 0 n d' os⟩
  ·have:=hp.2.2;rw[←hp.1] at this;rw[Array.extract_size,hp.1,Array.extract_size] at this;exact this
  exact holdsK_grow gz 3 _ os blk 0 d' (by simpa [putRowK,putRow,mapBlock,Sort.ahead] using hblk) (holdsK_putRowK gz 3 _ blk 0 d d' (holdsK_ahead gz 3 w n blk 0 d hH) hp.1)
 have h0:d.size=1:=by omega
 have hS:=Any.sort_Slice_tiny Tryz.Nq 52 129 i ie hi hd (by kernel_rfl) hie 25 (fun _=>by kernel_rfl) (some ⟨blk,0,none⟩) d.size cap (by omega) 172 (by rw[h0,a5y];exact Ye) (.func 56) #[] #[.pointer (some ⟨bx,0,none⟩)] w;change Calls Tryz.prog 55 _ _ _ at hS
 refine hS.mono ?_;rintro e w' ⟨he,os,rfl⟩;refine⟨he,d,rfl,List.Perm.refl _,?_,holdsK_grow gz 3 _ os blk 0 d hblk hH,?_⟩
 ·intro i j
  intros
  omega
 exact⟨rfl,rfl,rfl,by simp[grow],fun k hk _=>by rw[heap_grow_old _ _ hk]⟩
end Fl
end
section
namespace Fl
open Go.RowKit Go.Sort Go.Shelf
open En (Fi fA Ints dF Row aI bD need bV)
open Vl
section
variable {w0 w w':World} {N rf rv Rb rd rc:Nat} {s kb kt:ByteArray} {S S':Vs} {lv:Value} {d d0:List Fv} {l l0:List Fi}
theorem iW.lt (h:iW w0 w N rf rv Rb rd rc s S lv d l):∀k,RP rf rv rd rc k→k<w.heap.size:=by
 have hfl:rf<w.heap.size:=World.block_lt_of_cell? w _ h.c0;have hv1:=h.dO.ty.lt;have hv2:rd<w.heap.size:=by
  obtain⟨zv,av,wv,hr⟩:=h.dO.sV;exact hr.aQ.lt (by omega)
 have hv3:=h.dO.iN.lt (by omega);intro k hk;unfold RP at hk;omega
theorem bg.fsT {P:Nat→Prop}(h:bg w0 w N rv Rb rd rc s S)(hf:Vl.Fs P w w')(h0:∀k,P k→w0.heap.size≤k)(hne:¬P rv∧¬P rd∧¬P rc∧¬P Rb)(hT:∀k,P k→∀t,Ty w k t→t≠3∧t≠9):bg w0 w' N rv Rb rd rc s S:=by
 obtain⟨zv,av,wv,hr⟩:=h.sV;have hlt:rd<w.heap.size:=hr.aQ.lt (by omega);have e1:=hf.block rv h.ty.lt hne.1;have e2:=hf.block rc (h.iN.lt (by omega)) hne.2.2.1;have e3:=hf.block Rb (nK h.hh.1 (by omega)) hne.2.2.2;have e4:=hf.block rd hlt hne.2.1;have hb:∀{e sz n:Nat} {v:Value} {xs:List Value},w.ownsRow N e sz v n xs→(e=3∨e=9)→∀g,v.ownBlock=some g→¬P g:=fun ho he g hg hp=>by
  have:=hT g hp _ (Ty.own ho hg);rcases he with rfl | rfl
  ·exact this.1 rfl
  exact this.2 rfl
 refine⟨eU h.aQ e1,⟨zv,av,wv,⟨eU hr.aQ e4,fun z hz=>xE (hr.row z hz) hf (hb (hr.row z hz) (.inr rfl)),xE hr.at_ hf (hb hr.at_ (.inl rfl)),xE hr.what hf (hb hr.what (.inr rfl)),hr.apart,hr.lt,Nat.le_trans hr.le hf.size⟩⟩,eU h.iN e2,⟨jN h.hh.1 e3,jN h.hh.2 e3⟩,h.ty.blk e1,h.ne,?_,h.lo⟩;exact Below.trans (show Below w0.heap.size w0 w from h.since) ⟨hf.os,hf.tape,hf.output,hf.size,fun k hk=>hf.block k (Nat.lt_of_lt_of_le hk h.since.size) (fun hp=>by have:=h0 k hp;omega)⟩
theorem iW.fsT {P:Nat→Prop}(h:iW w0 w N rf rv Rb rd rc s S lv d l)(hf:Vl.Fs P w w')(hN:∀k,P k→w0.heap.size≤k∧¬RP rf rv rd rc k∧k≠Rb)(hT:∀k,P k→∀t,Ty w k t→t≠3∧t≠9)(hb:∀k o n c,lv=.slice (some ⟨k,o,none⟩) n c→¬P k)(he:∀(j:Nat) (x:Fv),d[j]?=some x→∀k o,x.2.2.1=some ⟨k,o,none⟩→¬P k):iW w0 w' N rf rv Rb rd rc s S lv d l:=by
 have hfl:rf<w.heap.size:=World.block_lt_of_cell? w _ h.c0;have hfp:¬P rf:=fun hp=>(hN rf hp).2.1 (.inl rfl)
 refine⟨bg.fsT h.dO hf (fun k hp=>(hN k hp).1) ⟨fun hp=>(hN rv hp).2.1 (.inr (.inl rfl)),fun hp=>(hN rd hp).2.1 (.inr (.inr (.inl rfl))),fun hp=>(hN rc hp).2.1 (.inr (.inr (.inr rfl))),fun hp=>(hN Rb hp).2.2 rfl⟩ hT,(hf.cell hfl hfp).trans h.c0,(hf.cell hfl hfp).trans h.c1,(hf.frozen hfl hfp).trans h.fz,h.lo,h.Kk,h.ty.blk (hf.block rf hfl hfp),h.sr.fs hf (fun k o n c e=>⟨(h.blk k o n c e).1,hb k o n c e⟩),fun k o n c e=>⟨Nat.lt_of_lt_of_le (h.blk k o n c e).1 hf.size,(h.blk k o n c e).2⟩,⟨h.each.len,fun j f x hj hx=>?_⟩⟩;obtain⟨h1,h2,h3,h4⟩:=h.each.each j f x hj hx;exact⟨h1,h2,iV h3 hf (fun k o e=>⟨(h4 k o e).1,he j x hx k o e⟩),fun k o e=>⟨Nat.lt_of_lt_of_le (h4 k o e).1 hf.size,(h4 k o e).2⟩⟩
end
end Fl
end
section
namespace Fl
open Go.RowKit Go.Sort Go.Shelf
open En (Fi fA Ints dF Row aI bD need bV)
open Vl
section
variable {w0 w2 w7 w9 AX:World} {N rf rv Rb rd rc:Nat} {s kb kt:ByteArray} {S S1:Vs} {lv:Value} {d:List Fv} {l:List Fi}
theorem UJ (F2:iW w0 w2 N rf rv Rb rd rc s S lv d l)(F7:iW w0 w7 N rf rv Rb rd rc s S1 lv d l)(z t:ByteArray){a4 a5:Option Addr}{m c4 k c5 bx:Nat}(ER:∀r,(Value.slice a4 m c4).ownBlock=some r→w2.heap.size≤r∧r<bx)(JO:w7.ownsRow w2.heap.size 129 3 (.slice a4 m c4) (d.filter (ay z)).length (aD (d.filter (ay z))))(hbx:w2.heap.size≤bx∧bx<w7.heap.size)(hty:Ty w7 bx 52)(hin:Ints w7 (.slice a5 k c5) (aF l z t))(EU:∀k' o,a5=some ⟨k',o,none⟩→bx<k'∧k'<w7.heap.size){g cap:Nat}(hown:w9.ownsRow w2.heap.size 129 3 (.slice (some ⟨g,0,none⟩) ((d.filter (ay z)).length+1) cap) ((d.filter (ay z)).length+1) (aD (d.filter (ay z))++[.string z,.int .i64 t.size,.slice a5 k c5]))(hgrow:(w7.alloc (.cells #[.string z,.int .i64 t.size,.slice a5 k c5] 129)).drew.grownBy w9 (Value.slice a4 m c4).ownBlock)(hat:(Value.slice a4 m c4).ownBlock=some g∨w7.heap.size<g)(v:Value) :
  iW w0 (w9.setCell ⟨bx,0,none⟩ v) N rf rv Rb rd rc s S1 lv d l∧g≠bx∧g<(w9.setCell ⟨bx,0,none⟩ v).heap.size∧w2.heap.size≤g∧
   HoldsK gz 3 (w9.setCell ⟨bx,0,none⟩ v) g 0 (d.filter (ay z)++[(z,(t.size:Int),a5,k,c5)]).toArray∧(d.filter (ay z)).length+1≤cap∧Ty (w9.setCell ⟨bx,0,none⟩ v) g 129∧
   Each (fun r=>r=g∨RP rf rv rd rc r) (w9.setCell ⟨bx,0,none⟩ v) (d.filter (ay z)++[(z,(t.size:Int),a5,k,c5)]) (aO l z++[vI l z t])∧
   Vl.Fs (fun r=>w2.heap.size≤r) w7 (w9.setCell ⟨bx,0,none⟩ v):=by
 have hlt:=F2.lt;have hRb:Rb<w2.heap.size:=nK F2.dO.hh.1 (by omega);have hw0:=F2.dO.since.size;have hdi:∀(j:Nat) (x:Fv),d[j]?=some x→∀k o,x.2.2.1=some ⟨k,o,none⟩→k<w2.heap.size:=fun j x hx k o e=>by
  have hj:j<l.length:=by rw[F2.each.len];exact(List.getElem?_eq_some_iff.1 hx).1
  exact((F2.each.each j l[j] x (List.getElem?_eq_getElem hj) hx).2.2.2 k o e).1
 have hs7:Since w7 (w7.alloc (.cells #[.string z,.int .i64 t.size,.slice a5 k c5] 129)).drew:=((Since.refl w7).alloc _).drew;have hsz:w7.heap.size+1≤w9.heap.size:=by
  have:=hgrow.size
  simpa using this
 have hgb:g≠bx:=by
  rcases hat with hat | hat
  ·have:=ER g hat;omega
  omega
 have hg2:w2.heap.size≤g:=by
  rcases hat with hat | hat
  ·exact(ER g hat).1
  omega
 have hfr:Vl.Fs (fun r=>(Value.slice a4 m c4).ownBlock=some r) (w7.alloc (.cells #[.string z,.int .i64 t.size,.slice a5 k c5] 129)).drew w9:=by
  obtain⟨g1,g2,g3,g4,g5⟩:=hgrow;exact⟨g1,g2,g3,g4,fun r hr hn=>g5 r hr (fun e=>hn e.symm)⟩
 have hst:Vl.Fs (fun r=>r=bx) w9 (w9.setCell ⟨bx,0,none⟩ v):=⟨rfl,rfl,rfl,by simp,fun k _ hk=>heap_setCell_other w9 ⟨bx,0,none⟩ k _ (fun e=>hk e)⟩
 have hF:Vl.Fs (fun r=>(Value.slice a4 m c4).ownBlock=some r∨r=bx) w7 (w9.setCell ⟨bx,0,none⟩ v):=((Vl.Fs.ag hs7).trans (bH hfr (fun r e=>.inl e))).trans (bH hst (fun r e=>.inr e));have hP:∀r,(Value.slice a4 m c4).ownBlock=some r∨r=bx→w2.heap.size≤r:=fun r hr=>by
  rcases hr with hr | hr
  ·exact(ER r hr).1
  omega
 have hFA:iW w0 (w9.setCell ⟨bx,0,none⟩ v) N rf rv Rb rd rc s S1 lv d l:=F7.fsT hF (fun r hr=>by
   have:=hP r hr;exact⟨by omega,fun h'=>by have:=hlt r h';omega,by omega⟩) (fun r hr u hu=>by
   rcases hr with hr | rfl
   ·rw[hu.one (Ty.own JO hr)];decide
   rw[hu.one hty];decide) (fun k o n c e hr=>by have:=hP k hr;have:=(F2.blk k o n c e).1;omega) (fun j x hx k o e hr=>by have:=hP k hr;have:=hdi j x hx k o e;omega)
 have hgl:g<(w9.setCell ⟨bx,0,none⟩ v).heap.size:=by simpa using (hown.lt g rfl).2
 have Zg:(w9.setCell ⟨bx,0,none⟩ v).ownsRow w2.heap.size 129 3 (.slice (some ⟨g,0,none⟩) ((d.filter (ay z)).length+1) cap) ((d.filter (ay z)).length+1) (aD (d.filter (ay z))++[.string z,.int .i64 t.size,.slice a5 k c5]):=xE hown hst (fun r hr=>by
  simp only[Value.ownBlock,Option.some.injEq] at hr;omega)
 have hcap:(d.filter (ay z)).length+1≤cap:=by
  rcases hown.2 with⟨h',_⟩ | ⟨g',cap',cur,h',_,_,hnc,_⟩
  ·simp at h'
  simp only[Value.slice.injEq,Option.some.injEq,Addr.mk.injEq,and_true,true_and] at h';omega
 refine⟨hFA,hgb,hgl,hg2,?_,hcap,Ty.own Zg rfl,?_,bH hF hP⟩
 ·refine AP (base:=w2.heap.size) (cap:=cap) ?_;rw[jF,List.length_append];exact Zg
 refine Each.append ⟨rfl,rfl,?_,fun k' o e=>?_⟩ ?_
 ·exact iV hin hF (fun k' o e=>⟨(EU k' o e).2,fun hr=>by
   have:=EU k' o e;rcases hr with hr | hr
   ·have:=(ER k' hr).2;omega
   omega⟩)
 ·have h1:=EU k' o e;refine⟨Nat.lt_of_lt_of_le h1.2 hF.size,fun h'=>?_⟩;rcases h' with h' | h'
  ·rcases hat with hat | hat
   ·have:=(ER g hat).2;omega
   omega
  have:=hlt k' h';omega
 have hE7:Each (fun r=>w2.heap.size≤r∨RP rf rv rd rc r) w7 (d.filter (ay z)) (aO l z):=by
  have h:=F7.each.filter z;refine⟨h.len,fun j f x hj hx=>?_⟩;obtain⟨h1,h2,h3,h4⟩:=h.each j f x hj hx;refine⟨h1,h2,h3,fun k o e=>⟨(h4 k o e).1,fun hp=>?_⟩⟩;rcases hp with hp | hp
  ·have hm:=(List.mem_filter.1 (List.mem_of_getElem? hx)).1;obtain⟨j',hj',e'⟩:=List.getElem_of_mem hm;have:=hdi j' x (by rw[←e'];exact List.getElem?_eq_getElem hj') k o e;omega
  exact(h4 k o e).2 hp
 refine hE7.fs (P':=fun r=>r=g∨RP rf rv rd rc r) (bH hF (fun r hr=>.inl (hP r hr))) (fun r hr hn h'=>?_);rcases h' with h' | h'
 ·exact hn (.inl (by omega))
 exact hn (.inr h')
theorem Fx {wA:World}(F2:iW w0 w2 N rf rv Rb rd rc s S lv d l)(FA:iW w0 wA N rf rv Rb rd rc s S1 lv d l){g cap m:Nat}{D:List Fv}{L:List Fi}(hg:w2.heap.size≤g∧g<wA.heap.size)(hH:HoldsK gz 3 wA g 0 D.toArray)(hty:Ty wA g 129)(hcap:m≤cap)(hm:D.length=m)(he:Each (fun r=>r=g∨RP rf rv rd rc r) wA D L){d':Array Fv}(hd1:d'.size=m)(hd2:d'.toList.Perm D)(hd3:SortedIn (ltOf JH) 0 m d')(hd4:HoldsK gz 3 AX g 0 d')(hf:Vl.Fs (fun k=>k=g) wA AX) :
  ∃l',L.Perm l'∧pY l'∧Sr AX (.slice (some ⟨g,0,none⟩) m cap) d'.toList∧(∀k o n c,Value.slice (some ⟨g,0,none⟩) m cap=.slice (some ⟨k,o,none⟩) n c→k<AX.heap.size∧¬RP rf rv rd rc k)∧Each (RP rf rv rd rc) AX d'.toList l'∧iW w0 AX N rf rv Rb rd rc s S1 lv d l:=by
 have hlt:=F2.lt;have hRb:Rb<w2.heap.size:=nK F2.dO.hh.1 (by omega);have hw0:=F2.dO.since.size;obtain⟨l',hp,he'⟩:=Each.perm hd2.symm he;have heA:Each (RP rf rv rd rc) AX d'.toList l':=he'.fs (P':=RP rf rv rd rc) (bH hf (fun r e=>.inl e)) (fun r _ hn h'=>hn (.inr h'));refine⟨l',hp,MZ (by rw[hd1];exact hd3) heA,?_,fun k o n c e=>?_,heA,?_⟩
 ·have:=EQ hd4 (cap:=cap) (by omega);rw[hd1] at this;exact this
 ·simp only[Value.slice.injEq,Option.some.injEq,Addr.mk.injEq] at e;obtain⟨⟨rfl,_⟩,_⟩:=e;exact⟨Nat.lt_of_lt_of_le hg.2 hf.size,fun h'=>by have:=hlt g h';omega⟩
 refine FA.fsT hf (fun k e=>?_) (fun k e u hu=>?_) (fun k o n c e hk=>?_) (fun j x hx k o e hk=>?_)
 ·subst e;exact⟨by omega,fun h'=>by have:=hlt k h';omega,by omega⟩
 ·subst e;rw[hu.one hty];decide
 ·have:=(F2.blk k o n c e).1;omega
 have hj:j<l.length:=by rw[F2.each.len];exact(List.getElem?_eq_some_iff.1 hx).1
 have:=((F2.each.each j l[j] x (List.getElem?_eq_getElem hj) hx).2.2.2 k o e).1;omega
end
end Fl
end
section
namespace Fl
open Go.RowKit Go.Sort Go.Shelf
open En (Fi fA Ints dF Row aI bD need bV)
open Vl
section
variable {w0 w w':World} {N rf rv Rb rd rc:Nat} {s kb kt:ByteArray} {S S':Vs} {lv:Value} {d d0:List Fv} {l l0:List Fi}
theorem kI (B:ja Rb s kb kt)(LB:En.Lb w0)(n:Int)(ho:S.ok n)(hn:n+2000<900000000)(hok:S.D.ok)(h:iW w0 w N rf rv Rb rd rc s S lv d l)(hr:En.right l=true)(z t:ByteArray)(hz:z.size≤100000)(ht:t.size≤100000) :
  Calls Tryz.prog 12 #[.pointer (some ⟨rf,0,none⟩),.string z,.string t] w fun e w'=>
   (aI z.data.toList=false∧e=.returned (.int .i64 5)∧Since w w')∨(aI z.data.toList=true∧gL l z t=true∧e=.returned (.int .i64 12)∧Since w w')∨
   (aI z.data.toList=true∧gL l z t=false∧(iO kb kt (aF l z t) t S).2.ok (n+(aF l z t).length)∧(iO kb kt (aF l z t) t S).2.D.ok∧
    ((iO kb kt (aF l z t) t S).1≠0→e=.returned (.int .i64 (iO kb kt (aF l z t) t S).1)∧iW w0 w' N rf rv Rb rd rc s (iO kb kt (aF l z t) t S).2 lv d l)∧
    ((iO kb kt (aF l z t) t S).1=0→∃l' d' dK,(aO l z++[vI l z t]).Perm l'∧pY l'∧e=.returned (.int .i64 (bq kb kt l' (iO kb kt (aF l z t) t S).2).1)∧(bq kb kt l' (iO kb kt (aF l z t) t S).2).2.ok (n+(aF l z t).length+3)∧(bq kb kt l' (iO kb kt (aF l z t) t S).2).2.D.ok∧
     ((bq kb kt l' (iO kb kt (aF l z t) t S).2).1=0→iW w0 w' N rf rv Rb rd rc s (bq kb kt l' (iO kb kt (aF l z t) t S).2).2 dK d' l'∧Nl w lv d dK d')∧((bq kb kt l' (iO kb kt (aF l z t) t S).2).1≠0→iW w0 w' N rf rv Rb rd rc s (bq kb kt l' (iO kb kt (aF l z t) t S).2).2 lv d l))∧
    Vl.Fs (RP rf rv rd rc) w w'):=by
 have Cw:l.length≤8:=((aZ l).1 hr).1.len;have hdl:=h.each.len;have HF:=hid h;have QC:=hid h.lt;have HR:=hid (an hr (an Cw (an hz ht)));have HO:=hid (an ho (an hn hok));have HB0:=hid (an B LB);have HWI:Hid (Calls Tryz.prog 51 #[.pointer (some ⟨rf,0,none⟩),.string z] w fun e w'=>∃v',e=.returned v'∧w'.ownsRow w.heap.size 129 3 v' (d.filter (ay z)).length (aD (d.filter (ay z)))∧Since w w'):=sQ w rf _ d z h.c1 h.sr (fun k o n c e=>(h.blk k o n c e).1) (by omega);have HNM:=hid (En.Az z hz w);clear h hr ho hn Cw hdl hz ht hok B LB;go_enter Tryz.func12,Tryz.ntmps12
 go_wp2_with fail
 refine HNM.o.mono ?_;rintro e w2 ⟨rfl,hw2⟩;subst hw2;cases hB:aI z.data.toList with
 | false=>
  have HB:=hid hB;clear hB;go_wp2_with fail
  go_ret;exact Or.inl ⟨HB.o,rfl,Since.refl _⟩
 | true=>
  have HB:=hid hB;clear hB;go_wp2_with fail
  refine HWI.o.mono ?_;rintro e w4 ⟨v4,rfl,ER,hs4⟩;obtain⟨g1,g2,g3⟩:=HF.o.kept hs4 z ER;have sJ:fA w4 v4 (aO l z):=Kl g1 (fun k o n c e=>(g2 k o n c e).1) g3;have hrb:En.right (aO l z)=true:=ut HR.o.1 z;obtain⟨a4,c4,rfl⟩:∃a c,v4=.slice a (aO l z).length c:=by
   obtain⟨a,c,h1,_⟩:=sJ;exact⟨a,c,h1⟩
  have Qz:Hid (∀W,Since w4 W→Calls Tryz.prog 52 #[.slice a4 (aO l z).length c4] W fun e w'=>∃x,e=.returned x∧w'.ownsRow W.heap.size 3 1 x (bD (aO l z)).length (bV (bD (aO l z)))∧Since W w'):=fun W hW=>En.jZ _ _ W (sJ.since hW) hrb
  have H4:=hid (an ER hs4);clear ER hs4 sJ hrb g1 g2 g3;go_upto_region 4 with fail
  generalize hW5:w4.alloc (.cells #[.slice a4 (aO l z).length c4] 52)=w5;have hS5:Since w4 w5:=by rw[←hW5];exact(Since.refl _).alloc _
  have hbl:w4.heap.size<w5.heap.size:=by rw[←hW5];simp
  have b5:w5.cell? ⟨w4.heap.size,0,none⟩=some (.slice a4 (aO l z).length c4):=by rw[←hW5];simp
  have f5:w5.frozen? ⟨w4.heap.size,0,none⟩=false:=by rw[←hW5];simp
  have HTY:Hid (Ty w5 w4.heap.size 52):=by rw[←hW5];exact Ty.new w4 _ _
  have jm:=hid (an hS5 (an hbl (an b5 f5)));clear hW5 hS5 hbl f5;go_wp2_with fail
  refine(Qz.o w5 jm.o.1).mono ?_;rintro e w6 ⟨x,rfl,OV,hs5⟩;clear b5;obtain⟨a5,c5,rfl⟩:∃a c,x=.slice a (bD (aO l z)).length c:=by
   rcases OV.2 with⟨h',h0⟩ | ⟨g,cap,cur,h',_⟩
   ·exact⟨none,0,by rw[h',h0]⟩
   exact⟨_,_,h'⟩
  have H5:=hid (an OV hs5);have b6:=(hs5.cell (p:=⟨w4.heap.size,0,none⟩) jm.o.2.1).trans jm.o.2.2.1;have iL:Hid (Since w2 w6):=(H4.o.2.trans jm.o.1).trans hs5;clear OV hs5;go_wp2_with fail
  refine(En.Ay (t.size:Int) (by have:=HR.o.2.2.2;omega) _).mono ?_;rintro e w6' ⟨rfl,hw6⟩;subst hw6;obtain⟨k,hk⟩:∃k:Nat,need t.size=k:=⟨(need t.size).toNat,by have:=oP t.size;omega⟩
  rw[hk];have HK:=hid hk;clear hk;by_cases h8:8≤(aO l z).length
  ·have h8i:(8:Int)≤((aO l z).length:Int):=by omega
   have hfu:gL l z t=true:=by unfold gL;rw[decide_eq_true h8];rfl
   have JN:=hid hfu;clear hfu h8;go_wp2_with fail
   go_ret;exact Or.inr (Or.inl ⟨HB.o,JN.o,rfl,iL.o⟩)
  have h8i:¬(8:Int)≤((aO l z).length:Int):=by omega
  by_cases hf:(bD (aO l z)).length<k
  ·have hfi:((bD (aO l z)).length:Int)<(k:Int):=by omega
   have hfu:gL l z t=true:=by unfold gL;rw[HK.o,decide_eq_true hfi,Bool.or_true]
   have JN:=hid hfu;clear hfu h8 hf;go_wp2_with fail
   go_ret;exact Or.inr (Or.inl ⟨HB.o,JN.o,rfl,iL.o⟩)
  have hfi:¬((bD (aO l z)).length:Int)<(k:Int):=by omega
  have hfu:gL l z t=false:=by unfold gL;rw[HK.o,decide_eq_false hfi,decide_eq_false h8];rfl
  have JN:=hid hfu;have BP:(bD (aO l z)).length≤c5:=by
   rcases H5.o.1.2 with⟨h',h0⟩ | ⟨g,cap,cur,h',_,_,hnc,_⟩
   ·omega
   simp only[Value.slice.injEq,Option.some.injEq,Addr.mk.injEq,and_true,true_and] at h';omega
  have hkc:k≤c5:=by omega
  have hcl:(aF l z t).length=k:=by unfold aF;rw[List.length_take,HK.o];omega
  have F6:=HF.o.since iL.o;have hints:Ints w6' (.slice a5 k c5) (aF l z t):=by
   refine⟨a5,c5,by rw[hcl],by rw[hcl];exact hkc,fun hpos=>?_⟩;rcases H5.o.1.2 with⟨h',h0⟩ | ⟨g,cap,cur,h',_,_,hnc,_⟩
   ·omega
   simp only[Value.slice.injEq,true_and] at h';obtain⟨rfl,rfl⟩:=h';refine⟨g,0,rfl,(H5.o.1.lt g rfl).2,fun j x hj=>?_⟩;have hj2:(bD (aO l z))[j]?=some x:=by
    unfold aF at hj;rw[List.getElem?_take] at hj;split at hj
    ·exact hj
    cases hj
   have hjl:=(List.getElem?_eq_some_iff.1 hj2).1;rw[Nat.zero_add,H5.o.1.cellAt j (by omega)];unfold bV;rw[List.getElem?_map,hj2]
   rfl
  have h25:w2.heap.size≤w5.heap.size:=(H4.o.2.trans jm.o.1).size;have Ui:∀k' o m c,Value.slice a5 k c5=.slice (some ⟨k',o,none⟩) m c→¬(k'=rv∨k'=rd∨k'=rc):=fun k' o m c e hp=>by
   simp only[Value.slice.injEq] at e;have h1:=H5.o.1.lt k' (by rw[e.1];rfl);have h2:=QC.o k' (.inr hp);omega
  have HFW:Hid (Calls Tryz.prog 54 #[.pointer (some ⟨rf,0,none⟩),.slice a5 k c5,.string t] w6' fun e w'=>e=.returned (.int .i64 (iO kb kt (aF l z t) t S).1)∧iZ true w0 w6' w' N rv Rb rd rc s (iO kb kt (aF l z t) t S).2∧(iO kb kt (aF l z t) t S).2.ok (n+(aF l z t).length)∧(iO kb kt (aF l z t) t S).2.D.ok):=
   vw HB0.o.1 n HO.o.1 (by have:=HO.o.2.1;omega) HO.o.2.2 F6.dO F6.c0 (fun e=>by
    rcases e with e | e | e
    ·exact F6.Kk.1 e
    ·exact F6.Kk.2.1 e
    exact F6.Kk.2.2.1 e) (aF l z t) _ hints Ui (by rw[hcl];have:(bD (aO l z)).length≤21:=List.length_filter_le _ _;omega) t
  have H6:=hid (an F6 hints);clear hfu h8 hcl F6 hints Ui h25;obtain⟨R,hR⟩:∃R,iO kb kt (aF l z t) t S=R:=⟨_,rfl⟩
  obtain⟨rn,S1⟩:=R;rw[hR] at HFW;have HRR:=hid hR;clear hR;go_wp2_with fail
  refine HFW.o.mono ?_;rintro e w7 ⟨rfl,Na,hok,yU⟩;have F7:=H6.o.1.to Na.1 Na.2;have hf7:Vl.Fs (fun k=>k=rv∨k=rd∨k=rc) w6' w7:=⟨Na.2.os,Na.2.tape,Na.2.output,Na.2.size,fun k hk hn=>Na.2.block k hk (fun e=>hn (.inl e)) (fun e=>hn (.inr (.inl e))) (fun e=>hn (.inr (.inr e))) (.inl rfl)⟩
  have H7:=hid (an F7 (an hok (an yU hf7)));clear F7 hok yU hf7 Na b6;by_cases e0:rn=0
  ·subst e0;have h24:w2.heap.size≤w4.heap.size:=H4.o.2.size;have hnb:∀k,w2.heap.size≤k→¬(k=rv∨k=rd∨k=rc):=fun k hk hp=>by have:=QC.o k (.inr hp);omega
   have a1b:w4.heap.size<w6'.heap.size:=Nat.lt_of_lt_of_le jm.o.2.1 H5.o.2.size;have b7:w7.cell? ⟨w4.heap.size,0,none⟩=some (.slice a4 (aO l z).length c4):=(H7.o.2.2.2.cell (p:=⟨w4.heap.size,0,none⟩) a1b (hnb _ h24)).trans ((H5.o.2.cell (p:=⟨w4.heap.size,0,none⟩) jm.o.2.1).trans jm.o.2.2.1);have f7:w7.frozen? ⟨w4.heap.size,0,none⟩=false:=(H7.o.2.2.2.frozen (p:=⟨w4.heap.size,0,none⟩) a1b (hnb _ h24)).trans ((H5.o.2.frozen (p:=⟨w4.heap.size,0,none⟩) jm.o.2.1).trans jm.o.2.2.2);have hdl:(aO l z).length=(d.filter (ay z)).length:=(HF.o.each.filter z).len;have JO:w7.ownsRow w2.heap.size 129 3 (.slice a4 (aO l z).length c4) (d.filter (ay z)).length (aD (d.filter (ay z))):=xE (En.bf H4.o.1 (jm.o.1.trans H5.o.2)) H7.o.2.2.2 (fun g hg=>hnb g (H4.o.1.lt g hg).1)
   have QD:Hid (∀W,Since w7 W→W.ownsRow w2.heap.size 129 3 (.slice a4 (aO l z).length c4) (d.filter (ay z)).length (aD (d.filter (ay z)))):=fun W hW=>En.bf JO hW
   obtain⟨i0,hi,hz0,hz1,hz2⟩:=info_parts En.yz;have HI:=hid (an hi (an hz0 (an hz1 hz2)));have h27:w2.heap.size≤w7.heap.size:=Nat.le_trans iL.o.size H7.o.2.2.2.size;have HB8:Hid ((d.filter (ay z)).length+1≤maxLen∧((d.filter (ay z)).length+1)*48≤140737488355328):=by
    have h1:(d.filter (ay z)).length≤8:=by
     have h2:=HR.o.2.1;have h3:=HF.o.each.len;have h4:=List.length_filter_le (ay z) d;omega
    exact⟨by unfold maxLen;omega,by omega⟩
   have YU:Hid (∀W W':World,Since w7 W→W.grownBy W' (Value.slice a4 (aO l z).length c4).ownBlock→W'.cell? ⟨w4.heap.size,0,none⟩=some (.slice a4 (aO l z).length c4)∧W'.frozen? ⟨w4.heap.size,0,none⟩=false):=fun W W' hW hg=>by
    have hb:w4.heap.size<w7.heap.size:=World.block_lt_of_cell? w7 _ b7;have hlt:w4.heap.size<W.heap.size:=Nat.lt_of_lt_of_le hb hW.size;have hne:some w4.heap.size≠(Value.slice a4 (aO l z).length c4).ownBlock:=fun e=>by
     have:=(H4.o.1.lt _ e.symm).2;omega
    have e1:=hg.block w4.heap.size hlt hne;exact⟨(World.cell?_of_block (w:=W) (a:=⟨w4.heap.size,0,none⟩) e1).trans ((hW.cell (p:=⟨w4.heap.size,0,none⟩) hb).trans b7),(World.frozen?_of_block (w:=W) (a:=⟨w4.heap.size,0,none⟩) e1).trans ((hW.frozen (p:=⟨w4.heap.size,0,none⟩) hb).trans f7)⟩
   have HB7:=hid b7;have b7d:w7.drew.cell? ⟨w4.heap.size,0,none⟩=some (.slice a4 (aO l z).length c4):=b7;have hki:(k:Int)≤c5:=by omega
   have b7a:(w7.alloc (.cells #[.string z,.int .i64 t.size,.slice a5 k c5] 129)).drew.cell? ⟨w4.heap.size,0,none⟩=some (.slice a4 (aO l z).length c4):=(((Since.refl w7).alloc (.cells #[.string z,.int .i64 t.size,.slice a5 k c5] 129)).drew.cell (p:=⟨w4.heap.size,0,none⟩) (World.block_lt_of_cell? w7 _ b7)).trans b7;have HDL:=hid hdl;clear hi hz0 hz1 hz2 JO hnb f7 hdl;go_upto_region 11 with fail
   go_region_law (first
    | (refine step_append_lies _ (by rfl) (.tmp 40) (.tmp 48) 52 (by rfl) w2.heap.size 129 i0 _ 3 48 Tryz.underlying52 HI.o.1 HI.o.2.1 HI.o.2.2.1 HI.o.2.2.2 (by rfl) (by decide) (.slice a4 (aO l z).length c4) (d.filter (ay z)).length (aD (d.filter (ay z))) (by rfl) (QD.o _ ((Since.refl w7).alloc _).drew) ⟨w7.heap.size,0,none⟩ 1 1 [.string z,.int .i64 t.size,.slice a5 k c5] (by rfl) (by rfl) (World.news_of_block (heap_alloc_new w7 _)) (by simp[Value.oneCell']) (by decide) HB8.o.1 HB8.o.2 (by show w2.heap.size≤(w7.alloc _).heap.size;simp;exact Nat.le_succ_of_le h27) (w7.heap.size+1) (by show (w7.alloc _).heap.size=_;simp) ?_;intro g cap w9 hown hgrow hat hlt;obtain⟨c9,f9⟩:=YU.o _ _ ((Since.refl w7).alloc _).drew hgrow))
   all_goals
    have hat':(Value.slice a4 (aO l z).length c4).ownBlock=some g∨w7.heap.size<g:=hat.imp id (fun h=>by omega);have a5A:w4.heap.size<w7.heap.size:=World.block_lt_of_cell? w7 _ HB7.o;have a5B:Ty w7 w4.heap.size 52:=(HTY.o.since H5.o.2).blk (H7.o.2.2.2.block _ a1b (fun hp=>by have:=QC.o _ (.inr hp);omega));have EU:∀k' o,a5=some ⟨k',o,none⟩→w5.heap.size≤k'∧k'<w6'.heap.size:=fun k' o e=>H5.o.1.lt k' (by rw[e];rfl)
    have a5C:Ints w7 (.slice a5 k c5) (aF l z t):=iV H6.o.2 H7.o.2.2.2 (fun k' o e=>⟨(EU k' o e).2,fun hp=>by
     have:=QC.o k' (.inr hp);have:=(EU k' o e).1;have:=jm.o.2.1;omega⟩)
    have hnew:=UJ HF.o H7.o.1 z t (fun r hr=>H4.o.1.lt r hr) (QD.o w7 (Since.refl _)) ⟨h24,a5A⟩ a5B a5C (fun k' o e=>by
     have h1:=EU k' o e;have h2:=jm.o.2.1;have h3:=H7.o.2.2.2.size;omega) hown hgrow hat' (.slice (some ⟨g,0,none⟩) ((d.filter (ay z)).length+1) cap)
    have cA:(w9.setCell ⟨w4.heap.size,0,none⟩ (.slice (some ⟨g,0,none⟩) ((d.filter (ay z)).length+1) cap)).cell? ⟨w4.heap.size,0,none⟩=some (.slice (some ⟨g,0,none⟩) ((d.filter (ay z)).length+1) cap):=World.cell?_setCell_same _ _ _ c9;generalize w9.setCell ⟨w4.heap.size,0,none⟩ (.slice (some ⟨g,0,none⟩) ((d.filter (ay z)).length+1) cap)=wA at *;have HNW:Hid (iW w0 wA N rf rv Rb rd rc s S1 lv d l∧g≠w4.heap.size∧g<wA.heap.size∧w2.heap.size≤g∧
     HoldsK gz 3 wA g 0 (d.filter (ay z)++[(z,(t.size:Int),a5,k,c5)]).toArray∧(d.filter (ay z)).length+1≤cap∧Ty wA g 129∧
     Each (fun r=>r=g∨RP rf rv rd rc r) wA (d.filter (ay z)++[(z,(t.size:Int),a5,k,c5)]) (aO l z++[vI l z t])∧Vl.Fs (fun r=>w2.heap.size≤r) w7 wA):=hnew
    have Zh:Hid ((d.filter (ay z)++[(z,(t.size:Int),a5,k,c5)]).length=(d.filter (ay z)).length+1):=by show (_:Nat)=_;simp
    have HCA:=hid cA;have HSO:Hid (Calls Tryz.prog 55 #[.iface 52 (.slice (some ⟨g,0,none⟩) ((d.filter (ay z)).length+1) cap),.func (.func 56) #[] #[.pointer (some ⟨w4.heap.size,0,none⟩)]] wA fun e w'=>e=.returned (.tuple #[])∧∃d':Array Fv,d'.size=(d.filter (ay z)).length+1∧d'.toList.Perm (d.filter (ay z)++[(z,(t.size:Int),a5,k,c5)])∧SortedIn (ltOf JH) 0 ((d.filter (ay z)).length+1) d'∧HoldsK gz 3 w' g 0 d'∧Vl.Fs (fun k=>k=g) wA w'):=by
     have h12:(d.filter (ay z)).length≤8:=by
      have h2:=HR.o.2.1;have h3:=HF.o.each.len;have h4:=List.length_filter_le (ay z) d;omega
     have hsz:(d.filter (ay z)++[(z,(t.size:Int),a5,k,c5)]).toArray.size=(d.filter (ay z)).length+1:=by simp
     have hso:=Qk w4.heap.size g cap (d.filter (ay z)++[(z,(t.size:Int),a5,k,c5)]).toArray wA (by rw[hsz];exact HCA.o) (fun e=>HNW.o.2.1 e.symm) HNW.o.2.2.2.2.1 HNW.o.2.2.1 (by rw[hsz];omega) (by rw[hsz];omega);rw[hsz] at hso;exact hso
    clear hnew hat' a5A a5B EU a5C hown hgrow hat hlt c9 f9 b7 b7d b7a;go_wp2_with fail
    refine HSO.o.mono ?_;rintro e AX ⟨rfl,d',hd1,hd2,hd3,hd4,hd5⟩;have c11:AX.cell? ⟨w4.heap.size,0,none⟩=some (.slice (some ⟨g,0,none⟩) ((d.filter (ay z)).length+1) cap):=(hd5.cell (p:=⟨w4.heap.size,0,none⟩) (World.block_lt_of_cell? wA _ HCA.o) (fun e=>HNW.o.2.1 e.symm)).trans HCA.o;have HD:=hid (an hd1 (an hd2 (an hd3 (an hd4 hd5))));clear hd1 hd2 hd3 hd4 hd5 cA;go_wp2_with fail
    obtain⟨FA,hgb,hgl,hg2,hHA,hcap,a5E,heA,a5F⟩:=HNW.o;obtain⟨hd1,hd2,hd3,hd4,hd5⟩:=HD.o;obtain⟨l',hp,mG,kK,hbk,he',F11⟩:=Fx HF.o FA ⟨hg2,hgl⟩ hHA a5E hcap Zh.o heA hd1 hd2 hd3 hd4 hd5;have hfit:=vY ((aZ l).1 HR.o.1).1 HB.o JN.o;have hc21:(aF l z t).length≤21:=by
     have:(bD (aO l z)).length≤21:=List.length_filter_le _ _;unfold aF;rw[List.length_take];omega
    have a5G:=Fu HB0.o.1 HB0.o.2 (n+(aF l z t).length) H7.o.2.1 (by have:=HO.o.2.1;omega) H7.o.2.2.1 F11 kK hbk he' (hfit.right hp mG);have a5H:Vl.Fs (RP rf rv rd rc) w2 AX:=by
     have h1:Vl.Fs (fun r=>RP rf rv rd rc r∨w2.heap.size≤r) w2 AX:=(((Vl.Fs.ag iL.o).trans (bH H7.o.2.2.2 (fun k e=>.inl (.inr e)))).trans (bH a5F (fun k e=>.inr e))).trans (bH hd5 (fun k e=>.inr (by omega)));exact⟨h1.os,h1.tape,h1.output,h1.size,fun r hr hn=>h1.block r hr (fun h'=>h'.elim hn (fun h''=>by omega))⟩
    have BZ:=hid (an hp (an mG a5H));have HNL:Hid (Nl w2 lv d (.slice (some ⟨g,0,none⟩) ((d.filter (ay z)).length+1) cap) d'.toList):=⟨fun k' o n c e=>.inl (by
     simp only[Value.slice.injEq,Option.some.injEq,Addr.mk.injEq] at e;obtain⟨⟨rfl,_⟩,_⟩:=e;exact hg2),fun x hx k' o e=>by
     have hm:=hd2.mem_iff.1 hx;rw[List.mem_append,List.mem_singleton] at hm;rcases hm with hm | rfl
     ·exact .inr ⟨x,(List.mem_filter.1 hm).1,o,e⟩
     have h1:=(H5.o.1.lt k' (by rw[show a5=some ⟨k',o,none⟩ from e];rfl)).1;have h2:w2.heap.size≤w5.heap.size:=(H4.o.2.trans jm.o.1).size;exact .inl (by omega)⟩
    clear FA hgb hgl hg2 hHA hcap a5E heA a5F hd1 hd2 hd3 hd4 hd5 hp mG kK hbk he' F11 hfit hc21 a5H;refine a5G.mono ?_;clear a5G;rintro e w12 ⟨rfl,g1,g2,g3,g4,g5⟩;have HG:=hid (an g1 (an g2 (an g3 (an g4 g5))));clear g1 g2 g3 g4 g5 c11;obtain⟨x,hx⟩:∃x,(bq kb kt l' S1).1=x:=⟨_,rfl⟩
    rw[hx];have HXX:=hid hx;clear hx;go_wp2_with fail
    go_ret;refine Or.inr (Or.inr ⟨HB.o,JN.o,by rw[HRR.o];exact H7.o.2.1,by rw[HRR.o];exact H7.o.2.2.1,fun hne=>absurd (by rw[HRR.o]) hne,fun _=>?_,BZ.o.2.2.trans HG.o.2.2.2.2⟩);rw[HRR.o];exact⟨l',d'.toList,_,BZ.o.1,BZ.o.2.1,by rw[HXX.o];rfl,HG.o.1,HG.o.2.1,fun h0=>⟨HG.o.2.2.1 h0,HNL.o⟩,HG.o.2.2.2.1⟩
  have HE0:=hid e0;go_wp2_with fail
  go_ret;refine Or.inr (Or.inr ⟨HB.o,JN.o,by rw[HRR.o];exact H7.o.2.1,by rw[HRR.o];exact H7.o.2.2.1,fun _=>⟨by rw[HRR.o];rfl,by rw[HRR.o];exact H7.o.1⟩,fun h0=>absurd (by rw[HRR.o] at h0;exact h0) HE0.o,(Vl.Fs.ag iL.o).trans (bH H7.o.2.2.2 (fun k e=>.inr e))⟩)
end
end Fl
end
section
namespace Fl
open Go.RowKit Go.Sort Go.Shelf
open En (Fi fA Ints dF oM)
open Vl
theorem pg {b:Nat}{W:World}{v:Value}{p:List (Fi × Value)}(h:oM b W v p):∀x ∈ p,∃a n c,x.2=.slice a n c:=fun x hx=>by
 obtain⟨a,c,e,_⟩:=h.ints x hx;exact⟨a,_,c,e⟩
theorem UK {b:Nat}{W:World}{v:Value}{p:List (Fi × Value)}(h:oM b W v p):W.ownsRow b 129 3 v (EW p).length (aD (EW p)):=by
 have h1:=h.own;rw[uu p (pg h)] at h1;unfold EW at *;rw[List.length_map];exact h1
theorem Ql {P:Nat→Prop}{b:Nat}{W:World}{v:Value}{p:List (Fi × Value)}(h:oM b W v p)(hP:∀k,b≤k→k<W.heap.size→¬P k):Each P W (EW p) (p.map (fun x=>x.1)):=by
 refine⟨by simp[EW],fun j f x hj hx=>?_⟩;unfold EW at hx;rw[List.getElem?_map] at hj hx;cases e:p[j]? with
 | none=>rw[e] at hj;cases hj
 | some y=>
  rw[e] at hj hx;simp only[Option.map_some,Option.some.injEq] at hj hx;subst hj hx;have hm:y ∈ p:=List.mem_of_getElem? e;obtain⟨a,n,c,es⟩:=pg h y hm;have hi:=h.ints y hm;refine⟨rfl,rfl,?_,fun k o ek=>?_⟩
  ·rw[es] at hi ⊢;exact hi
  rw[es] at ek;have ek':a=some ⟨k,o,none⟩:=ek;subst ek';obtain⟨cur,fz,h2⟩:=h.typ y hm k o n c es;have hk:=En.bO h2;exact⟨hk,hP k (h.new y hm k o n c es) hk⟩
def Fy (w0 w w':World)(N Rb rd rc:Nat)(s kb kt:ByteArray)(D:Dv)(c:Int)(e:Ending):Prop:=
 ∃rv r S',gM kb kt (fresh D c) r S'∧w.heap.size≤rv∧bg w0 w' N rv Rb rd rc s S'∧RF true N rv rd rc w w'∧
  ((r≠0∧e=.returned (.tuple #[.pointer none,.int .i64 r]))∨(r=0∧En.eP (eQ S'.X [0,1,2])=none∧e=.returned (.tuple #[.pointer none,.int .i64 15]))∨
   (r=0∧∃l rf lv d,En.eP (eQ S'.X [0,1,2])=some l∧e=.returned (.tuple #[.pointer (some ⟨rf,0,none⟩),.int .i64 0])∧w.heap.size≤rf∧iW w0 w' N rf rv Rb rd rc s S' lv d l∧Nl w (.slice none 0 0) [] lv d))
theorem Zi (X:Nat→ByteArray):Lib.join ([X 0,X 1,X 2].map (·.data.toList)) (⟨#[]⟩:ByteArray).data.toList=eQ X [0,1,2]:=by
 simp[Lib.join,eQ]
theorem Kn {w0 w:World}{N Rb rd rc:Nat}{s kb kt:ByteArray}{D:Dv}{c:Int}(B:ja Rb s kb kt)(LB:En.Lb w0)(hs:s.size=16)(hok:D.ok)(hc:0≤c∧c<1000000000)(hw:D.ws.length≤1)(h:Qf w0 w N Rb rd rc D c) :
  Calls Tryz.prog 7 #[.pointer (some ⟨Rb,0,none⟩),.pointer (some ⟨rd,0,none⟩),.pointer (some ⟨rc,0,none⟩),.string s] w fun e w'=>Fy w0 w w' N Rb rd rc s kb kt D c e:=by
 have Ah:=hid (Qg B hs hok hc h);have HL:=hid (an LB (an hw hc.1));unfold Fy;unfold Np at Ah;clear h hw LB hc hs hok B;go_enter Tryz.func7,Tryz.ntmps7
 go_wp2_with fail
 refine Ah.o.mono ?_;rintro e w1 ⟨rv,r,S1,hto,he,hvb,vF,hf⟩;have H1:=hid (an hto (an hvb (an vF hf)));clear hto hvb vF hf;rcases he with⟨hr,rfl⟩ | ⟨hr,rfl⟩
 ·have HR:=hid hr;clear hr;have hok:=gM.ok' H1.o.1 HL.o.2.1 HL.o.2.2 HR.o;have hx:∀i,(S1.X i).size≤80:=hok.txt;have hcl:=oO S1.X hx [0,1,2];have hrl:=H1.o.2.2.1.ty.lt;have HJ:Hid (Calls Tryz.prog 36 #[.slice (some ⟨rv,77,none⟩) 3 24,.string ⟨#[]⟩] w1 fun e w'=>e=.returned (.string ⟨(eQ S1.X [0,1,2]).toArray⟩)∧Since w1 w'):=by
   have hj:=Tryz.strings_Join rv 77 24 [S1.X 0,S1.X 1,S1.X 2] ⟨#[]⟩ w1 (fun j x hj=>by
    match j,hj with
    | 0,hj=>simp at hj;subst hj;exact(H1.o.2.2.1.aQ.cell 77 (by omega)).trans (congrArg some (gB _ _ _ _ _ _ _ 0 (by omega)))
    | 1,hj=>simp at hj;subst hj;exact(H1.o.2.2.1.aQ.cell 78 (by omega)).trans (congrArg some (gB _ _ _ _ _ _ _ 1 (by omega)))
    | 2,hj=>simp at hj;subst hj;exact(H1.o.2.2.1.aQ.cell 79 (by omega)).trans (congrArg some (gB _ _ _ _ _ _ _ 2 (by omega)))
    | j+3,hj=>simp at hj) hrl (by simp) (by simp) (by rw[Zi];simp at hcl;omega)
   rw[Zi] at hj;exact hj
  have hz:(⟨(eQ S1.X [0,1,2]).toArray⟩:ByteArray).size≤400:=by
   show (eQ S1.X [0,1,2]).toArray.size≤400
   simp at hcl ⊢;omega
  have MO:Hid (∀W,Since w1 W→Calls Tryz.prog 35 #[.string ⟨(eQ S1.X [0,1,2]).toArray⟩] W fun e w'=>((∃l v,En.eP (eQ S1.X [0,1,2])=some l∧e=.returned (.tuple #[v,.int .i64 0])∧fA w' v l∧∃b p,W.heap.size≤b∧p.map (fun x:Fi × Value=>x.1)=l∧oM b w' v p)∨(En.eP (eQ S1.X [0,1,2])=none∧e=.returned (.tuple #[.slice none 0 0,.int .i64 3])))∧Since W w'):=fun W hW=>En.JF ⟨(eQ S1.X [0,1,2]).toArray⟩ hz W (HL.o.1.since (H1.o.2.2.1.since.trans hW))
  clear hz hcl hrl hx hok;go_wp2_with fail
  refine HJ.o.mono ?_;rintro e w3 ⟨rfl,hs3⟩;have dZ:=hid hs3;clear hs3;generalize (⟨(eQ S1.X [0,1,2]).toArray⟩:ByteArray)=tx at *;go_wp2_with fail
  refine(MO.o w3 dZ.o).mono ?_;clear MO;rintro e w4 ⟨hp,hs4⟩;have fO:=hid (an (dZ.o.trans hs4) hs4);clear hs4;rcases hp with⟨l,lv,hpl,rfl,sJ,b,p,hbl,hpe,hrow⟩ | ⟨hpn,rfl⟩
  ·have HP:=hid (an hpl (an hpe (an hrow hbl)));obtain⟨la,lc,rfl,_⟩:=sJ;clear hpl hpe hrow hbl;go_wp2_with fail
   go_ret2;have hv4:=H1.o.2.2.1.go fO.o.1;have hS5:Since w4 (w4.alloc (.cells #[.pointer (some ⟨rv,0,none⟩),.slice la l.length lc] 54)):=(Since.refl _).alloc _;have hrow:=HP.o.2.2.1;have hown:=UK hrow;have hb3:=HP.o.2.2.2;have h13:=dZ.o.size;have h34:=fO.o.2.size;have hl1:rv<w1.heap.size:=H1.o.2.2.1.ty.lt;have hl2:rd<w1.heap.size:=by
    obtain⟨zv,av,wv,hr⟩:=H1.o.2.2.1.sV;exact hr.aQ.lt (by omega)
   have hl3:=H1.o.2.2.1.iN.lt (by omega);have hl4:Rb<w1.heap.size:=nK H1.o.2.2.1.hh.1 (by omega);have hP:∀k,b≤k→k<w4.heap.size→¬RP w4.heap.size rv rd rc k:=fun k hk hk2 hp=>by
    unfold RP at hp;omega
   have he:=Ql (P:=RP w4.heap.size rv rd rc) hrow hP;rw[HP.o.2.1] at he;refine⟨rv,r,S1,H1.o.1,H1.o.2.1,hv4.go hS5,H1.o.2.2.2.trans (RF.ag (fO.o.1.trans hS5)),Or.inr (Or.inr ⟨HR.o,l,w4.heap.size,.slice la l.length lc,EW p,HP.o.1,rfl,Nat.le_trans H1.o.2.2.2.size fO.o.1.size,⟨hv4.go hS5,by simp,by simp,by simp,hv4.since.size,⟨by omega,by omega,by omega,by omega⟩,Ty.new w4 _ _,(TW hown).fs (Vl.Fs.ag (S:=fun _=>False) hS5) (fun k o n c e=>?_),fun k o n c e=>?_,he.since hS5⟩,⟨fun k o n c e=>.inl ?_,fun x hx k o e=>.inl ?_⟩⟩)⟩
   ·have:=hown.lt k (by rw[e];rfl);exact⟨this.2,fun h=>h⟩
   ·have h1:=hown.lt k (by rw[e];rfl);exact⟨Nat.lt_of_lt_of_le h1.2 hS5.size,hP k h1.1 h1.2⟩
   ·have h1:=hown.lt k (by rw[e];rfl);have h2:=H1.o.2.2.2.size;omega
   obtain⟨y,hy,rfl⟩:=List.mem_map.1 hx;obtain⟨a,n,c,es⟩:=pg hrow y hy;rw[es] at e;have ek':a=some ⟨k,o,none⟩:=e;subst ek';have h1:=hrow.new y hy k o n c es;have h2:=H1.o.2.2.2.size;omega
  have HP:=hid hpn;clear hpn;go_wp2_with fail
  go_ret2;exact⟨rv,r,S1,H1.o.1,H1.o.2.1,H1.o.2.2.1.go fO.o.1,H1.o.2.2.2.trans (RF.ag fO.o.1),Or.inr (Or.inl ⟨HR.o,HP.o,rfl⟩)⟩
 have HR:=hid hr;go_wp2_with fail
 go_ret2;exact⟨rv,r,S1,H1.o.1,H1.o.2.1,H1.o.2.2.1,H1.o.2.2.2,Or.inl ⟨HR.o,rfl⟩⟩
end Fl
end
section
namespace Fl
open Go.RowKit Go.Sort Go.Shelf
open En (Fi fA Ints dF Row aI)
open Vl
def Off (P:Nat→Prop)(lv:Value)(d:List Fv):Prop:=(∀k o n c,lv=.slice (some ⟨k,o,none⟩) n c→¬P k)∧∀x ∈ d,∀k o,x.2.2.1=some ⟨k,o,none⟩→¬P k
theorem Off.nl {P P':Nat→Prop}{w:World}{lv dK:Value}{d d':List Fv}(h:Off P lv d)(hn:Nl w lv d dK d')(hP:∀k,P' k→k<w.heap.size∧P k):Off P' dK d':=by
 refine⟨fun k o n c e hp=>?_,fun x hx k o e hp=>?_⟩
 ·rcases hn.1 k o n c e with h1 | ⟨o',n',c',h1⟩
  ·have:=(hP k hp).1;omega
  exact h.1 k o' n' c' h1 (hP k hp).2
 rcases hn.2 x hx k o e with h1 | ⟨y,hy,o',h1⟩
 ·have:=(hP k hp).1;omega
 exact h.2 y hy k o' h1 (hP k hp).2
theorem Nl.refl (w:World)(lv:Value)(d:List Fv):Nl w lv d lv d:=⟨fun k o n c e=>.inr ⟨o,n,c,e⟩,fun x hx k o e=>.inr ⟨x,hx,o,e⟩⟩
def sS (w:World)(db cb rd rc k:Nat):Prop:=(∃t,Ty w k t∧t≠165∧t≠75∧t≠269∧t≠118∧t≠54)∧k≠db∧k≠cb∧k≠rd∧k≠rc
theorem sS.blk {w w':World}{db cb rd rc k:Nat}(h:sS w db cb rd rc k)(hb:w'.heap[k]?=w.heap[k]?):sS w' db cb rd rc k:=by
 obtain⟨⟨t,ht,h1⟩,h2⟩:=h;exact⟨⟨t,ht.blk hb,h1⟩,h2⟩
theorem sS.lt {w:World}{db cb rd rc k:Nat}(h:sS w db cb rd rc k):k<w.heap.size:=by
 obtain⟨⟨t,ht,_⟩,_⟩:=h;exact ht.lt
theorem sS.safe {w:World}{db cb rd rc k:Nat}(h:sS w db cb rd rc k):Vl.Safe w db cb rd rc k:=by
 obtain⟨⟨t,ht,h1,h2,h3,_⟩,h4⟩:=h;exact⟨⟨t,ht,h1,h2,h3⟩,h4⟩
def aG (w w':World)(db cb rd rc:Nat):Prop:=w.heap.size≤w'.heap.size∧∀k,sS w db cb rd rc k→w'.heap[k]?=w.heap[k]?
theorem aG.trans {w w1 w2:World}{db cb rd rc:Nat}(h:aG w w1 db cb rd rc)(k:aG w1 w2 db cb rd rc):aG w w2 db cb rd rc:=
 ⟨Nat.le_trans h.1 k.1,fun j hj=>(k.2 j (hj.blk (h.2 j hj))).trans (h.2 j hj)⟩
theorem aG.ag {w w':World}{db cb rd rc:Nat}(h:Since w w'):aG w w' db cb rd rc:=⟨h.size,fun k hk=>h.block k hk.lt⟩
theorem aG.of {w w':World}{db cb rd rc:Nat}(h:lY w w' db cb rd rc):aG w w' db cb rd rc:=⟨h.1,fun k hk=>h.2.2.2.2 k hk.safe⟩
section
variable {w0 w w':World} {N fb vb db cb rf rv Rb rd rc:Nat} {s kb kt:ByteArray} {S S' S2:Vs} {v v' lv dK:Value} {d d':List Fv} {l l' l2:List Fi}
structure FP (w0 w:World)(N fb vb db cb rf rv rd rc:Nat)(kb kt:ByteArray)(S:Vs)(l:List Fi)(v:Value):Prop where
 fm:∃lv d,Fm w0 w fb vb db cb kb kt S v lv d l∧Off (RP rf rv rd rc) lv d
 own:∀k,v.ownBlock=some k→N≤k
 nv:N≤vb
 nf:N≤fb
structure FR (w0 w:World)(N fb vb db cb rf rv Rb rd rc:Nat)(s:ByteArray)(S:Vs)(l:List Fi)(v:Value):Prop where
 fm:∃lv d,iW w0 w N rf rv Rb rd rc s S lv d l∧Off (fun k=>k=fb∨VP vb db cb v k) lv d
 nr:N≤rf
theorem Fz (A:Apart N db cb Rb rd rc)(hp:Fm w0 w fb vb db cb kb kt S v lv d l)(hown:∀k,v.ownBlock=some k→N≤k)(Qx:N≤vb)(hnf:N≤fb)(hr:iW w0 w N rf rv Rb rd rc s S2 dK d' l2)(hnr:N≤rf):∀k,RP rf rv rd rc k→¬(k=fb∨VP vb db cb v k):=by
 have hlt:=A.lt;have hpr:=A.pr;have hne:=hr.dO.ne;have ho:=nD hp.dO.dev;rintro k (rfl | rfl | rfl | rfl) (e | e | e | e | e)
 ·subst e;exact absurd (hr.ty.one hp.ty) (by decide)
 ·subst e;exact absurd (hr.ty.one hp.dO.ty) (by decide)
 ·omega
 ·omega
 ·exact absurd ((ho _ e).one hr.ty) (by decide)
 ·subst e;exact absurd (hr.dO.ty.one hp.ty) (by decide)
 ·subst e;exact absurd (hr.dO.ty.one hp.dO.ty) (by decide)
 ·omega
 ·omega
 ·exact absurd ((ho _ e).one hr.dO.ty) (by decide)
 ·omega
 ·omega
 ·omega
 ·omega
 ·have:=hown _ e;omega
 ·omega
 ·omega
 ·omega
 ·omega
 have:=hown _ e;omega
theorem iW.fsP (A:Apart N db cb Rb rd rc)(hp:Fm w0 w fb vb db cb kb kt S v lv d l)(hown:∀k,v.ownBlock=some k→N≤k)(Qx:N≤vb)(hnf:N≤fb)(hr:iW w0 w N rf rv Rb rd rc s S2 dK d' l2)(hnr:N≤rf)(hoff:Off (fun k=>k=fb∨VP vb db cb v k) dK d')(hf:Vl.Fs (fun k=>k=fb∨VP vb db cb v k) w w'):iW w0 w' N rf rv Rb rd rc s S2 dK d' l2:=by
 have hap:=Fz A hp hown Qx hnf hr hnr;have ho:=nD hp.dO.dev;have hfl:rf<w.heap.size:=World.block_lt_of_cell? w _ hr.c0;have hfp:¬(rf=fb∨VP vb db cb v rf):=hap rf (.inl rfl);have hlo:∀k,(k=fb∨VP vb db cb v k)→w0.heap.size≤k:=by
  rintro k (e | e | e | e | e)
  ·rw[e];exact hp.lo
  ·rw[e];exact hp.dO.lo.1
  ·rw[e];exact hp.dO.lo.2.1
  ·rw[e];exact hp.dO.lo.2.2.1
  exact hp.dO.lo.2.2.2 k e
 have vF:bg w0 w' N rv Rb rd rc s S2:=by
  refine hr.dO.keep A (fun k hk h1 h2 h3=>hf.block k hk ?_) (hf.block rv hr.dO.ty.lt (hap rv (.inr (.inl rfl)))) hf.size (hf.since hr.dO.since hlo);rintro (e | e | e | e | e)
  ·subst e;rcases h3 with h3 | h3 | h3
   ·omega
   ·exact absurd (hp.ty.one h3) (by decide)
   exact absurd (hp.ty.one h3) (by decide)
  ·subst e;rcases h3 with h3 | h3 | h3
   ·omega
   ·exact absurd (hp.dO.ty.one h3) (by decide)
   exact absurd (hp.dO.ty.one h3) (by decide)
  ·exact h1 e
  ·exact h2 e
  have:=hown k e;rcases h3 with h3 | h3 | h3
  ·omega
  ·exact absurd ((ho k e).one h3) (by decide)
  exact absurd ((ho k e).one h3) (by decide)
 refine⟨vF,(hf.cell hfl hfp).trans hr.c0,(hf.cell hfl hfp).trans hr.c1,(hf.frozen hfl hfp).trans hr.fz,hr.lo,hr.Kk,hr.ty.blk (hf.block rf hfl hfp),hr.sr.fs hf (fun k o n c e=>⟨(hr.blk k o n c e).1,hoff.1 k o n c e⟩),fun k o n c e=>⟨Nat.lt_of_lt_of_le (hr.blk k o n c e).1 hf.size,(hr.blk k o n c e).2⟩,⟨hr.each.len,fun j f x hj hx=>?_⟩⟩;obtain⟨h1,h2,h3,h4⟩:=hr.each.each j f x hj hx;exact⟨h1,h2,iV h3 hf (fun k o e=>⟨(h4 k o e).1,hoff.2 x (List.mem_of_getElem? hx) k o e⟩),fun k o e=>⟨Nat.lt_of_lt_of_le (h4 k o e).1 hf.size,(h4 k o e).2⟩⟩
theorem Fm.fsR (A:Apart N db cb Rb rd rc)(hp:Fm w0 w fb vb db cb kb kt S v lv d l)(hown:∀k,v.ownBlock=some k→N≤k)(Qx:N≤vb)(hnf:N≤fb)(hr:iW w0 w N rf rv Rb rd rc s S2 dK d' l2)(hnr:N≤rf)(hoff:Off (RP rf rv rd rc) lv d)(hf:Vl.Fs (RP rf rv rd rc) w w'):Fm w0 w' fb vb db cb kb kt S v lv d l:=by
 have hap:=Fz A hp hown Qx hnf hr hnr;have hne:=hr.dO.ne;have hlo:=hr.dO.lo;have hlo2:=hr.lo;refine hp.fs hf (fun k hk=>?_) (fun k _ hk=>⟨fun e=>hap k hk (.inl e),fun e=>hap k hk (.inr e)⟩) hoff.1 (fun j x hx k o e=>hoff.2 x (List.mem_of_getElem? hx) k o e);rcases hk with rfl | rfl | rfl | rfl
 ·exact hlo2
 ·omega
 ·omega
 omega
structure FB (w0 w:World)(N fb vb db cb rf rv Rb rd rc:Nat)(s kb kt:ByteArray)(S:Vs)(l:List Fi)(S2:Vs)(l2:List Fi):Prop where
 ap:Apart N db cb Rb rd rc
 nN:N≤w.heap.size
 sd:∃v,FP w0 w N fb vb db cb rf rv rd rc kb kt S l v∧FR w0 w N fb vb db cb rf rv Rb rd rc s S2 l2 v
theorem FB.since (h:FB w0 w N fb vb db cb rf rv Rb rd rc s kb kt S l S2 l2):Since w0 w:=by
 obtain⟨v,hp,_⟩:=h.sd;obtain⟨lv,d,hp,_⟩:=hp.fm;exact hp.dO.since
theorem FB.Zf (h:FB w0 w N fb vb db cb rf rv Rb rd rc s kb kt S l S2 l2):S.D.ok:=by
 obtain⟨v,hp,_⟩:=h.sd;obtain⟨lv,d,hp,_⟩:=hp.fm;exact hp.dO.dev.ok
theorem FB.go (h:FB w0 w N fb vb db cb rf rv Rb rd rc s kb kt S l S2 l2)(hs:Since w w'):FB w0 w' N fb vb db cb rf rv Rb rd rc s kb kt S l S2 l2:=by
 obtain⟨v,⟨⟨lv,d,hp,ho⟩,h1,h2,h3⟩,⟨dK,d',hr,ho'⟩,h4⟩:=h.sd;exact⟨h.ap,Nat.le_trans h.nN hs.size,v,⟨⟨lv,d,hp.since hs,ho⟩,h1,h2,h3⟩,⟨dK,d',hr.since hs,ho'⟩,h4⟩
theorem FB.Ya (h:FB w0 w N fb vb db cb rf rv Rb rd rc s kb kt S l S2 l2):∃v lv d,Fm w0 w fb vb db cb kb kt S v lv d l∧∀w' S' v' dK d' l',Fm w0 w' fb vb db cb kb kt S' v' dK d' l'→Nl w lv d dK d'→Vl.Fs (fun k=>k=fb∨VP vb db cb v k) w w'→(∀k,k<w.heap.size→¬VP vb db cb v k→¬VP vb db cb v' k)→
  FB w0 w' N fb vb db cb rf rv Rb rd rc s kb kt S' l' S2 l2∧aG w w' db cb rd rc:=by
 obtain⟨v,⟨⟨lv,d,hp,ho⟩,h1,h2,h3⟩,⟨lr,dr,hr,hor⟩,h4⟩:=h.sd;refine⟨v,lv,d,hp,fun w' S' v' dK d' l' hp' hnl hf hnx=>⟨⟨h.ap,Nat.le_trans h.nN hf.size,v',⟨⟨dK,d',hp',ho.nl hnl (fun k hk=>⟨hr.lt k hk,hk⟩)⟩,fun k hk=>?_,h2,h3⟩,⟨lr,dr,iW.fsP h.ap hp h1 h2 h3 hr h4 hor hf,?_⟩,h4⟩,hf.size,fun k hk=>hf.block k hk.lt ?_⟩⟩
 ·rcases Nat.lt_or_ge k N with hkn | hkn
  ·exfalso;have Qx:¬VP vb db cb v k:=by
    rintro (e | e | e | e)
    ·omega
    ·exact hp'.dO.dev.ne (by rw[←e];exact hk.symm)
    ·exact hp'.dO.own.2 (by rw[←e];exact hk)
    have:=h1 k e;omega
   exact hnx k (by have:=h.nN;omega) Qx (.inr (.inr (.inr hk)))
  exact hkn
 ·refine⟨fun k o n c e hk=>?_,fun x hx k o e hk=>?_⟩
  ·rcases hk with hk | hk
   ·exact hor.1 k o n c e (.inl hk)
   exact hnx k (hr.blk k o n c e).1 (fun h'=>hor.1 k o n c e (.inr h')) hk
  obtain⟨j,hj,ej⟩:=List.getElem_of_mem hx;have hjl:j<l2.length:=by rw[hr.each.len];exact hj
  have hb:=((hr.each.each j l2[j] x (List.getElem?_eq_getElem hjl) (by rw[←ej];exact List.getElem?_eq_getElem hj)).2.2.2 k o e).1;rcases hk with hk | hk
  ·exact hor.2 x hx k o e (.inl hk)
  exact hnx k hb (fun h'=>hor.2 x hx k o e (.inr h')) hk
 obtain⟨⟨t,ht,t1,t2,t3,t4,t5⟩,t6,t7,_⟩:=hk;have hod:=nD hp.dO.dev;rintro (e | e | e | e | e)
 ·subst e;exact t4 (ht.one hp.ty)
 ·subst e;exact t1 (ht.one hp.dO.ty)
 ·exact t6 e
 ·exact t7 e
 exact t3 (ht.one (hod _ e))
theorem FB.VL (h:FB w0 w N fb vb db cb rf rv Rb rd rc s kb kt S l S2 l2):∃lv d,iW w0 w N rf rv Rb rd rc s S2 lv d l2∧∀w' S' dK d' l',iW w0 w' N rf rv Rb rd rc s S' dK d' l'→Nl w lv d dK d'→Vl.Fs (RP rf rv rd rc) w w'→
  FB w0 w' N fb vb db cb rf rv Rb rd rc s kb kt S l S' l'∧aG w w' db cb rd rc:=by
 obtain⟨v,⟨⟨lv,d,hp,ho⟩,h1,h2,h3⟩,⟨lr,dr,hr,hor⟩,h4⟩:=h.sd;refine⟨lr,dr,hr,fun w' S' dK d' l' hr' hnl hf=>⟨⟨h.ap,Nat.le_trans h.nN hf.size,v,⟨⟨lv,d,Fm.fsR h.ap hp h1 h2 h3 hr h4 ho hf,ho⟩,h1,h2,h3⟩,⟨dK,d',hr',hor.nl hnl (fun k hk=>⟨?_,hk⟩)⟩,h4⟩,hf.size,fun k hk=>hf.block k hk.lt ?_⟩⟩
 ·rcases hk with rfl | hk
  ·exact hp.ty.lt
  rcases Nat.lt_or_ge k w.heap.size with h' | h'
  ·exact h'
  exact absurd hk (hp.dO.qi h')
 obtain⟨⟨t,ht,t1,t2,t3,t4,t5⟩,_,_,t6,t7⟩:=hk;rintro (e | e | e | e)
 ·subst e;exact t5 (ht.one hr.ty)
 ·subst e;exact t2 (ht.one hr.dO.ty)
 ·exact t6 e
 exact t7 e
theorem FB.bd (h:FB w0 w N fb vb db cb rf rv Rb rd rc s kb kt S l S2 l2)(hc:S.c=S2.c):BD w0 w N db cb Rb rd rc S.D S2.D S.c:=by
 obtain⟨v,⟨⟨lv,d,hp,ho⟩,h1,h2,h3⟩,⟨lr,dr,hr,hor⟩,h4⟩:=h.sd;exact⟨h.ap,⟨v,hp.dO.dc,h1⟩,by rw[hc];exact hr.dO.rdc,h.nN⟩
end
end Fl
end
section
namespace Fl
open Go.RowKit Go.Sort Go.Shelf
open En (Fi fA Ints dF Row aI)
open Vl
def vz (kb kt:ByteArray)(S:Vs)(l:List Fi)(z t:ByteArray)(r:Int)(S':Vs)(l':List Fi):Prop:=
 (aI z.data.toList=false∧r=5∧S'=S∧l'=l)∨(aI z.data.toList=true∧gL l z t=true∧r=12∧S'=S∧l'=l)∨
 (aI z.data.toList=true∧gL l z t=false∧(iO kb kt (aF l z t) t S).1≠0∧r=(iO kb kt (aF l z t) t S).1∧S'=(iO kb kt (aF l z t) t S).2∧l'=l)∨
 (aI z.data.toList=true∧gL l z t=false∧(iO kb kt (aF l z t) t S).1=0∧∃l1,(aO l z++[vI l z t]).Perm l1∧pY l1∧r=(bq kb kt l1 (iO kb kt (aF l z t) t S).2).1∧S'=(bq kb kt l1 (iO kb kt (aF l z t) t S).2).2∧(r=0→l'=l1)∧(r≠0→l'=l))
theorem vz.one {kb kt:ByteArray}{S:Vs}{l:List Fi}(hr:En.right l=true){z t:ByteArray}{r1 r2:Int}{S1 S2:Vs}{l1 l2:List Fi}(h1:vz kb kt S l z t r1 S1 l1)(h2:vz kb kt S l z t r2 S2 l2):r1=r2∧S1=S2∧l1=l2:=by
 rcases h1 with⟨a1,a2,a3,a4⟩ | ⟨a1,a0,a2,a3,a4⟩ | ⟨a1,a0,a5,a2,a3,a4⟩ | ⟨a1,a0,a5,m1,p1,q1,a2,a3,a4,a6⟩ <;>
 rcases h2 with⟨b1,b2,b3,b4⟩ | ⟨b1,b0,b2,b3,b4⟩ | ⟨b1,b0,b5,b2,b3,b4⟩ | ⟨b1,b0,b5,m2,p2,q2,b2,b3,b4,b6⟩
 ·exact⟨a2.trans b2.symm,a3.trans b3.symm,a4.trans b4.symm⟩
 ·rw[a1] at b1;cases b1
 ·rw[a1] at b1;cases b1
 ·rw[a1] at b1;cases b1
 ·rw[a1] at b1;cases b1
 ·exact⟨a2.trans b2.symm,a3.trans b3.symm,a4.trans b4.symm⟩
 ·rw[a0] at b0;cases b0
 ·rw[a0] at b0;cases b0
 ·rw[a1] at b1;cases b1
 ·rw[a0] at b0;cases b0
 ·exact⟨a2.trans b2.symm,a3.trans b3.symm,a4.trans b4.symm⟩
 ·exact absurd b5 a5
 ·rw[a1] at b1;cases b1
 ·rw[a0] at b0;cases b0
 ·exact absurd a5 b5
 have hfit:=vY ((aZ l).1 hr).1 a1 a0;obtain rfl:=hfit.uniq p1 p2 q1 q2;obtain rfl:r1=r2:=a2.trans b2.symm;refine⟨rfl,a3.trans b3.symm,?_⟩;by_cases h0:r1=0
 ·exact(a4 h0).trans (b4 h0).symm
 exact(a6 h0).trans (b6 h0).symm
theorem vz.right {kb kt:ByteArray}{S:Vs}{l:List Fi}(hr:En.right l=true){z t:ByteArray}{r1:Int}{S1:Vs}{l1:List Fi}(h1:vz kb kt S l z t r1 S1 l1):En.right l1=true:=by
 rcases h1 with⟨a1,a2,a3,a4⟩ | ⟨a1,a0,a2,a3,a4⟩ | ⟨a1,a0,a5,a2,a3,a4⟩ | ⟨a1,a0,a5,m1,p1,q1,a2,a3,a4,a6⟩
 ·rw[a4];exact hr
 ·rw[a4];exact hr
 ·rw[a4];exact hr
 by_cases h0:r1=0
 ·rw[a4 h0];exact PH hr a1 a0 p1 q1
 rw[a6 h0];exact hr
def vB (kb kt:ByteArray)(S:Vs)(l:List Fi)(z:ByteArray)(r:Int)(S':Vs)(l':List Fi):Prop:=
 ((∀f ∈ l,¬f.nm=z)∧r=7∧S'=S∧l'=l)∨((∃f ∈ l,f.nm=z)∧r=(bq kb kt (aO l z) S).1∧S'=(bq kb kt (aO l z) S).2∧(r=0→l'=aO l z)∧(r≠0→l'=l))
theorem vB.one {kb kt:ByteArray}{S:Vs}{l:List Fi}{z:ByteArray}{r1 r2:Int}{S1 S2:Vs}{l1 l2:List Fi}(h1:vB kb kt S l z r1 S1 l1)(h2:vB kb kt S l z r2 S2 l2):r1=r2∧S1=S2∧l1=l2:=by
 rcases h1 with⟨a1,a2,a3,a4⟩ | ⟨⟨f,f1,f2⟩,a2,a3,a4,a5⟩<;>rcases h2 with⟨b1,b2,b3,b4⟩ | ⟨⟨g,g1,g2⟩,b2,b3,b4,b5⟩
 ·exact⟨a2.trans b2.symm,a3.trans b3.symm,a4.trans b4.symm⟩
 ·exact absurd g2 (a1 g g1)
 ·exact absurd f2 (b1 f f1)
 obtain rfl:r1=r2:=a2.trans b2.symm;refine⟨rfl,a3.trans b3.symm,?_⟩;by_cases h0:r1=0
 ·exact(a4 h0).trans (b4 h0).symm
 exact(a5 h0).trans (b5 h0).symm
theorem vB.right {kb kt:ByteArray}{S:Vs}{l:List Fi}(hr:En.right l=true){z:ByteArray}{r1:Int}{S1:Vs}{l1:List Fi}(h1:vB kb kt S l z r1 S1 l1):En.right l1=true:=by
 rcases h1 with⟨a1,a2,a3,a4⟩ | ⟨⟨f,f1,f2⟩,a2,a3,a4,a5⟩
 ·rw[a4];exact hr
 by_cases h0:r1=0
 ·rw[a4 h0];exact ut hr z
 rw[a5 h0];exact hr
section
variable {w0 w w':World} {N fb vb db cb rf rv Rb rd rc:Nat} {s kb kt:ByteArray} {S S' S2:Vs} {v v' lv dK:Value} {d d':List Fv} {l l' l2:List Fi} {n:Int}
theorem Yf (l:List Fi)(z t:ByteArray):(aF l z t).length≤21:=by
 have:(En.bD (aO l z)).length≤21:=List.length_filter_le _ _;unfold aF;rw[List.length_take];omega
theorem a8E (B:Base w0 kb kt)(LB:En.Lb w0)(ho:S.ok n)(hn:n+2000<900000000)(hr:En.right l=true)(z t:ByteArray)(hz:z.size≤100000)(ht:t.size≤100000)(h:FB w0 w N fb vb db cb rf rv Rb rd rc s kb kt S l S2 l2) :
  Calls Tryz.prog 11 #[.pointer (some ⟨fb,0,none⟩),.string z,.string t] w fun e w'=>∃r S' l',e=.returned (ev r)∧vz kb kt S l z t r S' l'∧S'.ok (n+24)∧FB w0 w' N fb vb db cb rf rv Rb rd rc s kb kt S' l' S2 l2∧aG w w' db cb rd rc:=by
 obtain⟨v,lv,d,hp,hto⟩:=h.Ya;have hc:=Yf l z t;refine(Uh B LB n ho hn hp hr z t hz ht).mono ?_;rintro e w' (⟨h1,rfl,hs⟩ | ⟨h1,h2,rfl,hs⟩ | ⟨h1,h2,hok,v1,hne,h0,hf,hx⟩)
 ·exact⟨5,S,l,rfl,.inl ⟨h1,rfl,rfl,rfl⟩,ho.le (by omega),h.go hs,aG.ag hs⟩
 ·exact⟨12,S,l,rfl,.inr (.inl ⟨h1,h2,rfl,rfl,rfl⟩),ho.le (by omega),h.go hs,aG.ag hs⟩
 by_cases hw:(iO kb kt (aF l z t) t S).1=0
 ·obtain⟨l',d',dK,p,q,rfl,hok2,ha,hb⟩:=h0 hw;by_cases hd:(bq kb kt l' (iO kb kt (aF l z t) t S).2).1=0
  ·obtain⟨f1,f2⟩:=ha hd;exact⟨_,_,l',rfl,.inr (.inr (.inr ⟨h1,h2,hw,l',p,q,rfl,rfl,fun _=>rfl,fun hh=>absurd hd hh⟩)),hok2.le (by omega),hto _ _ _ _ _ _ f1 f2 hf hx⟩
  exact⟨_,_,l,rfl,.inr (.inr (.inr ⟨h1,h2,hw,l',p,q,rfl,rfl,fun hh=>absurd hh hd,fun _=>rfl⟩)),hok2.le (by omega),hto _ _ _ _ _ _ (hb hd) (Nl.refl _ _ _) hf hx⟩
 obtain⟨rfl,hF⟩:=hne hw;exact⟨_,_,l,rfl,.inr (.inr (.inl ⟨h1,h2,hw,rfl,rfl,rfl⟩)),hok.le (by omega),hto _ _ _ _ _ _ hF (Nl.refl _ _ _) hf hx⟩
theorem a8F (RB:ja Rb s kb kt)(LB:En.Lb w0)(ho:S2.ok n)(hdk:S2.D.ok)(hn:n+2000<900000000)(hr:En.right l2=true)(z t:ByteArray)(hz:z.size≤100000)(ht:t.size≤100000)(h:FB w0 w N fb vb db cb rf rv Rb rd rc s kb kt S l S2 l2) :
  Calls Tryz.prog 12 #[.pointer (some ⟨rf,0,none⟩),.string z,.string t] w fun e w'=>∃r S' l',e=.returned (.int .i64 r)∧vz kb kt S2 l2 z t r S' l'∧FB w0 w' N fb vb db cb rf rv Rb rd rc s kb kt S l S' l'∧aG w w' db cb rd rc:=by
 obtain⟨lv,d,hp,hto⟩:=h.VL;refine(kI RB LB n ho hn hdk hp hr z t hz ht).mono ?_;rintro e w' (⟨h1,rfl,hs⟩ | ⟨h1,h2,rfl,hs⟩ | ⟨h1,h2,hok,a8G,hne,h0,hf⟩)
 ·exact⟨5,S2,l2,rfl,.inl ⟨h1,rfl,rfl,rfl⟩,h.go hs,aG.ag hs⟩
 ·exact⟨12,S2,l2,rfl,.inr (.inl ⟨h1,h2,rfl,rfl,rfl⟩),h.go hs,aG.ag hs⟩
 by_cases hw:(iO kb kt (aF l2 z t) t S2).1=0
 ·obtain⟨l',d',dK,p,q,rfl,hok2,a0Y,ha,hb⟩:=h0 hw;by_cases hd:(bq kb kt l' (iO kb kt (aF l2 z t) t S2).2).1=0
  ·obtain⟨f1,f2⟩:=ha hd;exact⟨_,_,l',rfl,.inr (.inr (.inr ⟨h1,h2,hw,l',p,q,rfl,rfl,fun _=>rfl,fun hh=>absurd hd hh⟩)),hto _ _ _ _ _ f1 f2 hf⟩
  exact⟨_,_,l2,rfl,.inr (.inr (.inr ⟨h1,h2,hw,l',p,q,rfl,rfl,fun hh=>absurd hh hd,fun _=>rfl⟩)),hto _ _ _ _ _ (hb hd) (Nl.refl _ _ _) hf⟩
 obtain⟨rfl,hF⟩:=hne hw;exact⟨_,_,l2,rfl,.inr (.inr (.inl ⟨h1,h2,hw,rfl,rfl,rfl⟩)),hto _ _ _ _ _ hF (Nl.refl _ _ _) hf⟩
theorem a8H (B:Base w0 kb kt)(LB:En.Lb w0)(ho:S.ok n)(hn:n+2000<900000000)(hr:En.right l=true)(z:ByteArray)(h:FB w0 w N fb vb db cb rf rv Rb rd rc s kb kt S l S2 l2) :
  Calls Tryz.prog 13 #[.pointer (some ⟨fb,0,none⟩),.string z] w fun e w'=>∃r S' l',e=.returned (ev r)∧vB kb kt S l z r S' l'∧S'.ok (n+24)∧FB w0 w' N fb vb db cb rf rv Rb rd rc s kb kt S' l' S2 l2∧aG w w' db cb rd rc:=by
 obtain⟨v,lv,d,hp,hto⟩:=h.Ya;refine(Ue B LB n ho (by omega) hp hr z).mono ?_;rintro e w' (⟨h1,rfl,hs⟩ | ⟨h1,rfl,hok,d',dK,v',ha,hb,hf,hx⟩)
 ·exact⟨7,S,l,rfl,.inl ⟨h1,rfl,rfl,rfl⟩,ho.le (by omega),h.go hs,aG.ag hs⟩
 by_cases hd:(bq kb kt (aO l z) S).1=0
 ·obtain⟨f1,f2⟩:=ha hd;exact⟨_,_,_,rfl,.inr ⟨h1,rfl,rfl,fun _=>rfl,fun hh=>absurd hd hh⟩,hok.le (by omega),hto _ _ _ _ _ _ f1 f2 hf hx⟩
 exact⟨_,_,l,rfl,.inr ⟨h1,rfl,rfl,fun hh=>absurd hh hd,fun _=>rfl⟩,hok.le (by omega),hto _ _ _ _ _ _ (hb hd) (Nl.refl _ _ _) hf hx⟩
theorem a8I (RB:ja Rb s kb kt)(LB:En.Lb w0)(ho:S2.ok n)(hdk:S2.D.ok)(hn:n+2000<900000000)(hr:En.right l2=true)(z:ByteArray)(h:FB w0 w N fb vb db cb rf rv Rb rd rc s kb kt S l S2 l2) :
  Calls Tryz.prog 14 #[.pointer (some ⟨rf,0,none⟩),.string z] w fun e w'=>∃r S' l',e=.returned (.int .i64 r)∧vB kb kt S2 l2 z r S' l'∧FB w0 w' N fb vb db cb rf rv Rb rd rc s kb kt S l S' l'∧aG w w' db cb rd rc:=by
 obtain⟨lv,d,hp,hto⟩:=h.VL;refine(UI RB LB n ho (by omega) hdk hp hr z).mono ?_;rintro e w' (⟨h1,rfl,hs⟩ | ⟨h1,rfl,hok,a8G,d',dK,ha,hb,hf⟩)
 ·exact⟨7,S2,l2,rfl,.inl ⟨h1,rfl,rfl,rfl⟩,h.go hs,aG.ag hs⟩
 by_cases hd:(bq kb kt (aO l2 z) S2).1=0
 ·obtain⟨f1,f2⟩:=ha hd;exact⟨_,_,_,rfl,.inr ⟨h1,rfl,rfl,fun _=>rfl,fun hh=>absurd hd hh⟩,hto _ _ _ _ _ f1 f2 hf⟩
 exact⟨_,_,l2,rfl,.inr ⟨h1,rfl,rfl,fun hh=>absurd hh hd,fun _=>rfl⟩,hto _ _ _ _ _ (hb hd) (Nl.refl _ _ _) hf⟩
theorem FB.vto (h:FB w0 w N fb vb db cb rf rv Rb rd rc s kb kt S l S2 l2):∃v lv d,Fm w0 w fb vb db cb kb kt S v lv d l∧∀w' S',dB w0 w w' vb db cb kb kt S' v→FB w0 w' N fb vb db cb rf rv Rb rd rc s kb kt S' l S2 l2∧aG w w' db cb rd rc:=by
 obtain⟨v,lv,d,hp,hto⟩:=h.Ya;refine⟨v,lv,d,hp,fun w' S' hv=>?_⟩;obtain⟨v',h1,h2,h3⟩:=hp.vto hv;exact hto _ _ _ _ _ _ h1 (Nl.refl _ _ _) (bH h2 (fun k e=>.inr e)) h3
theorem FB.a1c (h:FB w0 w N fb vb db cb rf rv Rb rd rc s kb kt S l S2 l2):∃lv d,iW w0 w N rf rv Rb rd rc s S2 lv d l2∧∀w' S',iZ true w0 w w' N rv Rb rd rc s S'→FB w0 w' N fb vb db cb rf rv Rb rd rc s kb kt S l S' l2∧aG w w' db cb rd rc:=by
 obtain⟨lv,d,hp,hto⟩:=h.VL;exact⟨lv,d,hp,fun w' S' hv=>hto _ _ _ _ _ (hp.to hv.1 hv.2) (Nl.refl _ _ _) (RF.fsP hv.2)⟩
theorem Yg (B:Base w0 kb kt)(ho:S.ok n)(hn:n<1000000000)(h:FB w0 w N fb vb db cb rf rv Rb rd rc s kb kt S l S2 l2) :
  Calls Tryz.prog 15 #[.pointer (some ⟨fb,0,none⟩)] w fun e w'=>e=.returned (ev (S.flush kt).1)∧FB w0 w' N fb vb db cb rf rv Rb rd rc s kb kt (S.flush kt).2 l S2 l2∧aG w w' db cb rd rc:=by
 obtain⟨v,lv,d,hp,hto⟩:=h.vto;refine(JP B (ho.next (by omega)) ho.nc hp).mono ?_;rintro e w' ⟨rfl,hv⟩;exact⟨rfl,hto _ _ hv⟩
theorem Yh (RB:ja Rb s kb kt)(ho:S2.ok n)(hdk:S2.D.ok)(hn:n<1000000000)(h:FB w0 w N fb vb db cb rf rv Rb rd rc s kb kt S l S2 l2) :
  Calls Tryz.prog 16 #[.pointer (some ⟨rv,0,none⟩)] w fun e w'=>e=.returned (.int .i64 (S2.flush kt).1)∧FB w0 w' N fb vb db cb rf rv Rb rd rc s kb kt S l (S2.flush kt).2 l2∧aG w w' db cb rd rc:=by
 obtain⟨lv,d,hp,hto⟩:=h.a1c;refine(yT (q:=true) RB (ho.next (by omega)) hdk hp.dO).mono ?_;rintro e w' ⟨rfl,hv⟩;exact⟨rfl,hto _ _ hv⟩
theorem Qm (B:Base w0 kb kt)(ho:S.ok n)(hn:n<1000000000)(h:FB w0 w N fb vb db cb rf rv Rb rd rc s kb kt S l S2 l2) :
  Calls Tryz.prog 18 #[.pointer (some ⟨fb,0,none⟩)] w fun e w'=>e=.returned (.tuple #[.int .i64 (S.au kb kt).1.1,.bool (S.au kb kt).1.2.1,ev (S.au kb kt).1.2.2])∧FB w0 w' N fb vb db cb rf rv Rb rd rc s kb kt (S.au kb kt).2 l S2 l2∧aG w w' db cb rd rc:=by
 obtain⟨v,lv,d,hp,hto⟩:=h.vto;refine(Ce B ho hn hp).mono ?_;rintro e w' ⟨rfl,hv⟩;exact⟨rfl,hto _ _ hv⟩
theorem Qn (RB:ja Rb s kb kt)(ho:S2.ok n)(hdk:S2.D.ok)(hn:n<1000000000)(h:FB w0 w N fb vb db cb rf rv Rb rd rc s kb kt S l S2 l2) :
  Calls Tryz.prog 17 #[.pointer (some ⟨rv,0,none⟩)] w fun e w'=>e=.returned (.tuple #[.int .i64 (S2.au kb kt).1.1,.bool (S2.au kb kt).1.2.1,.int .i64 (S2.au kb kt).1.2.2])∧FB w0 w' N fb vb db cb rf rv Rb rd rc s kb kt S l (S2.au kb kt).2 l2∧aG w w' db cb rd rc:=by
 obtain⟨lv,d,hp,hto⟩:=h.a1c;refine(sP RB n ho hn hdk hp.dO).mono ?_;rintro e w' ⟨rfl,hv⟩;exact⟨rfl,hto _ _ hv⟩
theorem a1e (m:Int)(hm:m≤9223372036854775807)(h:FB w0 w N fb vb db cb rf rv Rb rd rc s kb kt S l S2 l2) :
  Calls Tryz.prog 21 #[.pointer (some ⟨db,0,none⟩),.int .i64 m] w fun e w'=>e=.returned (.tuple #[])∧FB w0 w' N fb vb db cb rf rv Rb rd rc s kb kt { S with D:=S.D.nL m } l S2 l2∧aG w w' db cb rd rc:=by
 obtain⟨v,lv,d,hp,hto⟩:=h.vto;refine(Dx S.D v db m w hp.dO.dev hm).mono ?_;rintro e w' ⟨rfl,hd',hf⟩;exact⟨rfl,hto _ _ (hp.dO.Ei hd' (Fr.wide hf) (Nx.refl _ _))⟩
theorem a1f (m:Int)(h:FB w0 w N fb vb db cb rf rv Rb rd rc s kb kt S l S2 l2) :
  Calls Tryz.prog 22 #[.pointer (some ⟨rd,0,none⟩),.int .i64 m] w fun e w'=>e=.returned (.tuple #[])∧FB w0 w' N fb vb db cb rf rv Rb rd rc s kb kt S l { S2 with D:=S2.D.nL m } l2∧aG w w' db cb rd rc:=by
 obtain⟨lv,d,hp,hto⟩:=h.a1c;obtain⟨zv,av,wv,hr⟩:=hp.dO.sV;refine(PO S2.D zv av wv rd N m w hr).mono ?_;rintro e w' ⟨rfl,hr',hf⟩;exact⟨rfl,hto _ _ (hp.dO.yQ hr hr' hf)⟩
end
section
variable {w0 w w':World} {N db cb Rb rd rc:Nat} {s kb kt:ByteArray} {c:Int} {D D1 D2:Dv}
theorem Yi (nk ns:Nat)(kv sv:Value)(ks:Nat→Int)(sl:Nat→Bool)(hk:Go.Proofs.YtlgbfkcpdelcbaaGreatDoor.Sl w db kv nk (fun j=>.int .i64 (ks j)))(hs:Go.Proofs.YtlgbfkcpdelcbaaGreatDoor.Sl w db sv ns (fun j=>.bool (sl j)))(h:BD w0 w N db cb Rb rd rc D1 D2 c) :
  Calls Tryz.prog 19 #[.pointer (some ⟨db,0,none⟩),kv,sv] w fun e w'=>e=.returned (.tuple #[])∧BD w0 w' N db cb Rb rd rc (D1.bZ nk ks ns sl) D2 c∧lY w w' db cb rd rc:=by
 obtain⟨v,hp,hv⟩:=h.p;refine(Om D1 v db nk ns kv sv ks sl w hp.dev hk hs).mono ?_;rintro e w' ⟨rfl,hd',hf⟩;exact⟨rfl,h.Ya hp hv hd' (Fr.wide hf) (Nx.none _ _)⟩
theorem Yj (nk ns:Nat)(kv sv:Value)(ks:Nat→Int)(sl:Nat→Bool)(hok:D2.ok)(hk:Go.Proofs.YtlgbfkcpdelcbaaGreatDoor.Sl w rd kv nk (fun j=>.int .i64 (ks j)))(hs:Go.Proofs.YtlgbfkcpdelcbaaGreatDoor.Sl w rd sv ns (fun j=>.bool (sl j)))(h:BD w0 w N db cb Rb rd rc D1 D2 c) :
  Calls Tryz.prog 20 #[.pointer (some ⟨rd,0,none⟩),kv,sv] w fun e w'=>e=.returned (.tuple #[])∧BD w0 w' N db cb Rb rd rc D1 (D2.bZ nk ks ns sl) c∧lY w w' db cb rd rc:=by
 obtain⟨lv,av,wv,hr⟩:=h.r.sV;refine(JY D2 lv av wv rd N nk ns kv sv ks sl w hr hok hk hs).mono ?_;rintro e w' ⟨rfl,⟨dK,hr'⟩,hf⟩;exact⟨rfl,h.VL hr' hf⟩
end
structure OMf (w0 w:World)(N db cb Rb rd rc:Nat)(s:ByteArray)(D:Dv)(c r:Int)(S':Vs)(rr:Int)(a:Value):Prop where
 ap:Apart N db cb Rb rd rc
 nN:N≤w.heap.size
 sd:∃v,(DC w0 w db cb D c v∧∀k,v.ownBlock=some k→N≤k)∧
  ((r≠0∧rr=r∧a=.pointer none)∨(r=0∧En.parse (eQ S'.X [0,1,2])=none∧rr=15∧a=.pointer none)∨
   (r=0∧∃l rf rv lv d,En.parse (eQ S'.X [0,1,2])=some l∧rr=0∧a=.pointer (some ⟨rf,0,none⟩)∧N≤rf∧iW w0 w N rf rv Rb rd rc s S' lv d l∧Off (fun k=>k=db∨k=cb∨v.ownBlock=some k) lv d))
 opn:gM (dY s) (dM s) (fresh D c) r S'
 ws:D.ws.length≤1
 c0:0≤c
section
variable {w0 w w':World} {N db cb Rb rd rc:Nat} {s:ByteArray} {c r rr:Int} {D:Dv} {S':Vs} {a:Value}
theorem Ko (RB:ja Rb s (dY s) (dM s))(LB:En.Lb w0)(hs:s.size=16)(hc:0≤c∧c<1000000000)(hw:D.ws.length≤1)(h:BD w0 w N db cb Rb rd rc D D c) :
  Calls Tryz.prog 7 #[.pointer (some ⟨Rb,0,none⟩),.pointer (some ⟨rd,0,none⟩),.pointer (some ⟨rc,0,none⟩),.string s] w fun e w'=>∃rr a r S',e=.returned (.tuple #[a,.int .i64 rr])∧OMf w0 w' N db cb Rb rd rc s D c r S' rr a∧lY w w' db cb rd rc:=by
 obtain⟨v,hp,hv⟩:=h.p;refine(Kn RB LB hs h.Zf hc hw h.r).mono ?_;rintro e w' ⟨rv,r,S',hto,Zc,hr',hf,he⟩;have hlo:=h.r.lo;have hN:=h.nN;have hsz:=h.since.size;have hlt:=h.ap.lt;have hK:lY w w' db cb rd rc:=⟨hf.size,hf.os,hf.tape,hf.output,fun k hk=>hk.rf (fun h=>by omega) hf⟩
 have hp':DC w0 w' db cb D c v:=hp.rf h.ap hv (fun h=>by omega) (by omega) ⟨hlo.2.1,hlo.2.2,by omega⟩ hf;rcases he with⟨h0,rfl⟩ | ⟨h0,h1,rfl⟩ | ⟨h0,l,rf,lv,d,h1,rfl,hrf,hF,hnl⟩
 ·exact⟨r,.pointer none,r,S',rfl,⟨h.ap,Nat.le_trans hN hf.size,⟨v,⟨hp',hv⟩,.inl ⟨h0,rfl,rfl⟩⟩,hto,hw,hc.1⟩,hK⟩
 ·exact⟨15,.pointer none,r,S',rfl,⟨h.ap,Nat.le_trans hN hf.size,⟨v,⟨hp',hv⟩,.inr (.inl ⟨h0,by rw[En.xQ];exact h1,rfl,rfl⟩)⟩,hto,hw,hc.1⟩,hK⟩
 refine⟨0,_,r,S',rfl,⟨h.ap,Nat.le_trans hN hf.size,⟨v,⟨hp',hv⟩,.inr (.inr ⟨h0,l,rf,rv,lv,d,by rw[En.xQ];exact h1,rfl,rfl,by omega,hF,?_⟩)⟩,hto,hw,hc.1⟩,hK⟩;have hP:∀k,(k=db∨k=cb∨v.ownBlock=some k)→k<w.heap.size:=by
  rintro k (e | e | e)
  ·omega
  ·omega
  exact hp.dev.glt k e
 have h0:Off (fun k=>k=db∨k=cb∨v.ownBlock=some k) (.slice none 0 0) []:=⟨fun k o n c e=>by simp at e,fun x hx=>by simp at hx⟩
 exact h0.nl hnl (fun k hk=>⟨hP k hk,hk⟩)
theorem iW.fsD {rf rv:Nat}{v lv:Value}{d:List Fv}{l:List Fi}(A:Apart N db cb Rb rd rc)(hp:DC w0 w db cb D c v)(hown:∀k,v.ownBlock=some k→N≤k)(hr:iW w0 w N rf rv Rb rd rc s S' lv d l)(hnr:N≤rf)(hoff:Off (fun k=>k=db∨k=cb∨v.ownBlock=some k) lv d)(hf:Vl.Fs (fun k=>k=db∨k=cb∨v.ownBlock=some k) w w'):iW w0 w' N rf rv Rb rd rc s S' lv d l:=by
 have hlt:=A.lt;have ho:=nD hp.dev;have hfl:rf<w.heap.size:=World.block_lt_of_cell? w _ hr.c0;have hfp:¬(rf=db∨rf=cb∨v.ownBlock=some rf):=by
  rintro (e | e | e)
  ·omega
  ·omega
  exact absurd ((ho _ e).one hr.ty) (by decide)
 refine⟨hr.dO.fsD A hown hp hf,(hf.cell hfl hfp).trans hr.c0,(hf.cell hfl hfp).trans hr.c1,(hf.frozen hfl hfp).trans hr.fz,hr.lo,hr.Kk,hr.ty.blk (hf.block rf hfl hfp),hr.sr.fs hf (fun k o n c e=>⟨(hr.blk k o n c e).1,hoff.1 k o n c e⟩),fun k o n c e=>⟨Nat.lt_of_lt_of_le (hr.blk k o n c e).1 hf.size,(hr.blk k o n c e).2⟩,⟨hr.each.len,fun j f x hj hx=>?_⟩⟩;obtain⟨h1,h2,h3,h4⟩:=hr.each.each j f x hj hx;exact⟨h1,h2,iV h3 hf (fun k o e=>⟨(h4 k o e).1,hoff.2 x (List.mem_of_getElem? hx) k o e⟩),fun k o e=>⟨Nat.lt_of_lt_of_le (h4 k o e).1 hf.size,(h4 k o e).2⟩⟩
def Op2 (w0 w:World)(N db cb Rb rd rc:Nat)(s:ByteArray)(n rr:Int)(a b:Value):Prop:=
 (rr≠0∧a=.pointer none∧b=.pointer none)∨(rr=0∧∃fb vb rf rv S l,a=.pointer (some ⟨rf,0,none⟩)∧b=.pointer (some ⟨fb,0,none⟩)∧FB w0 w N fb vb db cb rf rv Rb rd rc s (dY s) (dM s) S l S l∧S.ok n∧En.right l=true)
theorem Kq (hT:Sm.kM w0)(LB:En.Lb w0)(hs:s.size=16)(hc:c<1000000000)(h:OMf w0 w N db cb Rb rd rc s D c r S' rr a) :
  Calls Tryz.prog 8 #[.pointer (some ⟨db,0,none⟩),.pointer (some ⟨cb,0,none⟩),.string s] w fun e w'=>∃b,e=.returned (.tuple #[b,ev rr])∧Op2 w0 w' N db cb Rb rd rc s (c+1) rr a b∧Since w0 w'∧lY w w' db cb rd rc:=by
 obtain⟨v,⟨hp,hv⟩,hR⟩:=h.sd;have hlt:=h.ap.lt;refine(PK s hs hT LB ⟨h.c0,hc⟩ h.ws hp).mono ?_;rintro e w' ⟨vb,r1,S1,v',hto,hvb,hp',hf,hn,he⟩;obtain⟨rfl,rfl⟩:=gM.one hto h.opn;have hK:lY w w' db cb rd rc:=⟨hf.size,hf.os,hf.tape,hf.output,fun k hk=>hk.fsD (nD hp.dev) hf⟩
 have hN:=h.nN;rcases he with⟨h0,rfl⟩ | ⟨h0,h1,rfl⟩ | ⟨h0,l,fb,lv,d,h1,rfl,Be,hF,hnl⟩
 ·rcases hR with⟨_,rfl,rfl⟩ | ⟨e0,_⟩ | ⟨e0,_⟩
  ·exact⟨.pointer none,rfl,.inl ⟨h0,rfl,rfl⟩,hp'.since,hK⟩
  ·exact absurd e0 h0
  exact absurd e0 h0
 ·rcases hR with⟨e0,_⟩ | ⟨_,_,rfl,rfl⟩ | ⟨_,l',rf,rv,dK,d',e1,_⟩
  ·exact absurd h0 e0
  ·exact⟨.pointer none,rfl,.inl ⟨by decide,rfl,rfl⟩,hp'.since,hK⟩
  rw[h1] at e1;cases e1
 rcases hR with⟨e0,_⟩ | ⟨_,e1,_⟩ | ⟨_,l',rf,rv,lr,dr,e1,rfl,rfl,hrf,hFr,hoff⟩
 ·exact absurd h0 e0
 ·rw[h1] at e1;cases e1
 rw[h1] at e1;injection e1 with e1
 subst e1;have hright:=((En.pQ _ _).1 h1).1;have a8J:=iW.fsD h.ap hp hv hFr hrf hoff hf;have hrb:∀k o n c,lr=.slice (some ⟨k,o,none⟩) n c→k<w.heap.size:=fun k o n c e=>(hFr.blk k o n c e).1
 have hrd:∀x ∈ dr,∀k o,x.2.2.1=some ⟨k,o,none⟩→k<w.heap.size:=fun x hx k o e=>by
  obtain⟨j,hj,ej⟩:=List.getElem_of_mem hx;have hjl:j<l.length:=by rw[hFr.each.len];exact hj
  exact((hFr.each.each j l[j] x (List.getElem?_eq_getElem hjl) (by rw[←ej];exact List.getElem?_eq_getElem hj)).2.2.2 k o e).1
 have hno:∀k,k<w.heap.size→¬(k=db∨k=cb∨v.ownBlock=some k)→¬(k=fb∨VP vb db cb v' k):=by
  rintro k hk hq (e | e | e | e | e)
  ·omega
  ·omega
  ·exact hq (.inl e)
  ·exact hq (.inr (.inl e))
  rcases hn k e with h2 | h2
  ·exact hq (.inr (.inr h2))
  omega
 have h00:Off (RP rf rv rd rc) (.slice none 0 0) []:=⟨fun k o n c e=>by simp at e,fun x hx=>by simp at hx⟩
 refine⟨_,rfl,.inr ⟨rfl,fb,vb,rf,rv,_,l,rfl,rfl,⟨h.ap,Nat.le_trans hN hf.size,v',⟨⟨lv,d,hF,h00.nl hnl (fun k hk=>⟨hFr.lt k hk,hk⟩)⟩,fun k hk=>?_,by omega,by omega⟩,⟨lr,dr,a8J,fun k o n c e=>hno k (hrb k o n c e) (hoff.1 k o n c e),fun x hx k o e=>hno k (hrd x hx k o e) (hoff.2 x hx k o e)⟩,hrf⟩,gM.ok' hto h.ws h.c0 h0,hright⟩,hp'.since,hK⟩;rcases hn k hk with h2 | h2
 ·exact hv k h2
 omega
end
end Fl
end
section
namespace Fl
open Go.RowKit Go.Sort Go.Shelf
open En (Fi fA Ints dF Row aI)
open Vl
def cL:Code→Code
 | .seq a _=>a
 | c=>c
def cR:Code→Code
 | .seq _ a=>a
 | c=>c
def cB:Code→Code
 | .block _ a=>a
 | .loop a=>a
 | c=>c
structure FC (w:World)(db cb rd rc xb:Nat)(wh nn:Int)(z t:ByteArray):Prop where
 c0:w.cell? ⟨xb,0,none⟩=some (.int .i64 wh)
 c1:w.cell? ⟨xb,1,none⟩=some (.int .i64 nn)
 c2:w.cell? ⟨xb,2,none⟩=some (.string z)
 c3:w.cell? ⟨xb,3,none⟩=some (.string t)
 safe:sS w db cb rd rc xb
theorem FC.keeps {w w':World}{db cb rd rc xb:Nat}{wh nn:Int}{z t:ByteArray}(h:FC w db cb rd rc xb wh nn z t)(hk:aG w w' db cb rd rc):FC w' db cb rd rc xb wh nn z t:=by
 have e:=hk.2 xb h.safe;exact⟨(World.cell?_of_block (w:=w) (a:=⟨xb,0,none⟩) e).trans h.c0,(World.cell?_of_block (w:=w) (a:=⟨xb,1,none⟩) e).trans h.c1,(World.cell?_of_block (w:=w) (a:=⟨xb,2,none⟩) e).trans h.c2,(World.cell?_of_block (w:=w) (a:=⟨xb,3,none⟩) e).trans h.c3,h.safe.blk e⟩
theorem FB.Zj {w0 w:World}{N fb vb db cb rf rv Rb rd rc:Nat}{s kb kt:ByteArray}{S S2:Vs}{l l2:List Fi}(h:FB w0 w N fb vb db cb rf rv Rb rd rc s kb kt S l S2 l2):w.cell? ⟨rf,0,none⟩=some (.pointer (some ⟨rv,0,none⟩)):=by
 obtain⟨lv,d,hp,_⟩:=h.VL;exact hp.c0
theorem Co (W:World)(v:Value)(ty b:Nat)(f:Nat→Value)(hv:f 0=v)(hb:b<W.heap.size):Go.Proofs.YtlgbfkcpdelcbaaGreatDoor.Sl (W.alloc (.cells #[v] ty)) b (.slice (some ⟨W.heap.size,0,none⟩) 1 1) 1 f:=by
 refine⟨_,1,rfl,fun _=>⟨W.heap.size,0,rfl,by omega,fun j hj=>?_⟩⟩;obtain rfl:j=0:=by omega
 rw[hv];simp
theorem Sl.UL {w w':World}{b n:Nat}{v:Value}{f:Nat→Value}(h:Go.Proofs.YtlgbfkcpdelcbaaGreatDoor.Sl w b v n f)(hs:Since w w'):Go.Proofs.YtlgbfkcpdelcbaaGreatDoor.Sl w' b v n f:=by
 obtain⟨a,c,hv,hh⟩:=h;refine⟨a,c,hv,fun hn=>?_⟩;obtain⟨k,o,ha,hk,hc⟩:=hh hn;exact⟨k,o,ha,hk,fun j hj=>(hs.cell (p:=⟨k,o+j,none⟩) (World.block_lt_of_cell? w _ (hc j hj))).trans (hc j hj)⟩
structure FD (w0 wx w:World)(N fb vb db cb rf rv Rb rd rc:Nat)(s:ByteArray)(S:Vs)(l:List Fi)(n:Int):Prop where
 fb:FB w0 w N fb vb db cb rf rv Rb rd rc s (dY s) (dM s) S l S l
 ok:S.ok n
 right:En.right l=true
 keeps:aG wx w db cb rd rc
theorem a1g (code:Code)(hcode:code=cR (cL (cR (cR (cR (cB (cL (cR (cB (cB (cR (cL (cR (cR (cR (cR (cR (cR (cR (cR (cR (Tryz.f3.body.getD .skip))))))))))))))))))))))(w0 wx:World)(N fb vb db cb rf rv Rb rd rc xb:Nat)(s:ByteArray)(S:Vs)(l:List Fi)(n wh nn:Int)(z t:ByteArray)(jE:Hid (FB w0 wx N fb vb db cb rf rv Rb rd rc s (dY s) (dM s) S l S l))(cO:Hid (S.ok n∧En.right l=true∧n<1000000))(Ci:Hid (FC wx db cb rd rc xb wh nn z t))(HZT:Hid (z.size≤100000∧t.size≤100000))(HB:Hid (Base w0 (dY s) (dM s)))(QE:Hid (ja Rb s (dY s) (dM s)))(HE:Hid (Et w0))(HT:Hid (Sm.kM w0∧En.Lb w0∧s.size=16))(VZ:Hid (nn≤9223372036854775807))(QA:Hid (s=⟨#[48,49,50,51,52,53,54,55,56,57,97,98,99,100,101,102]⟩))(K:Act→World→Prop)(Q':Exit→Act→World→Prop)(HQP:Hid (∀c a (d:Nat) v w,Q' (.panic c) (a.put (some d) v) w→Q' (.panic c) a w))(t0 t1 t2 t9 t11 t12 t15 t16 t17 t18 t19 t20 t21 t22 t23 t24 t25 t26 t27 t28 t29 t30 t31 t32 t33 t34 t35 t36 t37 t38 t39 t40 t41 t42 t43 t44 t45 t46 t47 t48 t49 t50 t51 t52 t53 t54 t55 t56 t57 t58 t59 t60 t61 t62 t63 t64 t65 t66 t67 t68 t69 t70 t72 t73 t74 t75 t76 t77 t78 t79 t80 t81 t82 t83 t84 t85 t86 t87 t88 t89 t90 t91 t92 t93 t94 t95 t96 t97 t98 t99 Kr Kt Ku Kv Kw t105 Ky t107 Kz t109 KA KC KD KE KF KG t116 t117 KH t119 KI KJ KL KM t124 KN KO t127 KP KQ t130 t131 KR KS KT KU KV KW t138 t139 KX t141 KY t143 KZ t145 t146 La t148 Lc Ld Le t152 Lf t154 Lg t156 t157 Lh t159 t160 Li t162 Lj t164 Ll Lm t167 t168 Lp Lr t171 Lt t173 Lu t175 Lv Lx LA LC LF LG t182 t183 LH LJ LK LM LP LQ LU LV LW t193 t194 LX t196 LY t198 FE FH t201 FI t203 FJ FK t206 FL t208 FM t210 FN t212 t213 FO FQ FT FU t218 FV FW FX t222 FY FZ Ga t226 t227 t228 t229 Gb Gc t232 t233 t234 Gf t236 Gg Gh Gi Gj Gl Gm Gn Gp Gq Gr Gs Gt Gu Gv Gw Gx Gy Gz GD GG GH GJ GL GM GN GQ GU:Value)(HQR:Hid (∀(wc:World),Since w0 wc→∀(z8 z10 z11 z15 z16 z17 z18 z19 z20 z21 z72 z73 z74 z75 z76 z77 z78 z79 z80 z81 z82 z83 z84 z85 z86 z87 z88 z89 z90 z91 z92 z93 z94 z95 z96 z97 z98 z99 a1v a1w a1x a1y a1z z105 a1A z107 a1B z109 a1C a1D a1E a1F a1G a1H z116 z117 a1I z119 a1J a1K a1L a1M z124 a1N a1O z127 a1P a1Q z130 z131 a1R a1S a1T a1U a1V a1W z138 z139 a1X z141 a1Y z143 a1Z z145 z146 a2a z148 a2b a2c a2e z152 a2f z154 a2g z156 z157 a2h z159 z160 a2i z162 a2j z164 a2k a2l z167 z168 a2m a2n z171 a2o z173 a2p z175 a2q a2r a2s a2t a2u a2v z182 z183 a2w a2x a2y a2z a2A a2B a2C a2D a2E z193 z194 a2F z196 a2G:Value),Q' .ret ⟨#[t0,t1,.bool true,.pointer (some ⟨Rb,0,none⟩),.pointer (some ⟨rd,0,none⟩),.pointer (some ⟨db,0,none⟩),.pointer (some ⟨cb,0,none⟩),.pointer (some ⟨rc,0,none⟩),z8,t9,z10,z11,t12,.pointer (some ⟨xb,0,none⟩),.bool true,z15,z16,z17,z18,z19,z20,z21,t22,t23,t24,t25,t26,t27,t28,t29,t30,t31,t32,t33,t34,t35,t36,t37,t38,t39,t40,t41,t42,t43,t44,t45,t46,t47,t48,t49,t50,t51,t52,t53,t54,t55,t56,t57,t58,t59,t60,t61,t62,t63,t64,t65,t66,t67,t68,t69,t70,.int .i64 wh,z72,z73,z74,z75,z76,z77,z78,z79,z80,z81,z82,z83,z84,z85,z86,z87,z88,z89,z90,z91,z92,z93,z94,z95,z96,z97,z98,z99,a1v,a1w,a1x,a1y,a1z,z105,a1A,z107,a1B,z109,a1C,a1D,a1E,a1F,a1G,a1H,z116,z117,a1I,z119,a1J,a1K,a1L,a1M,z124,a1N,a1O,z127,a1P,a1Q,z130,z131,a1R,a1S,a1T,a1U,a1V,a1W,z138,z139,a1X,z141,a1Y,z143,a1Z,z145,z146,a2a,z148,a2b,a2c,a2e,z152,a2f,z154,a2g,z156,z157,a2h,z159,z160,a2i,z162,a2j,z164,a2k,a2l,z167,z168,a2m,a2n,z171,a2o,z173,a2p,z175,a2q,a2r,a2s,a2t,a2u,a2v,z182,z183,a2w,a2x,a2y,a2z,a2A,a2B,a2C,a2D,a2E,z193,z194,a2F,z196,a2G,t198,FE,FH,t201,FI,t203,FJ,FK,t206,FL,t208,FM,t210,FN,t212,t213,FO,FQ,FT,FU,t218,FV,FW,FX,t222,FY,FZ,Ga,t226,t227,t228,t229,Gb,Gc,t232,t233,t234,Gf,t236,Gg,Gh,Gi,Gj,Gl,Gm,Gn,Gp,Gq,Gr,Gs,Gt,Gu,Gv,Gw,Gx,Gy,Gz,GD,GG,GH,GJ,GL,GM,GN,GQ,GU],[]⟩ wc))(HKK:Hid (∀(wc:World) (QF UM QG rv':Nat) (S':Vs) (l':List Fi),FD w0 wx wc N QF UM db cb QG rv' Rb rd rc s S' l' (n+40)→∀(z11 z15 z16 z17 z18 z19 z20 z21 z72 z73 z74 z75 z76 z77 z78 z79 z80 z81 z82 z83 z84 z85 z86 z87 z88 z89 z90 z91 z92 z93 z94 z95 z96 z97 z98 z99 a1v a1w a1x a1y a1z z105 a1A z107 a1B z109 a1C a1D a1E a1F a1G a1H z116 z117 a1I z119 a1J a1K a1L a1M z124 a1N a1O z127 a1P a1Q z130 z131 a1R a1S a1T a1U a1V a1W z138 z139 a1X z141 a1Y z143 a1Z z145 z146 a2a z148 a2b a2c a2e z152 a2f z154 a2g z156 z157 a2h z159 z160 a2i z162 a2j z164 a2k a2l z167 z168 a2m a2n z171 a2o z173 a2p z175 a2q a2r a2s a2t a2u a2v z182 z183 a2w a2x a2y a2z a2A a2B a2C a2D a2E z193 z194 a2F z196 a2G:Value),K ⟨#[t0,t1,t2,.pointer (some ⟨Rb,0,none⟩),.pointer (some ⟨rd,0,none⟩),.pointer (some ⟨db,0,none⟩),.pointer (some ⟨cb,0,none⟩),.pointer (some ⟨rc,0,none⟩),.pointer (some ⟨QG,0,none⟩),t9,.pointer (some ⟨QF,0,none⟩),z11,t12,.pointer (some ⟨xb,0,none⟩),.bool true,z15,z16,z17,z18,z19,z20,z21,t22,t23,t24,t25,t26,t27,t28,t29,t30,t31,t32,t33,t34,t35,t36,t37,t38,t39,t40,t41,t42,t43,t44,t45,t46,t47,t48,t49,t50,t51,t52,t53,t54,t55,t56,t57,t58,t59,t60,t61,t62,t63,t64,t65,t66,t67,t68,t69,t70,.int .i64 wh,z72,z73,z74,z75,z76,z77,z78,z79,z80,z81,z82,z83,z84,z85,z86,z87,z88,z89,z90,z91,z92,z93,z94,z95,z96,z97,z98,z99,a1v,a1w,a1x,a1y,a1z,z105,a1A,z107,a1B,z109,a1C,a1D,a1E,a1F,a1G,a1H,z116,z117,a1I,z119,a1J,a1K,a1L,a1M,z124,a1N,a1O,z127,a1P,a1Q,z130,z131,a1R,a1S,a1T,a1U,a1V,a1W,z138,z139,a1X,z141,a1Y,z143,a1Z,z145,z146,a2a,z148,a2b,a2c,a2e,z152,a2f,z154,a2g,z156,z157,a2h,z159,z160,a2i,z162,a2j,z164,a2k,a2l,z167,z168,a2m,a2n,z171,a2o,z173,a2p,z175,a2q,a2r,a2s,a2t,a2u,a2v,z182,z183,a2w,a2x,a2y,a2z,a2A,a2B,a2C,a2D,a2E,z193,z194,a2F,z196,a2G,t198,FE,FH,t201,FI,t203,FJ,FK,t206,FL,t208,FM,t210,FN,t212,t213,FO,FQ,FT,FU,t218,FV,FW,FX,t222,FY,FZ,Ga,t226,t227,t228,t229,Gb,Gc,t232,t233,t234,Gf,t236,Gg,Gh,Gi,Gj,Gl,Gm,Gn,Gp,Gq,Gr,Gs,Gt,Gu,Gv,Gw,Gx,Gy,Gz,GD,GG,GH,GJ,GL,GM,GN,GQ,GU],[]⟩ wc)):Code.wp Tryz.prog code (Exit.then K Q') ⟨#[t0,t1,t2,.pointer (some ⟨Rb,0,none⟩),.pointer (some ⟨rd,0,none⟩),.pointer (some ⟨db,0,none⟩),.pointer (some ⟨cb,0,none⟩),.pointer (some ⟨rc,0,none⟩),.pointer (some ⟨rf,0,none⟩),t9,.pointer (some ⟨fb,0,none⟩),t11,t12,.pointer (some ⟨xb,0,none⟩),.bool true,t15,t16,t17,t18,t19,t20,t21,t22,t23,t24,t25,t26,t27,t28,t29,t30,t31,t32,t33,t34,t35,t36,t37,t38,t39,t40,t41,t42,t43,t44,t45,t46,t47,t48,t49,t50,t51,t52,t53,t54,t55,t56,t57,t58,t59,t60,t61,t62,t63,t64,t65,t66,t67,t68,t69,t70,.int .i64 wh,t72,t73,t74,t75,t76,t77,t78,t79,t80,t81,t82,t83,t84,t85,t86,t87,t88,t89,t90,t91,t92,t93,t94,t95,t96,t97,t98,t99,Kr,Kt,Ku,Kv,Kw,t105,Ky,t107,Kz,t109,KA,KC,KD,KE,KF,KG,t116,t117,KH,t119,KI,KJ,KL,KM,t124,KN,KO,t127,KP,KQ,t130,t131,KR,KS,KT,KU,KV,KW,t138,t139,KX,t141,KY,t143,KZ,t145,t146,La,t148,Lc,Ld,Le,t152,Lf,t154,Lg,t156,t157,Lh,t159,t160,Li,t162,Lj,t164,Ll,Lm,t167,t168,Lp,Lr,t171,Lt,t173,Lu,t175,Lv,Lx,LA,LC,LF,LG,t182,t183,LH,LJ,LK,LM,LP,LQ,LU,LV,LW,t193,t194,LX,t196,LY,t198,FE,FH,t201,FI,t203,FJ,FK,t206,FL,t208,FM,t210,FN,t212,t213,FO,FQ,FT,FU,t218,FV,FW,FX,t222,FY,FZ,Ga,t226,t227,t228,t229,Gb,Gc,t232,t233,t234,Gf,t236,Gg,Gh,Gi,Gj,Gl,Gm,Gn,Gp,Gq,Gr,Gs,Gt,Gu,Gv,Gw,Gx,Gy,Gz,GD,GG,GH,GJ,GL,GM,GN,GQ,GU],[]⟩ wx:=by
 have c0:=Ci.o.c0;rw[hcode];clear hcode;dsimp only[Tryz.f3,cL,cR,cB,Option.getD];by_cases q0:wh=0
 ·subst q0;have Qo:Hid (∀W,aG wx W db cb rd rc→W.cell? ⟨xb,2,none⟩=some (.string z)∧W.cell? ⟨xb,3,none⟩=some (.string t)):=fun W hk=>⟨(Ci.o.keeps hk).c2,(Ci.o.keeps hk).c3⟩
  go_wp2_with fail
  clear c0;go_region_held3 (fun W=>W.cell? ⟨xb,2,none⟩=some (.string z)∧W.cell? ⟨xb,3,none⟩=some (.string t)) (first | exact Qo.o _ (aG.ag (Since.refl _)) | exact Qo.o _ (aG.ag (Since.refl _).drew) | exact Qo.o _ VM.o | exact Qo.o _ Hg.o | exact Qo.o _ Hl.o) (first
   | (go_simp;go_at_call 11;refine(a8E HB.o HT.o.2.1 cO.o.1 (by have:=cO.o.2.2;omega) cO.o.2.1 z t HZT.o.1 HZT.o.2 (jE.o.go (Since.refl wx).drew)).mono ?_;rintro e w2 ⟨r1,S1,l1,rfl,hp1,ho1,hm2,hk2⟩;have HP1:=hid hp1;have pK:=hid ho1;have zW:=hid hm2;have Hl:Hid (aG wx w2 db cb rd rc):=(aG.ag (Since.refl wx).drew).trans hk2;clear hp1 ho1 hm2 hk2;dsimp only)
   | (go_simp;go_at_call 12;refine(a8F QE.o HT.o.2.1 cO.o.1 jE.o.Zf (by have:=cO.o.2.2;omega) cO.o.2.1 z t HZT.o.1 HZT.o.2 zW.o).mono ?_;rintro e w3 ⟨r2,S2,l2,rfl,hp2,hb3,hk3⟩;obtain⟨rfl,rfl,rfl⟩:=vz.one cO.o.2.1 HP1.o hp2;have HB3:=hid hb3;have Hg:=hid (Hl.o.trans hk3);clear hp2 hb3 hk3;dsimp only)
   | (go_simp;go_at_call 10;refine(nG _ _ (HE.o.since HB3.o.since)).mono ?_;rintro e w4 ⟨rfl,hs4⟩;have Dk:=hid (HB3.o.go hs4);have VM:Hid (aG wx w4 db cb rd rc):=Hg.o.trans (aG.ag hs4);clear hs4;dsimp only))
  go_wp2_with fail
  exact HKK.o _ fb vb rf rv S1 l1 ⟨Dk.o,pK.o.le (by omega),HP1.o.right cO.o.2.1,VM.o⟩ _ _ _ _ _ _ _ _ _ _ _ _ _ _ _ _ _ _ _ _ _ _ _ _ _ _ _ _ _ _ _ _ _ _ _ _ _ _ _ _ _ _ _ _ _ _ _ _ _ _ _ _ _ _ _ _ _ _ _ _ _ _ _ _ _ _ _ _ _ _ _ _ _ _ _ _ _ _ _ _ _ _ _ _ _ _ _ _ _ _ _ _ _ _ _ _ _ _ _ _ _ _ _ _ _ _ _ _ _ _ _ _ _ _ _ _ _ _ _ _ _ _ _ _ _ _ _ _ _ _ _ _ _ _
 by_cases q1:wh=1
 ·clear q0;subst q1;have Qo:Hid (∀W,aG wx W db cb rd rc→W.cell? ⟨xb,2,none⟩=some (.string z)):=fun W hk=>(Ci.o.keeps hk).c2
  go_wp2_with fail
  clear c0;go_region_held3 (fun W=>W.cell? ⟨xb,2,none⟩=some (.string z)) (first | exact Qo.o _ (aG.ag (Since.refl _)) | exact Qo.o _ (aG.ag (Since.refl _).drew) | exact Qo.o _ VM.o | exact Qo.o _ Hg.o | exact Qo.o _ Hl.o) (first
   | (go_simp;go_at_call 13;refine(a8H HB.o HT.o.2.1 cO.o.1 (by have:=cO.o.2.2;omega) cO.o.2.1 z (jE.o.go (Since.refl wx).drew)).mono ?_;rintro e w2 ⟨r1,S1,l1,rfl,hp1,ho1,hm2,hk2⟩;have HP1:=hid hp1;have pK:=hid ho1;have zW:=hid hm2;have Hl:Hid (aG wx w2 db cb rd rc):=(aG.ag (Since.refl wx).drew).trans hk2;clear hp1 ho1 hm2 hk2;dsimp only)
   | (go_simp;go_at_call 14;refine(a8I QE.o HT.o.2.1 cO.o.1 jE.o.Zf (by have:=cO.o.2.2;omega) cO.o.2.1 z zW.o).mono ?_;rintro e w3 ⟨r2,S2,l2,rfl,hp2,hb3,hk3⟩;obtain⟨rfl,rfl,rfl⟩:=vB.one HP1.o hp2;have HB3:=hid hb3;have Hg:=hid (Hl.o.trans hk3);clear hp2 hb3 hk3;dsimp only)
   | (go_simp;go_at_call 10;refine(nG _ _ (HE.o.since HB3.o.since)).mono ?_;rintro e w4 ⟨rfl,hs4⟩;have Dk:=hid (HB3.o.go hs4);have VM:Hid (aG wx w4 db cb rd rc):=Hg.o.trans (aG.ag hs4);clear hs4;dsimp only))
  go_wp2_with fail
  exact HKK.o _ fb vb rf rv S1 l1 ⟨Dk.o,pK.o.le (by omega),HP1.o.right cO.o.2.1,VM.o⟩ _ _ _ _ _ _ _ _ _ _ _ _ _ _ _ _ _ _ _ _ _ _ _ _ _ _ _ _ _ _ _ _ _ _ _ _ _ _ _ _ _ _ _ _ _ _ _ _ _ _ _ _ _ _ _ _ _ _ _ _ _ _ _ _ _ _ _ _ _ _ _ _ _ _ _ _ _ _ _ _ _ _ _ _ _ _ _ _ _ _ _ _ _ _ _ _ _ _ _ _ _ _ _ _ _ _ _ _ _ _ _ _ _ _ _ _ _ _ _ _ _ _ _ _ _ _ _ _ _ _ _ _ _ _
 by_cases q2:wh=2
 ·clear q0 q1;subst q2;have hFL:(S.flush (dM s)).2.ok (n+1):=cO.o.1.flush (dM s);obtain⟨R,hR⟩:∃R,S.flush (dM s)=R:=⟨_,rfl⟩
  obtain⟨r1,S1⟩:=R;rw[hR] at hFL;have Cx:=hid hFL;have HPP:Hid (∀W,FB w0 W N fb vb db cb rf rv Rb rd rc s (dY s) (dM s) S l S l→Calls Tryz.prog 15 #[.pointer (some ⟨fb,0,none⟩)] W fun e w'=>e=.returned (ev r1)∧FB w0 w' N fb vb db cb rf rv Rb rd rc s (dY s) (dM s) S1 l S l∧aG W w' db cb rd rc):=fun W h=>by
   have:=Yg HB.o cO.o.1 (by have:=cO.o.2.2;omega) h;rw[hR] at this;exact this
  have Xw:Hid (∀W,FB w0 W N fb vb db cb rf rv Rb rd rc s (dY s) (dM s) S1 l S l→Calls Tryz.prog 16 #[.pointer (some ⟨rv,0,none⟩)] W fun e w'=>e=.returned (.int .i64 r1)∧FB w0 w' N fb vb db cb rf rv Rb rd rc s (dY s) (dM s) S1 l S1 l∧aG W w' db cb rd rc):=fun W h=>by
   have:=Yh QE.o cO.o.1 jE.o.Zf (by have:=cO.o.2.2;omega) h;rw[hR] at this;exact this
  clear hR hFL;have p0:=jE.o.Zj;have Qo:=hid ((jE.o.go (Since.refl wx).drew).Zj);clear p0;go_wp2_with fail
  clear c0;go_region_held3 (fun W=>W.cell? ⟨rf,0,none⟩=some (.pointer (some ⟨rv,0,none⟩))) (first | exact Qo.o | exact zW.o.Zj | exact HB3.o.Zj | exact Dk.o.Zj | exact jE.o.Zj) (first
   | (go_simp;go_at_call 15;refine(HPP.o _ (jE.o.go (Since.refl wx).drew)).mono ?_;rintro e w2 ⟨rfl,hm2,hk2⟩;have zW:=hid hm2;have Hl:Hid (aG wx w2 db cb rd rc):=(aG.ag (Since.refl wx).drew).trans hk2;clear hm2 hk2;dsimp only)
   | (go_simp;go_at_call 16;refine(Xw.o _ zW.o).mono ?_;rintro e w3 ⟨rfl,hb3,hk3⟩;have HB3:=hid hb3;have Hg:=hid (Hl.o.trans hk3);clear hb3 hk3;dsimp only)
   | (go_simp;go_at_call 10;refine(nG _ _ (HE.o.since HB3.o.since)).mono ?_;rintro e w4 ⟨rfl,hs4⟩;have Dk:=hid (HB3.o.go hs4);have VM:Hid (aG wx w4 db cb rd rc):=Hg.o.trans (aG.ag hs4);clear hs4;dsimp only))
  go_wp2_with fail
  exact HKK.o _ fb vb rf rv S1 l ⟨Dk.o,Cx.o.le (by omega),cO.o.2.1,VM.o⟩ _ _ _ _ _ _ _ _ _ _ _ _ _ _ _ _ _ _ _ _ _ _ _ _ _ _ _ _ _ _ _ _ _ _ _ _ _ _ _ _ _ _ _ _ _ _ _ _ _ _ _ _ _ _ _ _ _ _ _ _ _ _ _ _ _ _ _ _ _ _ _ _ _ _ _ _ _ _ _ _ _ _ _ _ _ _ _ _ _ _ _ _ _ _ _ _ _ _ _ _ _ _ _ _ _ _ _ _ _ _ _ _ _ _ _ _ _ _ _ _ _ _ _ _ _ _ _ _ _ _ _ _ _ _
 by_cases q3:wh=3
 ·clear q0 q1 q2;subst q3;have hFL:(S.au (dY s) (dM s)).2.ok (n+1):=cO.o.1.au (dY s) (dM s);obtain⟨R,hR⟩:∃R,S.au (dY s) (dM s)=R:=⟨_,rfl⟩
  obtain⟨⟨r1,r2,r3⟩,S1⟩:=R;rw[hR] at hFL;have Cx:=hid hFL;have Xw:Hid (Calls Tryz.prog 17 #[.pointer (some ⟨rv,0,none⟩)] wx fun e w'=>e=.returned (.tuple #[.int .i64 r1,.bool r2,.int .i64 r3])∧FB w0 w' N fb vb db cb rf rv Rb rd rc s (dY s) (dM s) S l S1 l∧aG wx w' db cb rd rc):=by
   have:=Qn QE.o cO.o.1 jE.o.Zf (by have:=cO.o.2.2;omega) jE.o;rw[hR] at this;exact this
  have HPP:Hid (∀W,FB w0 W N fb vb db cb rf rv Rb rd rc s (dY s) (dM s) S l S1 l→Calls Tryz.prog 18 #[.pointer (some ⟨fb,0,none⟩)] W fun e w'=>e=.returned (.tuple #[.int .i64 r1,.bool r2,ev r3])∧FB w0 w' N fb vb db cb rf rv Rb rd rc s (dY s) (dM s) S1 l S1 l∧aG W w' db cb rd rc):=fun W h=>by
   have:=Qm HB.o cO.o.1 (by have:=cO.o.2.2;omega) h;rw[hR] at this;exact this
  clear hR hFL;have p0:=jE.o.Zj;go_wp2_with fail
  clear c0;refine Xw.o.mono ?_;rintro e w2 ⟨rfl,hm2,hk2⟩;have zW:=hid hm2;have Hl:=hid hk2;clear hm2 hk2 p0;go_wp2_with fail
  refine(HPP.o _ zW.o).mono ?_;rintro e w3 ⟨rfl,hb3,hk3⟩;have HB3:=hid hb3;have Hg:=hid (Hl.o.trans hk3);clear hb3 hk3;generalize hev:ev r3=er at *;have Ho:Hid (∀W,Et W→Calls Tryz.prog 10 #[er,.int .i64 r3] W fun e w'=>e=.returned (.bool true)∧Since W w'):=fun W hW=>by rw[←hev];exact nG r3 W hW
  clear hev HPP;go_wp2_with fail
  refine(Ho.o _ (HE.o.since HB3.o.since)).mono ?_;rintro e w4 ⟨rfl,hs4⟩;have Dk:=hid (HB3.o.go hs4);have VM:=hid (Hg.o.trans (aG.ag hs4));clear hs4;cases r2
  ·go_wp2_with fail
   exact HKK.o _ fb vb rf rv S1 l ⟨Dk.o,Cx.o.le (by omega),cO.o.2.1,VM.o⟩ _ _ _ _ _ _ _ _ _ _ _ _ _ _ _ _ _ _ _ _ _ _ _ _ _ _ _ _ _ _ _ _ _ _ _ _ _ _ _ _ _ _ _ _ _ _ _ _ _ _ _ _ _ _ _ _ _ _ _ _ _ _ _ _ _ _ _ _ _ _ _ _ _ _ _ _ _ _ _ _ _ _ _ _ _ _ _ _ _ _ _ _ _ _ _ _ _ _ _ _ _ _ _ _ _ _ _ _ _ _ _ _ _ _ _ _ _ _ _ _ _ _ _ _ _ _ _ _ _ _ _ _ _ _
  go_wp2_with fail
  exact HKK.o _ fb vb rf rv S1 l ⟨Dk.o,Cx.o.le (by omega),cO.o.2.1,VM.o⟩ _ _ _ _ _ _ _ _ _ _ _ _ _ _ _ _ _ _ _ _ _ _ _ _ _ _ _ _ _ _ _ _ _ _ _ _ _ _ _ _ _ _ _ _ _ _ _ _ _ _ _ _ _ _ _ _ _ _ _ _ _ _ _ _ _ _ _ _ _ _ _ _ _ _ _ _ _ _ _ _ _ _ _ _ _ _ _ _ _ _ _ _ _ _ _ _ _ _ _ _ _ _ _ _ _ _ _ _ _ _ _ _ _ _ _ _ _ _ _ _ _ _ _ _ _ _ _ _ _ _ _ _ _ _
 by_cases q4:wh=4
 ·clear q0 q1 q2 q3;subst q4;have ZA:Hid (BD w0 wx N db cb Rb rd rc S.D S.D S.c):=jE.o.bd rfl;have yV:Hid (0≤S.c∧S.c<1000000000∧S.c≤n∧S.D.ws.length≤1):=⟨cO.o.1.c0,by have:=cO.o.1.cn;have:=cO.o.2.2;omega,cO.o.1.cn,cO.o.1.ws⟩
  have YU:Hid (aG wx wx db cb rd rc):=aG.ag (Since.refl _);generalize S.D=D at *;generalize S.c=c at *;have b4Z:=hid QE.o;have a2I:Hid (∀{Q:Ending→World→Prop},Calls Tryz.prog 7 #[.pointer (some ⟨Rb,0,none⟩),.pointer (some ⟨rd,0,none⟩),.pointer (some ⟨rc,0,none⟩),.string s] wx Q→Calls Tryz.prog 7 #[.pointer (some ⟨Rb,0,none⟩),.pointer (some ⟨rd,0,none⟩),.pointer (some ⟨rc,0,none⟩),.string ⟨#[48,49,50,51,52,53,54,55,56,57,97,98,99,100,101,102]⟩] wx Q):=fun h=>by rw[←QA.o];exact h
  go_wp2_with fail
  refine a2I.o ?_;refine(Ko QE.o HT.o.2.1 HT.o.2.2 ⟨yV.o.1,yV.o.2.1⟩ yV.o.2.2.2 ZA.o).mono ?_;rintro e w6 ⟨rr,a6,r,S6,rfl,Yk,YM⟩;have Cr:=hid Yk;have HK6:=hid (YU.o.trans (aG.of YM));clear Yk YM;have Ah:Hid (Calls Tryz.prog 8 #[.pointer (some ⟨db,0,none⟩),.pointer (some ⟨cb,0,none⟩),.string ⟨#[48,49,50,51,52,53,54,55,56,57,97,98,99,100,101,102]⟩] w6 fun e w'=>∃b,e=.returned (.tuple #[b,ev rr])∧Op2 w0 w' N db cb Rb rd rc s (c+1) rr a6 b∧Since w0 w'∧lY w6 w' db cb rd rc):=by
   have:=Kq HT.o.1 HT.o.2.1 HT.o.2.2 yV.o.2.1 Cr.o;rw[QA.o] at this ⊢;exact this
  go_wp2_with fail
  refine Ah.o.mono ?_;rintro e w7 ⟨b7,rfl,JO,hs7,hk7⟩;have QD:=hid JO;have mH:=hid hs7;have HK7:=hid (HK6.o.trans (aG.of hk7));clear JO hs7 hk7 Cr Ah;generalize hev:ev rr=er at *;have Ho:Hid (∀W,Et W→Calls Tryz.prog 10 #[er,.int .i64 rr] W fun e w'=>e=.returned (.bool true)∧Since W w'):=fun W hW=>by rw[←hev];exact nG rr W hW
  clear hev;by_cases hr:rr=0
  ·subst hr;rcases QD.o with⟨h0,_⟩ | ⟨_,QF,UM,QG,rv',S',l',rfl,rfl,Be,hok,mG⟩
   ·exact absurd rfl h0
   have Jj:=hid (an Be (an hok mG));clear Be hok mG QD;go_wp2_with fail
   refine(Ho.o _ (HE.o.since mH.o)).mono ?_;rintro e w8 ⟨rfl,Cz⟩;have HF8:Hid (FD w0 wx w8 N QF UM db cb QG rv' Rb rd rc s S' l' (n+40)):=⟨Jj.o.1.go Cz,Jj.o.2.1.le (by have:=yV.o.2.2.1;omega),Jj.o.2.2,HK7.o.trans (aG.ag Cz)⟩
   clear Cz;go_wp2_with fail
   exact HKK.o _ QF UM QG rv' S' l' HF8.o _ _ _ _ _ _ _ _ _ _ _ _ _ _ _ _ _ _ _ _ _ _ _ _ _ _ _ _ _ _ _ _ _ _ _ _ _ _ _ _ _ _ _ _ _ _ _ _ _ _ _ _ _ _ _ _ _ _ _ _ _ _ _ _ _ _ _ _ _ _ _ _ _ _ _ _ _ _ _ _ _ _ _ _ _ _ _ _ _ _ _ _ _ _ _ _ _ _ _ _ _ _ _ _ _ _ _ _ _ _ _ _ _ _ _ _ _ _ _ _ _ _ _ _ _ _ _ _ _ _ _ _ _ _
  have hrd:decide (rr=0)=false:=decide_eq_false hr;rcases QD.o with⟨_,rfl,rfl⟩ | ⟨h0,_⟩
  ·clear QD;go_wp2_with fail
   refine(Ho.o _ (HE.o.since mH.o)).mono ?_;rintro e w8 ⟨rfl,Cz⟩;have MP:=hid (mH.o.trans Cz);clear Cz;go_wp2_with fail
   refine(Ho.o _ (HE.o.since MP.o)).mono ?_;rintro e w9 ⟨rfl,hs9⟩;have Kj:=hid (MP.o.trans hs9);clear hs9;go_wp2_with fail
   exact HQR.o _ Kj.o _ _ _ _ _ _ _ _ _ _ _ _ _ _ _ _ _ _ _ _ _ _ _ _ _ _ _ _ _ _ _ _ _ _ _ _ _ _ _ _ _ _ _ _ _ _ _ _ _ _ _ _ _ _ _ _ _ _ _ _ _ _ _ _ _ _ _ _ _ _ _ _ _ _ _ _ _ _ _ _ _ _ _ _ _ _ _ _ _ _ _ _ _ _ _ _ _ _ _ _ _ _ _ _ _ _ _ _ _ _ _ _ _ _ _ _ _ _ _ _ _ _ _ _ _ _ _ _ _ _ _ _ _ _ _ _
  exact absurd h0 hr
 by_cases q6:wh=6
 ·clear q0 q1 q2 q3 q4;subst q6;have c1:=Ci.o.c1;have c1a:(wx.alloc (.cells #[.int .i64 nn] 3)).cell? ⟨xb,1,none⟩=some (.int .i64 nn):=(((Since.refl wx).alloc _).cell (p:=⟨xb,1,none⟩) Ci.o.safe.lt).trans c1;have a9b:Hid (BD w0 wx N db cb Rb rd rc S.D S.D S.c):=jE.o.bd rfl;have a2K:Hid (0≤S.c∧S.c<1000000000∧S.c≤n):=⟨cO.o.1.c0,by have:=cO.o.1.cn;have:=cO.o.2.2;omega,cO.o.1.cn⟩
  have HDK:=hid jE.o.Zf;have QC:Hid (db<wx.heap.size∧rd<wx.heap.size):=by
   have h1:=jE.o.ap.lt;have h2:=jE.o.nN;exact⟨by omega,by omega⟩
  generalize S.D=D0 at *;generalize S.c=c at *;have UN:=Co wx (.int .i64 nn) 3 db (fun _=>.int .i64 nn) rfl QC.o.1;have UO:=Co (wx.alloc (.cells #[.int .i64 nn] 3)) (.bool (decide (0<nn))) 4 db (fun _=>.bool (decide (0<nn))) rfl (by have:=QC.o.1;simp;omega);have LZ:Since wx ((wx.alloc (.cells #[.int .i64 nn] 3)).alloc (.cells #[.bool (decide (0<nn))] 4)):=((Since.refl wx).alloc _).alloc _;have GV:=Sl.UL UN ((Since.refl (wx.alloc (.cells #[.int .i64 nn] 3))).alloc (.cells #[.bool (decide (0<nn))] 4))
  have jS:Hid (Calls Tryz.prog 19 #[.pointer (some ⟨db,0,none⟩),.slice (some ⟨wx.heap.size,0,none⟩) 1 1,.slice (some ⟨(wx.alloc (.cells #[.int .i64 nn] 3)).heap.size,0,none⟩) 1 1] ((wx.alloc (.cells #[.int .i64 nn] 3)).alloc (.cells #[.bool (decide (0<nn))] 4)) fun e w'=>e=.returned (.tuple #[])∧BD w0 w' N db cb Rb rd rc (D0.bZ 1 (fun _=>nn) 1 (fun _=>decide (0<nn))) D0 c∧aG wx w' db cb rd rc):=
   (Yi 1 1 _ _ (fun _=>nn) (fun _=>decide (0<nn)) GV UO (a9b.o.go LZ)).mono (fun e w' h=>⟨h.1,h.2.1,(aG.ag LZ).trans (aG.of h.2.2)⟩)
  rw[World.size_alloc] at jS;clear UN UO LZ GV;go_wp2_with fail
  refine jS.o.mono ?_;rintro e w2 ⟨rfl,hb2,hk2⟩;have a5K:=hid hb2;have Hl:=hid hk2;have a5L:=hid (Nat.lt_of_lt_of_le QC.o.2 hk2.1);have a2L:=hid (Ci.o.keeps hk2);clear hb2 hk2 c1 c1a c0 jS;have c1:=a2L.o.c1;have c1a:(w2.alloc (.cells #[.int .i64 nn] 3)).cell? ⟨xb,1,none⟩=some (.int .i64 nn):=(((Since.refl w2).alloc _).cell (p:=⟨xb,1,none⟩) a2L.o.safe.lt).trans c1;have UN:=Co w2 (.int .i64 nn) 3 rd (fun _=>.int .i64 nn) rfl a5L.o;have UO:=Co (w2.alloc (.cells #[.int .i64 nn] 3)) (.bool (decide (0<nn))) 4 rd (fun _=>.bool (decide (0<nn))) rfl (by have:=a5L.o;simp;omega);have LZ:Since w2 ((w2.alloc (.cells #[.int .i64 nn] 3)).alloc (.cells #[.bool (decide (0<nn))] 4)):=((Since.refl w2).alloc _).alloc _;have GV:=Sl.UL UN ((Since.refl (w2.alloc (.cells #[.int .i64 nn] 3))).alloc (.cells #[.bool (decide (0<nn))] 4))
  have jS:Hid (Calls Tryz.prog 20 #[.pointer (some ⟨rd,0,none⟩),.slice (some ⟨w2.heap.size,0,none⟩) 1 1,.slice (some ⟨(w2.alloc (.cells #[.int .i64 nn] 3)).heap.size,0,none⟩) 1 1] ((w2.alloc (.cells #[.int .i64 nn] 3)).alloc (.cells #[.bool (decide (0<nn))] 4)) fun e w'=>e=.returned (.tuple #[])∧BD w0 w' N db cb Rb rd rc (D0.bZ 1 (fun _=>nn) 1 (fun _=>decide (0<nn))) (D0.bZ 1 (fun _=>nn) 1 (fun _=>decide (0<nn))) c∧aG wx w' db cb rd rc):=
   (Yj 1 1 _ _ (fun _=>nn) (fun _=>decide (0<nn)) HDK.o GV UO (a5K.o.go LZ)).mono (fun e w' h=>⟨h.1,h.2.1,(Hl.o.trans (aG.ag LZ)).trans (aG.of h.2.2)⟩)
  rw[World.size_alloc] at jS;clear UN UO LZ GV;go_wp2_with fail
  refine jS.o.mono ?_;rintro e w3 ⟨rfl,hb3,hk3⟩;have ZA:=hid hb3;have YU:=hid hk3;have yV:Hid (0≤c∧c<1000000000∧c≤n∧(D0.bZ 1 (fun _=>nn) 1 (fun _=>decide (0<nn))).ws.length≤1):=⟨a2K.o.1,a2K.o.2.1,a2K.o.2.2,Nat.zero_le _⟩
  clear hb3 hk3 c1 c1a jS a5K a2L;generalize D0.bZ 1 (fun _=>nn) 1 (fun _=>decide (0<nn))=D at *;have a2I:Hid (∀{Q:Ending→World→Prop},Calls Tryz.prog 7 #[.pointer (some ⟨Rb,0,none⟩),.pointer (some ⟨rd,0,none⟩),.pointer (some ⟨rc,0,none⟩),.string s] w3 Q→Calls Tryz.prog 7 #[.pointer (some ⟨Rb,0,none⟩),.pointer (some ⟨rd,0,none⟩),.pointer (some ⟨rc,0,none⟩),.string ⟨#[48,49,50,51,52,53,54,55,56,57,97,98,99,100,101,102]⟩] w3 Q):=fun h=>by rw[←QA.o];exact h
  go_wp2_with fail
  refine a2I.o ?_;refine(Ko QE.o HT.o.2.1 HT.o.2.2 ⟨yV.o.1,yV.o.2.1⟩ yV.o.2.2.2 ZA.o).mono ?_;rintro e w6 ⟨rr,a6,r,S6,rfl,Yk,YM⟩;have Cr:=hid Yk;have HK6:=hid (YU.o.trans (aG.of YM));clear Yk YM;have Ah:Hid (Calls Tryz.prog 8 #[.pointer (some ⟨db,0,none⟩),.pointer (some ⟨cb,0,none⟩),.string ⟨#[48,49,50,51,52,53,54,55,56,57,97,98,99,100,101,102]⟩] w6 fun e w'=>∃b,e=.returned (.tuple #[b,ev rr])∧Op2 w0 w' N db cb Rb rd rc s (c+1) rr a6 b∧Since w0 w'∧lY w6 w' db cb rd rc):=by
   have:=Kq HT.o.1 HT.o.2.1 HT.o.2.2 yV.o.2.1 Cr.o;rw[QA.o] at this ⊢;exact this
  go_wp2_with fail
  refine Ah.o.mono ?_;rintro e w7 ⟨b7,rfl,JO,hs7,hk7⟩;have QD:=hid JO;have mH:=hid hs7;have HK7:=hid (HK6.o.trans (aG.of hk7));clear JO hs7 hk7 Cr Ah;generalize hev:ev rr=er at *;have Ho:Hid (∀W,Et W→Calls Tryz.prog 10 #[er,.int .i64 rr] W fun e w'=>e=.returned (.bool true)∧Since W w'):=fun W hW=>by rw[←hev];exact nG rr W hW
  clear hev;by_cases hr:rr=0
  ·subst hr;rcases QD.o with⟨h0,_⟩ | ⟨_,QF,UM,QG,rv',S',l',rfl,rfl,Be,hok,mG⟩
   ·exact absurd rfl h0
   have Jj:=hid (an Be (an hok mG));clear Be hok mG QD;go_wp2_with fail
   refine(Ho.o _ (HE.o.since mH.o)).mono ?_;rintro e w8 ⟨rfl,Cz⟩;have HF8:Hid (FD w0 wx w8 N QF UM db cb QG rv' Rb rd rc s S' l' (n+40)):=⟨Jj.o.1.go Cz,Jj.o.2.1.le (by have:=yV.o.2.2.1;omega),Jj.o.2.2,HK7.o.trans (aG.ag Cz)⟩
   clear Cz;go_wp2_with fail
   exact HKK.o _ QF UM QG rv' S' l' HF8.o _ _ _ _ _ _ _ _ _ _ _ _ _ _ _ _ _ _ _ _ _ _ _ _ _ _ _ _ _ _ _ _ _ _ _ _ _ _ _ _ _ _ _ _ _ _ _ _ _ _ _ _ _ _ _ _ _ _ _ _ _ _ _ _ _ _ _ _ _ _ _ _ _ _ _ _ _ _ _ _ _ _ _ _ _ _ _ _ _ _ _ _ _ _ _ _ _ _ _ _ _ _ _ _ _ _ _ _ _ _ _ _ _ _ _ _ _ _ _ _ _ _ _ _ _ _ _ _ _ _ _ _ _ _
  have hrd:decide (rr=0)=false:=decide_eq_false hr;rcases QD.o with⟨_,rfl,rfl⟩ | ⟨h0,_⟩
  ·clear QD;go_wp2_with fail
   refine(Ho.o _ (HE.o.since mH.o)).mono ?_;rintro e w8 ⟨rfl,Cz⟩;have MP:=hid (mH.o.trans Cz);clear Cz;go_wp2_with fail
   refine(Ho.o _ (HE.o.since MP.o)).mono ?_;rintro e w9 ⟨rfl,hs9⟩;have Kj:=hid (MP.o.trans hs9);clear hs9;go_wp2_with fail
   exact HQR.o _ Kj.o _ _ _ _ _ _ _ _ _ _ _ _ _ _ _ _ _ _ _ _ _ _ _ _ _ _ _ _ _ _ _ _ _ _ _ _ _ _ _ _ _ _ _ _ _ _ _ _ _ _ _ _ _ _ _ _ _ _ _ _ _ _ _ _ _ _ _ _ _ _ _ _ _ _ _ _ _ _ _ _ _ _ _ _ _ _ _ _ _ _ _ _ _ _ _ _ _ _ _ _ _ _ _ _ _ _ _ _ _ _ _ _ _ _ _ _ _ _ _ _ _ _ _ _ _ _ _ _ _ _ _ _ _ _ _ _
  exact absurd h0 hr
 by_cases q5:wh=5
 ·clear q0 q1 q2 q3 q4 q6;subst q5;have c1:=Ci.o.c1;go_wp2_with fail
  clear c0;refine(a1e nn VZ.o jE.o).mono ?_;rintro e w2 ⟨rfl,hm2,hk2⟩;have zW:=hid hm2;have Hl:=hid hk2;clear hm2 hk2 c1;have c1:=(Ci.o.keeps Hl.o).c1;go_wp2_with fail
  refine(a1f nn zW.o).mono ?_;rintro e w3 ⟨rfl,hb3,hk3⟩;have HB3:Hid (FD w0 wx w3 N fb vb db cb rf rv Rb rd rc s { S with D:=S.D.nL nn } l (n+40)):=⟨hb3,(UF nn cO.o.1).le (by omega),cO.o.2.1,Hl.o.trans hk3⟩
  clear hb3 hk3 c1;go_wp2_with fail
  exact HKK.o _ fb vb rf rv _ l HB3.o _ _ _ _ _ _ _ _ _ _ _ _ _ _ _ _ _ _ _ _ _ _ _ _ _ _ _ _ _ _ _ _ _ _ _ _ _ _ _ _ _ _ _ _ _ _ _ _ _ _ _ _ _ _ _ _ _ _ _ _ _ _ _ _ _ _ _ _ _ _ _ _ _ _ _ _ _ _ _ _ _ _ _ _ _ _ _ _ _ _ _ _ _ _ _ _ _ _ _ _ _ _ _ _ _ _ _ _ _ _ _ _ _ _ _ _ _ _ _ _ _ _ _ _ _ _ _ _ _ _ _ _ _ _
 go_wp2_with fail
 have HX:Hid (FD w0 wx wx N fb vb db cb rf rv Rb rd rc s S l (n+40)):=⟨jE.o,cO.o.1.le (by omega),cO.o.2.1,aG.ag (Since.refl _)⟩
 exact HKK.o _ fb vb rf rv S l HX.o _ _ _ _ _ _ _ _ _ _ _ _ _ _ _ _ _ _ _ _ _ _ _ _ _ _ _ _ _ _ _ _ _ _ _ _ _ _ _ _ _ _ _ _ _ _ _ _ _ _ _ _ _ _ _ _ _ _ _ _ _ _ _ _ _ _ _ _ _ _ _ _ _ _ _ _ _ _ _ _ _ _ _ _ _ _ _ _ _ _ _ _ _ _ _ _ _ _ _ _ _ _ _ _ _ _ _ _ _ _ _ _ _ _ _ _ _ _ _ _ _ _ _ _ _ _ _ _ _ _ _ _ _ _
end Fl
end
section
namespace Fl
open Go.RowKit Go.Sort Go.Shelf
open En (Fi fA Ints dF Row aI)
open Vl
def wm (l:List ByteArray):List Value:=l.map (fun s=>.string s)
theorem Nr (l:List ByteArray):(wm l).length=l.length:=List.length_map _
theorem Yl (l:List Fi):Cc l=wm (l.map Fi.nm):=by unfold Cc wm;rw[List.map_map];rfl
theorem Ym (w:World)(ty base bx:Nat)(v x:Value)(xs ys:List ByteArray)(hown:w.ownsRow base 9 1 v xs.length (wm xs))(hx:w.ownsRow bx 9 1 x ys.length (wm ys))(h1:xs.length≤1000)(h2:ys.length≤1000)(hbase:base≤w.heap.size) :
  ∃v' w',(Builtin.append_ #[65,65] ty #[v,x]).run Tryz.prog w=.ok v' w'∧w'.ownsRow base 9 1 v' (xs++ys).length (wm (xs++ys))∧w.grownBy w' v.ownBlock:=by
 obtain⟨i0,hi,hz0,hz1,hz2⟩:=info_parts' zS;by_cases h0:ys=[]
 ·subst h0;obtain⟨av,cv,rfl,hcv⟩:∃a c,v=.slice a xs.length c∧xs.length≤c:=by
   rcases hown.2 with⟨h',h0⟩ | ⟨g,cap,cur,h',hb,hg,hnc,_⟩
   ·exact⟨none,0,by rw[h',h0],by omega⟩
   exact⟨_,_,h',hnc⟩
  obtain⟨a,c,rfl⟩:∃a c,x=.slice a 0 c:=by
   rcases hx.2 with⟨h',h0⟩ | ⟨g,cap,cur,h',hb,hg,hnc,_⟩
   ·exact⟨none,0,h'⟩
   exact⟨_,_,h'⟩
  refine⟨.slice av xs.length cv,w,?_,by rw[List.append_nil];exact hown,⟨rfl,rfl,rfl,Nat.le_refl _,fun _ _ _=>rfl⟩⟩;refine run_append_nothing w 65 65 ty 9 i0 Tryz.underlying65 hi _ xs.length cv hcv _ ⟨Or.inl ⟨9,Tryz.underlying65⟩,fun w'=>?_,?_,?_,by simp,by simp⟩
  ·simp[Builtin.lenOf]
  ·cases a<;>simp[Builtin.firstCells,loadCells,loadCellsFrom]
  cases a<;>simp[Builtin.firstCells,loadCells,loadCellsFrom]
 have hpos:0<ys.length:=List.length_pos_iff.2 h0;obtain⟨k,c,rfl⟩:∃k c,x=.slice (some ⟨k,0,none⟩) ys.length c:=by
  rcases hx.2 with⟨h',h0⟩ | ⟨g,cap,cur,h',hb,hg,hnc,_⟩
  ·omega
  exact⟨_,_,h'⟩
 obtain⟨g,cap,w',hr,r2,r3,r4,r5⟩:=run_append_lies (P:=Tryz.prog) w 65 ty base 9 i0 _ 1 16 Tryz.underlying65 hi hz0 hz1 hz2 rfl (by decide) v xs.length (wm xs) hown ⟨k,0,none⟩ ys.length c (wm ys) (by rw[Nr,Nat.mul_one]) (fun j u hu=>by
  have hj:j<ys.length:=by have:=(List.getElem?_eq_some_iff.1 hu).1;rwa [Nr] at this
  rw[Addr.add_mid,Nat.zero_add];exact(hx.cellAt j (by omega)).trans hu) (fun u hu=>by
  unfold wm at hu;obtain⟨s,_,rfl⟩:=List.mem_map.1 hu
  rfl) hpos (by unfold maxLen;omega) (by omega) hbase w.heap.size rfl
 refine⟨_,w',hr,?_,r3⟩;rw[List.length_append,show wm (xs++ys)=wm xs++wm ys from List.map_append];exact r2
theorem Ns (l:List Fi)(j:Nat)(hj:j<l.length):(Cc l)[j]?=some (.string (l.getD j ⟨⟨#[]⟩,0,[]⟩).nm):=by
 unfold Cc;rw[List.getElem?_map,List.getElem?_eq_getElem hj,List.getD_eq_getElem?_getD,List.getElem?_eq_getElem hj]
 rfl
section
variable {w0 w w':World} {N fb vb db cb rf rv Rb rd rc:Nat} {s kb kt:ByteArray} {S S2:Vs} {l l2:List Fi} {n:Int}
theorem FB.c4r (h:FB w0 w N fb vb db cb rf rv Rb rd rc s kb kt S l S2 l2):w.cell? ⟨rv,4,none⟩=some (.int .i64 S2.T.count):=by
 obtain⟨lv,d,hp,_⟩:=h.VL;exact hp.dO.c4
theorem a2M (h:FB w0 w N fb vb db cb rf rv Rb rd rc s kb kt S l S2 l2)(hl:l.length≤1000):Calls Tryz.prog 24 #[.pointer (some ⟨fb,0,none⟩)] w fun e w'=>∃x,e=.returned x∧w'.ownsRow w.heap.size 9 1 x l.length (Cc l)∧Since w w':=by
 obtain⟨v,lv,d,hp,_⟩:=h.Ya;exact JM hp hl
theorem UQ (h:FB w0 w N fb vb db cb rf rv Rb rd rc s kb kt S l S2 l2)(hl:l2.length≤1000):Calls Tryz.prog 25 #[.pointer (some ⟨rf,0,none⟩)] w fun e w'=>∃x,e=.returned x∧w'.ownsRow w.heap.size 9 1 x l2.length (Cc l2)∧Since w w':=by
 obtain⟨lv,d,hp,_⟩:=h.VL;exact Km hp hl
theorem countP (h:FB w0 w N fb vb db cb rf rv Rb rd rc s kb kt S l S2 l2):Calls Tryz.prog 26 #[.pointer (some ⟨fb,0,none⟩)] w fun e w'=>e=.returned (.int .i64 S.T.count)∧Since w w':=by
 obtain⟨v,lv,d,hp,_⟩:=h.Ya;exact(JQ hp).mono (fun e w' ⟨h1,h2⟩=>⟨h1,by rw[h2];exact Since.refl _⟩)
theorem a5M (h:FB w0 w N fb vb db cb rf rv Rb rd rc s kb kt S l S2 l2):Calls Tryz.prog 27 #[.pointer (some ⟨fb,0,none⟩)] w fun e w'=>e=.returned (.int .i64 S.free)∧Since w w':=by
 obtain⟨v,lv,d,hp,_⟩:=h.Ya;exact PL hp
theorem a5N (h:FB w0 w N fb vb db cb rf rv Rb rd rc s kb kt S l S2 l2)(hd:S2.D.ok):Calls Tryz.prog 28 #[.pointer (some ⟨rv,0,none⟩)] w fun e w'=>e=.returned (.int .i64 S2.free)∧Since w w':=by
 obtain⟨lv,d,hp,_⟩:=h.VL;exact Vl.jZ hp.dO hd
theorem a9c (h:FB w0 w N fb vb db cb rf rv Rb rd rc s kb kt S l S2 l2)(ho:S.ok n)(hr:En.right l=true)(t:ByteArray):Calls Tryz.prog 30 #[.pointer (some ⟨fb,0,none⟩),.string t] w fun e w'=>e=.returned (a0A (fG S.X l t))∧Since w w':=by
 obtain⟨v,lv,d,hp,_⟩:=h.Ya;exact Uf hp hr ho.txt t
theorem a9d (h:FB w0 w N fb vb db cb rf rv Rb rd rc s kb kt S l S2 l2)(ho:S2.ok n)(hr:En.right l2=true)(t:ByteArray):Calls Tryz.prog 29 #[.pointer (some ⟨rf,0,none⟩),.string t] w fun e w'=>e=.returned (UG (fG S2.X l2 t))∧Since w w':=by
 obtain⟨lv,d,hp,_⟩:=h.VL;exact yO hp hr ho.txt t
end
theorem a2N (code:Code)(hcode:code=cL (cR (cR (cR (cR (cB (cL (cR (cB (cB (cR (cL (cR (cR (cR (cR (cR (cR (cR (cR (cR (Tryz.f3.body.getD .skip))))))))))))))))))))))(w0 wx:World)(N fb vb db cb rf rv Rb rd rc:Nat)(s kb kt:ByteArray)(S:Vs)(l:List Fi)(jE:Hid (FB w0 wx N fb vb db cb rf rv Rb rd rc s kb kt S l S l))(HR:Hid (l.length≤8))(K:Act→World→Prop)(Q':Exit→Act→World→Prop)(HQP:Hid (∀c a (d:Nat) v w,Q' (.panic c) (a.put (some d) v) w→Q' (.panic c) a w))(t0 t1 t2 t3 t4 t5 t6 t7 t9 t11 t12 t13 t15 t16 t17 t18 t19 t20 t21 t22 t23 t24 t25 t26 t27 t28 t29 t30 t31 t32 t33 t34 t35 t36 t37 t38 t39 t40 t41 t42 t43 t44 t45 t46 t47 t48 t49 t50 t51 t52 t53 t54 t55 t56 t57 t58 t59 t60 t61 t62 t63 t64 t65 t66 t67 t68 t69 t70 t71 t72 t73 t74 t75 t76 t77 t78 t79 t80 t81 t82 t83 t84 t85 t86 t87 t88 t89 t90 t91 t92 t93 t94 t95 t96 t97 t98 t99 Kr Kt Ku Kv Kw t105 Ky t107 Kz t109 KA KC KD KE KF KG t116 t117 KH t119 KI KJ KL KM t124 KN KO t127 KP KQ t130 t131 KR KS KT KU KV KW t138 t139 KX t141 KY t143 KZ t145 t146 La t148 Lc Ld Le t152 Lf t154 Lg t156 t157 Lh t159 t160 Li t162 Lj t164 Ll Lm t167 t168 Lp Lr t171 Lt t173 Lu t175 Lv Lx LA LC LF LG t182 t183 LH LJ LK LM LP LQ LU LV LW t193 t194 LX t196 LY t198 FE FH t201 FI t203 FJ FK t206 FL t208 FM t210 FN t212 t213 FO FQ FT FU t218 FV FW FX t222 FY FZ Ga t226 t227 t228 t229 Gb Gc t232 t233 t234 Gf t236 Gg Gh Gi Gj Gl Gm Gn Gp Gq Gr Gs Gt Gu Gv Gw Gx Gy Gz GD GG GH GJ GL GM GN GQ GU:Value)(HKK:Hid (∀(wc:World),Since wx wc→∀(z198 a9e a9f z201 a9g z203 a9h a9i z206 a9j z208 a9k z210 a9l z212 z213 a9m a9n a9o a9p z218 a9q a9r a9s z222 a9t a9u a9v z226 z227 z228 z229 a9w:Value),K ⟨#[t0,t1,t2,t3,t4,t5,t6,t7,.pointer (some ⟨rf,0,none⟩),t9,.pointer (some ⟨fb,0,none⟩),t11,t12,t13,.bool true,t15,t16,t17,t18,t19,t20,t21,t22,t23,t24,t25,t26,t27,t28,t29,t30,t31,t32,t33,t34,t35,t36,t37,t38,t39,t40,t41,t42,t43,t44,t45,t46,t47,t48,t49,t50,t51,t52,t53,t54,t55,t56,t57,t58,t59,t60,t61,t62,t63,t64,t65,t66,t67,t68,t69,t70,t71,t72,t73,t74,t75,t76,t77,t78,t79,t80,t81,t82,t83,t84,t85,t86,t87,t88,t89,t90,t91,t92,t93,t94,t95,t96,t97,t98,t99,Kr,Kt,Ku,Kv,Kw,t105,Ky,t107,Kz,t109,KA,KC,KD,KE,KF,KG,t116,t117,KH,t119,KI,KJ,KL,KM,t124,KN,KO,t127,KP,KQ,t130,t131,KR,KS,KT,KU,KV,KW,t138,t139,KX,t141,KY,t143,KZ,t145,t146,La,t148,Lc,Ld,Le,t152,Lf,t154,Lg,t156,t157,Lh,t159,t160,Li,t162,Lj,t164,Ll,Lm,t167,t168,Lp,Lr,t171,Lt,t173,Lu,t175,Lv,Lx,LA,LC,LF,LG,t182,t183,LH,LJ,LK,LM,LP,LQ,LU,LV,LW,t193,t194,LX,t196,LY,z198,a9e,a9f,z201,a9g,z203,a9h,a9i,z206,a9j,z208,a9k,z210,a9l,z212,z213,a9m,a9n,a9o,a9p,z218,a9q,a9r,a9s,z222,a9t,a9u,a9v,z226,z227,z228,z229,a9w,Gc,t232,t233,t234,Gf,t236,Gg,Gh,Gi,Gj,Gl,Gm,Gn,Gp,Gq,Gr,Gs,Gt,Gu,Gv,Gw,Gx,Gy,Gz,GD,GG,GH,GJ,GL,GM,GN,GQ,GU],[]⟩ wc)):Code.wp Tryz.prog code (Exit.then K Q') ⟨#[t0,t1,t2,t3,t4,t5,t6,t7,.pointer (some ⟨rf,0,none⟩),t9,.pointer (some ⟨fb,0,none⟩),t11,t12,t13,.bool true,t15,t16,t17,t18,t19,t20,t21,t22,t23,t24,t25,t26,t27,t28,t29,t30,t31,t32,t33,t34,t35,t36,t37,t38,t39,t40,t41,t42,t43,t44,t45,t46,t47,t48,t49,t50,t51,t52,t53,t54,t55,t56,t57,t58,t59,t60,t61,t62,t63,t64,t65,t66,t67,t68,t69,t70,t71,t72,t73,t74,t75,t76,t77,t78,t79,t80,t81,t82,t83,t84,t85,t86,t87,t88,t89,t90,t91,t92,t93,t94,t95,t96,t97,t98,t99,Kr,Kt,Ku,Kv,Kw,t105,Ky,t107,Kz,t109,KA,KC,KD,KE,KF,KG,t116,t117,KH,t119,KI,KJ,KL,KM,t124,KN,KO,t127,KP,KQ,t130,t131,KR,KS,KT,KU,KV,KW,t138,t139,KX,t141,KY,t143,KZ,t145,t146,La,t148,Lc,Ld,Le,t152,Lf,t154,Lg,t156,t157,Lh,t159,t160,Li,t162,Lj,t164,Ll,Lm,t167,t168,Lp,Lr,t171,Lt,t173,Lu,t175,Lv,Lx,LA,LC,LF,LG,t182,t183,LH,LJ,LK,LM,LP,LQ,LU,LV,LW,t193,t194,LX,t196,LY,t198,FE,FH,t201,FI,t203,FJ,FK,t206,FL,t208,FM,t210,FN,t212,t213,FO,FQ,FT,FU,t218,FV,FW,FX,t222,FY,FZ,Ga,t226,t227,t228,t229,Gb,Gc,t232,t233,t234,Gf,t236,Gg,Gh,Gi,Gj,Gl,Gm,Gn,Gp,Gq,Gr,Gs,Gt,Gu,Gv,Gw,Gx,Gy,Gz,GD,GG,GH,GJ,GL,GM,GN,GQ,GU],[]⟩ wx:=by
 rw[hcode];clear hcode;dsimp only[Tryz.f3,cL,cR,cB,Option.getD];have kQ:Hid (∀W,Since wx W→W.cell? ⟨rf,0,none⟩=some (.pointer (some ⟨rv,0,none⟩))∧W.cell? ⟨rv,4,none⟩=some (.int .i64 S.T.count)):=fun W hW=>⟨(jE.o.go hW).Zj,(jE.o.go hW).c4r⟩
 have HLO:Hid (db<wx.heap.size):=by
  have h1:=jE.o.ap.lt;have h2:=jE.o.nN;show db<wx.heap.size
  omega
 go_wp2_with fail
 have hS0:(fun W:World=>W.cell? ⟨rf,0,none⟩=some (.pointer (some ⟨rv,0,none⟩))∧W.cell? ⟨rv,4,none⟩=some (.int .i64 S.T.count)) wx.drew:=kQ.o _ (Since.refl wx).drew;refine wp_region_held (S:=fun W:World=>W.cell? ⟨rf,0,none⟩=some (.pointer (some ⟨rv,0,none⟩))∧W.cell? ⟨rv,4,none⟩=some (.int .i64 S.T.count)) (by kernel_rfl) ?_;refine Tw.tk 0 198 hS0 ?_;refine Tw.tk 1 199 hS0 ?_;refine Tw.tk 2 200 hS0 ?_;refine Tw.tk 3 201 hS0 ?_;refine Tw.tk 5 203 hS0 ?_;refine Tw.ry 4 (fun K hK=>?_);rw[if_pos (Tw.jb rfl rfl rfl rfl)];go_simp
 refine(a2M (jE.o.go (Since.refl wx).drew) (by have:=HR.o;omega)).mono ?_;rintro e w1 ⟨x1,rfl,ho1,h1⟩;have pK:=hid ho1;have H1:=hid ((Since.refl wx).drew.trans h1);clear h1 ho1;simp only[];have hS1:(fun W:World=>W.cell? ⟨rf,0,none⟩=some (.pointer (some ⟨rv,0,none⟩))∧W.cell? ⟨rv,4,none⟩=some (.int .i64 S.T.count)) w1:=kQ.o _ H1.o;refine hK.out _ _ hS1 (fun _=>?_);clear hK K;refine Tw.nz ?_;refine Tw.ry 6 (fun K hK=>?_);rw[if_pos (Tw.jb rfl rfl rfl rfl)];go_simp
 refine(UQ (jE.o.go H1.o) (by have:=HR.o;omega)).mono ?_;rintro e w2 ⟨x2,rfl,ho2,h2⟩;have Cb:=hid ho2;have a9x:=hid (aP pK.o h2);have H2:=hid (H1.o.trans h2);have hl1:=H1.o.size;clear h2 ho2;simp only[];have hS2:(fun W:World=>W.cell? ⟨rf,0,none⟩=some (.pointer (some ⟨rv,0,none⟩))∧W.cell? ⟨rv,4,none⟩=some (.int .i64 S.T.count)) w2:=kQ.o _ H2.o;refine hK.out _ _ hS2 (fun _=>?_);clear hK K;refine Tw.nz ?_;refine Tw.ry 7 (fun K hK=>?_);rw[if_pos (Tw.jb rfl rfl rfl rfl)];go_simp
 refine(PV db l.length x1 x2 (fun j=>(l.getD j ⟨⟨#[]⟩,0,[]⟩).nm) (fun j=>(l.getD j ⟨⟨#[]⟩,0,[]⟩).nm) _ (Sl.ll a9x.o HLO.o (fun j hj=>Ns l j hj)) (Sl.ll Cb.o (by have:=HLO.o;omega) (fun j hj=>Ns l j hj)) (fun _ _=>rfl) (by have:=HR.o;omega)).mono ?_;rintro e w3 ⟨rfl,h3⟩;have H3:=hid (H2.o.trans h3);clear h3;simp only[];have bQ:(fun W:World=>W.cell? ⟨rf,0,none⟩=some (.pointer (some ⟨rv,0,none⟩))∧W.cell? ⟨rv,4,none⟩=some (.int .i64 S.T.count)) w3:=kQ.o _ H3.o;refine hK.out _ _ bQ (fun _=>?_);clear hK K;refine Tw.nz ?_;refine Tw.tk 8 206 bQ ?_;refine Tw.tk 9 207 bQ ?_;refine Tw.tk 10 208 bQ ?_;refine Tw.tk 11 209 bQ ?_;refine Tw.tk 13 211 bQ ?_;refine Tw.tk 14 212 bQ ?_;refine Tw.tk 15 213 bQ ?_;refine Tw.tk 16 214 bQ ?_;refine Tw.tk 17 215 bQ ?_;refine Tw.tk 18 216 bQ ?_;refine Tw.tk 19 217 bQ ?_;refine Tw.tk 20 218 bQ ?_
 refine Tw.ry 12 (fun K hK=>?_);rw[if_pos (Tw.jb rfl rfl rfl rfl)];go_simp
 refine(countP (jE.o.go H3.o)).mono ?_;rintro e w4 ⟨rfl,h4⟩;have H4:=hid (H3.o.trans h4);clear h4;simp only[];have cz:(fun W:World=>W.cell? ⟨rf,0,none⟩=some (.pointer (some ⟨rv,0,none⟩))∧W.cell? ⟨rv,4,none⟩=some (.int .i64 S.T.count)) w4:=kQ.o _ H4.o;refine hK.out _ _ cz (fun _=>?_);clear hK K;refine Tw.nz ?_;refine Tw.tk 21 219 cz ?_;refine Tw.tk 22 220 cz ?_;refine Tw.tk 23 221 cz ?_;refine Tw.tk 24 222 cz ?_;refine Tw.tk 26 224 cz ?_;refine Tw.tk 27 225 cz ?_;refine Tw.tk 28 226 cz ?_;refine Tw.tk 29 227 cz ?_;refine Tw.ry 25 (fun K hK=>?_);rw[if_pos (Tw.jb rfl rfl rfl rfl)];go_simp
 refine(a5M (jE.o.go H4.o)).mono ?_;rintro e w5 ⟨rfl,h5⟩;have H5:=hid (H4.o.trans h5);clear h5;simp only[];have hS5:(fun W:World=>W.cell? ⟨rf,0,none⟩=some (.pointer (some ⟨rv,0,none⟩))∧W.cell? ⟨rv,4,none⟩=some (.int .i64 S.T.count)) w5:=kQ.o _ H5.o;refine hK.out _ _ hS5 (fun _=>?_);clear hK K;refine Tw.nz ?_;refine Tw.ry 30 (fun K hK=>?_);rw[if_pos (Tw.jb rfl rfl rfl rfl)];go_simp
 refine(a5N (jE.o.go H5.o) jE.o.Zf).mono ?_;rintro e w6 ⟨rfl,h6⟩;have H6:=hid (H5.o.trans h6);clear h6;simp only[];have gH:(fun W:World=>W.cell? ⟨rf,0,none⟩=some (.pointer (some ⟨rv,0,none⟩))∧W.cell? ⟨rv,4,none⟩=some (.int .i64 S.T.count)) w6:=kQ.o _ H6.o;refine hK.out _ _ gH (fun _=>?_);clear hK K;refine Tw.nz ?_;generalize S.free=fr at *;refine Tw.tk 31 229 gH ?_;refine Tw.tk 32 230 gH ?_;refine wpAnyH_done (by kernel_rfl) ?_ _;clear hS0 hS1 hS2 bQ cz hS5 gH;go_wp2_with fail
 exact HKK.o _ H6.o _ _ _ _ _ _ _ _ _ _ _ _ _ _ _ _ _ _ _ _ _ _ _ _ _ _ _ _ _ _ _ _ _
end Fl
end
section
namespace Fl
open Go.RowKit Go.Sort Go.Shelf
open En (Fi fA Ints dF Row aI)
open Vl
theorem Nt (W W':World)(z:ByteArray)(hs:Since (W.alloc (.cells #[.string z] 9)) W'):W'.ownsRow W.heap.size 9 1 (.slice (some ⟨W.heap.size,0,none⟩) 1 1) ([z]:List ByteArray).length (wm [z]):=by
 refine aP ?_ hs;exact⟨rfl,.inr ⟨W.heap.size,1,#[.string z],rfl,Nat.le_refl _,heap_alloc_new W _,Nat.le_refl _,by unfold maxLen;omega,rfl,rfl⟩⟩
theorem lL {w:World}{base e n:Nat}{v:Value}{xs:List Value}(h:w.ownsRow base e 1 v n xs):∃a c,v=.slice a n c:=by
 rcases h.2 with⟨h',h0⟩ | ⟨g,cap,cur,h',_⟩
 ·exact⟨none,0,by rw[h',h0]⟩
 exact⟨_,_,h'⟩
def UR (o:Option (List UInt8)):ByteArray:=⟨(o.getD []).toArray⟩
def UT (o:Option (List UInt8)):Int:=if o.isSome then 0 else 7
theorem Yn (o:Option (List UInt8)):a0A o=.tuple #[.string (UR o),ev (UT o)]:=by cases o<;>rfl
theorem UU (o:Option (List UInt8)):UG o=.tuple #[.string (UR o),.int .i64 (UT o)]:=by cases o<;>rfl
theorem a2O (code:Code)(hcode:code=cR (cR (cR (cR (cR (cB (cL (cR (cB (cB (cR (cL (cR (cR (cR (cR (cR (cR (cR (cR (cR (Tryz.f3.body.getD .skip))))))))))))))))))))))(w0 wx:World)(N fb vb db cb rf rv Rb rd rc xb:Nat)(s kb kt:ByteArray)(S:Vs)(l:List Fi)(n:Int)(z:ByteArray)(jE:Hid (FB w0 wx N fb vb db cb rf rv Rb rd rc s kb kt S l S l))(HR:Hid (S.ok n∧En.right l=true∧l.length≤8))(HXB:Hid (wx.cell? ⟨xb,2,none⟩=some (.string z)))(HE:Hid (Et w0))(K:Act→World→Prop)(Q':Exit→Act→World→Prop)(HQP:Hid (∀c a (d:Nat) v w,Q' (.panic c) (a.put (some d) v) w→Q' (.panic c) a w))(t0 t1 t2 t3 t4 t5 t6 t7 t9 t11 t12 t14 t15 t16 t17 t18 t19 t20 t21 t22 t23 t24 t25 t26 t27 t28 t29 t30 t31 t32 t33 t34 t35 t36 t37 t38 t39 t40 t41 t42 t43 t44 t45 t46 t47 t48 t49 t50 t51 t52 t53 t54 t55 t56 t57 t58 t59 t60 t61 t62 t63 t64 t65 t66 t67 t68 t69 t70 t71 t72 t73 t74 t75 t76 t77 t78 t79 t80 t81 t82 t83 t84 t85 t86 t87 t88 t89 t90 t91 t92 t93 t94 t95 t96 t97 t98 t99 Kr Kt Ku Kv Kw t105 Ky t107 Kz t109 KA KC KD KE KF KG t116 t117 KH t119 KI KJ KL KM t124 KN KO t127 KP KQ t130 t131 KR KS KT KU KV KW t138 t139 KX t141 KY t143 KZ t145 t146 La t148 Lc Ld Le t152 Lf t154 Lg t156 t157 Lh t159 t160 Li t162 Lj t164 Ll Lm t167 t168 Lp Lr t171 Lt t173 Lu t175 Lv Lx LA LC LF LG t182 t183 LH LJ LK LM LP LQ LU LV LW t193 t194 LX t196 LY t198 FE FH t201 FI t203 FJ FK t206 FL t208 FM t210 FN t212 t213 FO FQ FT FU t218 FV FW FX t222 FY FZ Ga t226 t227 t228 t229 Gb Gc t232 t233 t234 Gf t236 Gg Gh Gi Gj Gl Gm Gn Gp Gq Gr Gs Gt Gu Gv Gw Gx Gy Gz GD GG GH GJ GL GM GN GQ GU:Value)(HKK:Hid (∀(wc:World),Since wx wc→∀(z2 z23 z24 z25 z26 z27 a9y z232 z233 z234 a9z z236 a9A a9B a9C a9D a9E a9F a9G a9H a9I a9J a9K a9L a9M a9N a9O a9P a9Q a9R a9S a9T a9U a9V a9W a9X a9Y a9Z b0a:Value),K ⟨#[t0,t1,z2,t3,t4,t5,t6,t7,.pointer (some ⟨rf,0,none⟩),t9,.pointer (some ⟨fb,0,none⟩),t11,t12,.pointer (some ⟨xb,0,none⟩),t14,t15,t16,t17,t18,t19,t20,t21,t22,z23,z24,z25,z26,z27,t28,t29,t30,t31,t32,t33,t34,t35,t36,t37,t38,t39,t40,t41,t42,t43,t44,t45,t46,t47,t48,t49,t50,t51,t52,t53,t54,t55,t56,t57,t58,t59,t60,t61,t62,t63,t64,t65,t66,t67,t68,t69,t70,t71,t72,t73,t74,t75,t76,t77,t78,t79,t80,t81,t82,t83,t84,t85,t86,t87,t88,t89,t90,t91,t92,t93,t94,t95,t96,t97,t98,t99,Kr,Kt,Ku,Kv,Kw,t105,Ky,t107,Kz,t109,KA,KC,KD,KE,KF,KG,t116,t117,KH,t119,KI,KJ,KL,KM,t124,KN,KO,t127,KP,KQ,t130,t131,KR,KS,KT,KU,KV,KW,t138,t139,KX,t141,KY,t143,KZ,t145,t146,La,t148,Lc,Ld,Le,t152,Lf,t154,Lg,t156,t157,Lh,t159,t160,Li,t162,Lj,t164,Ll,Lm,t167,t168,Lp,Lr,t171,Lt,t173,Lu,t175,Lv,Lx,LA,LC,LF,LG,t182,t183,LH,LJ,LK,LM,LP,LQ,LU,LV,LW,t193,t194,LX,t196,LY,t198,FE,FH,t201,FI,t203,FJ,FK,t206,FL,t208,FM,t210,FN,t212,t213,FO,FQ,FT,FU,t218,FV,FW,FX,t222,FY,FZ,Ga,t226,t227,t228,t229,Gb,a9y,z232,z233,z234,a9z,z236,a9A,a9B,a9C,a9D,a9E,a9F,a9G,a9H,a9I,a9J,a9K,a9L,a9M,a9N,a9O,a9P,a9Q,a9R,a9S,a9T,a9U,a9V,a9W,a9X,a9Y,a9Z,b0a],[]⟩ wc)):Code.wp Tryz.prog code (Exit.then K Q') ⟨#[t0,t1,t2,t3,t4,t5,t6,t7,.pointer (some ⟨rf,0,none⟩),t9,.pointer (some ⟨fb,0,none⟩),t11,t12,.pointer (some ⟨xb,0,none⟩),t14,t15,t16,t17,t18,t19,t20,t21,t22,t23,t24,t25,t26,t27,t28,t29,t30,t31,t32,t33,t34,t35,t36,t37,t38,t39,t40,t41,t42,t43,t44,t45,t46,t47,t48,t49,t50,t51,t52,t53,t54,t55,t56,t57,t58,t59,t60,t61,t62,t63,t64,t65,t66,t67,t68,t69,t70,t71,t72,t73,t74,t75,t76,t77,t78,t79,t80,t81,t82,t83,t84,t85,t86,t87,t88,t89,t90,t91,t92,t93,t94,t95,t96,t97,t98,t99,Kr,Kt,Ku,Kv,Kw,t105,Ky,t107,Kz,t109,KA,KC,KD,KE,KF,KG,t116,t117,KH,t119,KI,KJ,KL,KM,t124,KN,KO,t127,KP,KQ,t130,t131,KR,KS,KT,KU,KV,KW,t138,t139,KX,t141,KY,t143,KZ,t145,t146,La,t148,Lc,Ld,Le,t152,Lf,t154,Lg,t156,t157,Lh,t159,t160,Li,t162,Lj,t164,Ll,Lm,t167,t168,Lp,Lr,t171,Lt,t173,Lu,t175,Lv,Lx,LA,LC,LF,LG,t182,t183,LH,LJ,LK,LM,LP,LQ,LU,LV,LW,t193,t194,LX,t196,LY,t198,FE,FH,t201,FI,t203,FJ,FK,t206,FL,t208,FM,t210,FN,t212,t213,FO,FQ,FT,FU,t218,FV,FW,FX,t222,FY,FZ,Ga,t226,t227,t228,t229,Gb,Gc,t232,t233,t234,Gf,t236,Gg,Gh,Gi,Gj,Gl,Gm,Gn,Gp,Gq,Gr,Gs,Gt,Gu,Gv,Gw,Gx,Gy,Gz,GD,GG,GH,GJ,GL,GM,GN,GQ,GU],[]⟩ wx:=by
 rw[hcode];clear hcode;dsimp only[Tryz.f3,cL,cR,cB,Option.getD];have HNR:Hid (∀W,Since wx W→Calls Tryz.prog 25 #[.pointer (some ⟨rf,0,none⟩)] W fun e w'=>∃x,e=.returned x∧w'.ownsRow W.heap.size 9 1 x l.length (wm (l.map Fi.nm))∧Since W w'):=fun W hW=>by
  have:=UQ (jE.o.go hW) (by have:=HR.o.2.2;omega);rw[Yl] at this;exact this
 have HAP:Hid (∀(W:World) (b bx:Nat) (x:Value),Since wx W→W.ownsRow b 9 1 (.slice (some ⟨b,0,none⟩) 1 1) ([z]:List ByteArray).length (wm [z])→W.ownsRow bx 9 1 x l.length (wm (l.map Fi.nm))→wx.heap.size≤b→∃v' w',(Builtin.append_ #[65,65] 65 #[.slice (some ⟨b,0,none⟩) 1 1,x]).run Tryz.prog W=.ok v' w'∧w'.ownsRow b 9 1 v' (l.length+1) (wm (z::l.map Fi.nm))∧Since wx w'):=fun W b bx x hW h1 h2 hb=>by
  have hbl:=(h1.lt b rfl).2;obtain⟨v',w',hr,ho,hg⟩:=Ym W 65 b bx _ x [z] (l.map Fi.nm) h1 (by rw[List.length_map];exact h2) (by simp) (by rw[List.length_map];have:=HR.o.2.2;omega) (by omega);refine⟨v',w',hr,?_,hW.grown hg (fun k hk=>by cases hk;exact hb)⟩;have e:([z]++l.map Fi.nm).length=l.length+1:=by simp
  rw[e] at ho;exact ho
 have q0:=HXB.o;have VN:Hid (∀W,Since wx W→W.cell? ⟨xb,2,none⟩=some (.string z)):=fun W hW=>(hW.cell (p:=⟨xb,2,none⟩) (World.block_lt_of_cell? wx _ q0)).trans q0
 go_upto_region 44 with fail
 go_cut [236,237,238] from 231 to 263 (fun x m i wc=>(∃a c,x=.slice a (l.length+1) c)∧m=.int .i64 ((l.length:Int)+1)∧i=.int .i64 0∧(∃b,wx.heap.size≤b∧wc.ownsRow b 9 1 x (l.length+1) (wm (z::l.map Fi.nm)))∧Since wx wc)
 case first=>
  have hS0:(fun W:World=>W.cell? ⟨xb,2,none⟩=some (.string z)) wx.drew:=VN.o _ (Since.refl wx).drew;refine wp_region_held (S:=fun W:World=>W.cell? ⟨xb,2,none⟩=some (.string z)) (by kernel_rfl) ?_;refine Tw.tk 0 231 hS0 ?_;refine Tw.tk 1 232 hS0 ?_;refine Tw.tk 3 234 hS0 ?_;refine Tw.tk 7 238 hS0 ?_;refine wpAnyH_ready (rs:=[2,4]) (by kernel_rfl) (by simp) (AllReadyH.cons rfl (fun K hK=>?_) (AllReadyH.cons rfl (fun K hK=>?_) AllReadyH.nil))
  ·rw[if_pos (by rfl)];go_simp
   have hsa:Since wx (wx.drew.alloc (.cells #[.string z] 9)):=((Since.refl wx).drew).alloc _;have hS1:(fun W:World=>W.cell? ⟨xb,2,none⟩=some (.string z)) (wx.drew.alloc (.cells #[.string z] 9)):=VN.o _ hsa;refine hK.out _ _ hS1 (fun _=>?_);clear hK K;refine Tw.nz ?_;refine Tw.ry 4 (fun K hK=>?_);rw[if_pos (by rfl)];go_simp
   refine(HNR.o _ hsa).mono ?_;rintro e w2 ⟨x2,rfl,ho2,hs2⟩;obtain⟨a2,c2,rfl⟩:=lL ho2;have Ca:Since wx w2:=hsa.trans hs2;have hol:w2.ownsRow wx.drew.heap.size 9 1 (.slice (some ⟨wx.drew.heap.size,0,none⟩) 1 1) ([z]:List ByteArray).length (wm [z]):=Nt wx.drew w2 z hs2;simp only[];have hS2:(fun W:World=>W.cell? ⟨xb,2,none⟩=some (.string z)) w2:=VN.o _ Ca;refine hK.out _ _ hS2 (fun _=>?_);clear hK K;refine Tw.nz ?_;refine Tw.ry 5 (fun K hK=>?_);obtain⟨v',w',hr,ho',hs'⟩:=HAP.o w2 _ _ _ Ca hol ho2 (Nat.le_refl _);refine sM (by rfl) (.tmp 233) (.tmp 235) 65 _ _ _ (by rfl) (by rfl) (by rfl) hr ?_;obtain⟨av,cv,rfl⟩:=lL ho';have HO':Hid (∃b,wx.heap.size≤b∧w'.ownsRow b 9 1 (.slice av (l.length+1) cv) (l.length+1) (wm (z::l.map Fi.nm))):=⟨_,Nat.le_refl _,ho'⟩
   have HS':=hid hs';have bQ:(fun W:World=>W.cell? ⟨xb,2,none⟩=some (.string z)) w':=VN.o _ hs';refine hK.out _ _ bQ (fun _=>?_);clear hK K;refine Tw.nz ?_;refine Tw.tk 6 237 bQ ?_;refine wpAnyH_done (by kernel_rfl) ?_ _;go_wp2_with fail
   go_meet
   case rel=>exact⟨⟨_,_,rfl⟩,rfl,rfl,HO'.o,HS'.o⟩
  rw[if_pos (by rfl)];go_simp
  refine(HNR.o _ (Since.refl wx).drew).mono ?_;rintro e w2 ⟨x2,rfl,ho2,hs2⟩;obtain⟨a2,c2,rfl⟩:=lL ho2;have Ca:Since wx w2:=(Since.refl wx).drew.trans hs2;simp only[];have hS2:(fun W:World=>W.cell? ⟨xb,2,none⟩=some (.string z)) w2:=VN.o _ Ca;refine hK.out _ _ hS2 (fun _=>?_);clear hK K;refine Tw.nz ?_;refine Tw.ry 2 (fun K hK=>?_);rw[if_pos (by rfl)];go_simp
  have hsa:Since w2 (w2.alloc (.cells #[.string z] 9)):=(Since.refl w2).alloc _;have bQ:(fun W:World=>W.cell? ⟨xb,2,none⟩=some (.string z)) (w2.alloc (.cells #[.string z] 9)):=VN.o _ (Ca.trans hsa);refine hK.out _ _ bQ (fun _=>?_);clear hK K;refine Tw.nz ?_;refine Tw.ry 5 (fun K hK=>?_);have hol:(w2.alloc (.cells #[.string z] 9)).ownsRow w2.heap.size 9 1 (.slice (some ⟨w2.heap.size,0,none⟩) 1 1) ([z]:List ByteArray).length (wm [z]):=Nt w2 _ z (Since.refl _);obtain⟨v',w',hr,ho',hs'⟩:=HAP.o _ _ _ _ (Ca.trans hsa) hol (aP ho2 hsa) Ca.size;refine sM (by rfl) (.tmp 233) (.tmp 235) 65 _ _ _ (by rfl) (by rfl) (by rfl) hr ?_;obtain⟨av,cv,rfl⟩:=lL ho';have HO':Hid (∃b,wx.heap.size≤b∧w'.ownsRow b 9 1 (.slice av (l.length+1) cv) (l.length+1) (wm (z::l.map Fi.nm))):=⟨_,Ca.size,ho'⟩
  have HS':=hid hs';have cz:(fun W:World=>W.cell? ⟨xb,2,none⟩=some (.string z)) w':=VN.o _ hs';refine hK.out _ _ cz (fun _=>?_);clear hK K;refine Tw.nz ?_;refine Tw.tk 6 237 cz ?_;refine wpAnyH_done (by kernel_rfl) ?_ _;go_wp2_with fail
  go_meet
  case rel=>exact⟨⟨_,_,rfl⟩,rfl,rfl,HO'.o,HS'.o⟩
 obtain⟨⟨a1,c1,rfl⟩,rfl,rfl,hown,hs⟩:=hcut;have HO:=hid hown;have QA:=hid hs;have TF:Hid (∀(W:World) (k:Nat),Since wc W→k<l.length+1→∃g t,a1=some ⟨g,0,none⟩∧W.cell? ⟨g,k,none⟩=some (.string t)):=fun W k hW hk=>by
  obtain⟨b,_,ho⟩:=hown;obtain⟨g,cap,cur,h',_⟩:∃g cap cur,(Value.slice a1 (l.length+1) c1)=.slice (some ⟨g,0,none⟩) (l.length+1) cap∧b≤g∧wc.heap[g]?=some (.cells cur 9 (0,0)):=by
   rcases ho.2 with⟨_,h0⟩ | ⟨g,cap,cur,h',h1,h2,_⟩
   ·omega
   exact⟨g,cap,cur,h',h1,h2⟩
  simp only[Value.slice.injEq,true_and] at h';obtain⟨rfl,rfl⟩:=h';have hj:(wm (z::l.map Fi.nm))[k]?=some (.string ((z::l.map Fi.nm)[k]'(by simpa using hk))):=by
   unfold wm;rw[List.getElem?_map,List.getElem?_eq_getElem (by simpa using hk)]
   rfl
  have hc:=(ho.cellAt k (by omega)).trans hj;exact⟨g,_,rfl,(hW.cell (p:=⟨g,k,none⟩) (World.block_lt_of_cell? wc _ hc)).trans hc⟩
 clear hown hs q0;go_wp2_with fail
 go_loopw [238] (fun i wr=>∃k:Nat,k≤l.length+1∧i=.int .i64 k∧Since wc wr) (fun i _=>l.length+1-(intOf i).toNat)
 case atStart=>exact⟨0,by omega,rfl,Since.refl _⟩
 obtain⟨k,hk,rfl,hs⟩:=hrel;have HS:=hid (QA.o.trans hs);have HS2:=hid hs;clear hs;by_cases hlt:k<l.length+1
 ·have hlt2:(k:Int)<(l.length:Int)+1:=by omega
  have hk9:k<1000:=by have:=HR.o.2.2;omega
  obtain⟨g,t,rfl,q1⟩:=TF.o wr k HS2.o hlt;have HGR:Hid (∀W,Since wx W→Calls Tryz.prog 29 #[.pointer (some ⟨rf,0,none⟩),.string t] W fun e w'=>e=.returned (.tuple #[.string (UR (fG S.X l t)),.int .i64 (UT (fG S.X l t))])∧Since W w'):=fun W hW=>by
   have:=a9d (jE.o.go hW) HR.o.1 HR.o.2.1 t;rw[UU] at this;exact this
  have HGP:Hid (∀W,Since wx W→Calls Tryz.prog 30 #[.pointer (some ⟨fb,0,none⟩),.string t] W fun e w'=>e=.returned (.tuple #[.string (UR (fG S.X l t)),ev (UT (fG S.X l t))])∧Since W w'):=fun W hW=>by
   have:=a9c (jE.o.go hW) HR.o.1 HR.o.2.1 t;rw[Yn] at this;exact this
  generalize UR (fG S.X l t)=T at *;generalize UT (fG S.X l t)=M at *;generalize hev:ev M=er at *;have Ho:Hid (∀W,Et W→Calls Tryz.prog 10 #[er,.int .i64 M] W fun e w'=>e=.returned (.bool true)∧Since W w'):=fun W hW=>by rw[←hev];exact nG M W hW
  clear hev;go_wp2_with fail
  refine(HGR.o _ HS.o).mono ?_;rintro e w2 ⟨rfl,h2⟩;have HW2:=hid (HS.o.trans h2);have b0d:=hid (HS2.o.trans h2);clear h2 q1;go_wp2_with fail
  refine(HGP.o _ HW2.o).mono ?_;rintro e w3 ⟨rfl,h3⟩;have HW3:=hid (HW2.o.trans h3);have b0e:=hid (b0d.o.trans h3);clear h3;go_wp2_with fail
  refine(Ho.o _ (HE.o.since (jE.o.since.trans HW3.o))).mono ?_;rintro e w4 ⟨rfl,h4⟩;have b0f:=hid (b0e.o.trans h4);clear h4;go_wp2_with fail
  go_roundw
  case rel=>exact⟨k+1,by omega,by go_num,b0f.o⟩
  case measure=>simp[intOf];omega
 have hlt2:¬(k:Int)<(l.length:Int)+1:=by omega
 go_wp2_with fail
 exact HKK.o _ HS.o _ _ _ _ _ _ _ _ _ _ _ _ _ _ _ _ _ _ _ _ _ _ _ _ _ _ _ _ _ _ _ _ _ _ _ _ _ _ _
end Fl
end
section
namespace Fl
open Go.RowKit Go.Sort Go.Shelf
open En (Fi fA Ints dF Row aI)
open Vl
structure Ma (w:World)(a:Option Addr)(n:Nat)(wh nn:Nat→Int)(z t:Nat→ByteArray):Prop where
 cells:0<n→∃k o,a=some ⟨k,o,none⟩∧∀j,j<n→w.rangeAt k (o+j*4) [.int .i64 (wh j),.int .i64 (nn j),.string (z j),.string (t j)]
 small:∀j,j<n→nn j≤9223372036854775807
theorem Yo {P:Program}{c:Code}{Q:Exit→Act→World→Prop}{a:Act}{w:World}(h:c.wp P (Exit.then (fun a w=>Q .normal a w) Q) a w):c.wp P Q a w:=wp_mono h (fun e a w h=>by cases e<;>exact h)
theorem UV {w0 w:World}{N db cb Rb rd rc:Nat}{s:ByteArray}{r rr:Int}{S':Vs}{a:Value}(h:OMf w0 w N db cb Rb rd rc s sW 0 r S' rr a):rr=0:=by
 have ho:Ja (dY s) (dM s) sW 0 r S':=h.opn;obtain⟨hr0,_,_,_,h4,_,_⟩:=Aa (Jc (dY s) (dM s)).2.2 (Ef 0 (by omega)) ho;have hS:S'=fresh sW 0:=h4 rfl;obtain⟨v,_,hR⟩:=h.sd;rcases hR with⟨h1,_⟩ | ⟨_,h1,_⟩ | ⟨_,l,rf,rv,lv,d,_,h2,_⟩
 ·exact absurd hr0 h1
 ·rw[hS] at h1;have e:eQ (fresh sW 0).X [0,1,2]=[]:=rfl;rw[e,(En.pQ [] []).2 ⟨rfl,rfl⟩] at h1;cases h1
 exact h2
theorem Yp (w:World)(oa:Option Addr)(no oc:Nat)(wh nn:Nat→Int)(z t:Nat→ByteArray)(hg:Et w)(hT:Sm.kM w)(hL:En.Lb w)(hsum:Sm.nM)(ho:Ma w oa no wh nn z t) :
  Calls Tryz.prog 3 #[.slice oa no oc] w fun e w'=>e=.returned (.bool true)∧Since w w':=by
 have HO:=hid ho;have HG:=hid hg;have HT:=hid (an hT hL);have HSU:=hid hsum;clear ho hg hT hsum hL;by_cases hn6:40<no
 ·have b0h:(40:Int)<no:=by omega
  go_enter Tryz.func3,Tryz.ntmps3
  go_wp2_with fail
  go_ret;exact⟨rfl,Since.refl _⟩
 have b0h:(no:Int)≤40:=by omega
 have b5d:decide ((40:Int)<no)=false:=decide_eq_false (by omega);obtain⟨s,hs⟩:∃s:ByteArray,s=⟨#[48,49,50,51,52,53,54,55,56,57,97,98,99,100,101,102]⟩:=⟨_,rfl⟩
 have QA:=hid hs;have h16:s.size=16:=by rw[hs];rfl
 have H16:=hid h16;clear hs h16;go_enter Tryz.func3,Tryz.ntmps3
 go_wp2_with fail
 refine(Sm.Sc _).mono ?_;rintro e w1 ⟨Rb,rfl,hRb,ha1,ha2,hs1⟩;have HA:=hid (an hRb (an ha1 ha2));have cK:=hid hs1;clear hRb ha1 ha2 hs1;go_wp2_with fail
 refine(Uk _).mono ?_;rintro e w2 ⟨rd,rfl,hrd,hrs,hrc,hs2⟩;have HD:=hid (an hrd (an hrs hrc));have HS2:=hid hs2;clear hrd hrs hrc hs2;go_wp2_with fail
 refine(VQ _).mono ?_;rintro e w3 ⟨rfl,rfl⟩;go_upto_region 7 with fail
 have hz5:(((w2.alloc (.cells Tryz.zeroCells104 104)).alloc (.cells #[.int .i64 0] 30)).alloc (.cells #[.int .i64 0] 3)).heap.size=w2.heap.size+1+1+1:=by simp
 have hs5:Since w2 (((w2.alloc (.cells Tryz.zeroCells104 104)).alloc (.cells #[.int .i64 0] 30)).alloc (.cells #[.int .i64 0] 3)):=(((Since.refl w2).alloc _).alloc _).alloc _;have hd5:Dev (((w2.alloc (.cells Tryz.zeroCells104 104)).alloc (.cells #[.int .i64 0] 30)).alloc (.cells #[.int .i64 0] 3)) w2.heap.size sW (.slice none 0 0):=(VR w2).since (((Since.refl _).alloc _).alloc _);have BP:aA (((w2.alloc (.cells Tryz.zeroCells104 104)).alloc (.cells #[.int .i64 0] 30)).alloc (.cells #[.int .i64 0] 3)) (w2.heap.size+1) 1 (fun _=>.int .i64 0):=(aA.new (w2.alloc (.cells Tryz.zeroCells104 104)) 1 _ _ _ (fun j hj=>by rw[show j=0 by omega];rfl) _ (by simp)).since ((Since.refl _).alloc _)
 have hr5:aA (((w2.alloc (.cells Tryz.zeroCells104 104)).alloc (.cells #[.int .i64 0] 30)).alloc (.cells #[.int .i64 0] 3)) (w2.heap.size+1+1) 1 (fun _=>.int .i64 0):=aA.new _ 1 _ _ _ (fun j hj=>by rw[show j=0 by omega];rfl) _ (by simp);generalize ((w2.alloc (.cells Tryz.zeroCells104 104)).alloc (.cells #[.int .i64 0] 30)).alloc (.cells #[.int .i64 0] 3)=w5 at *;obtain⟨VE,hA1,hA2⟩:=HA.o;obtain⟨hD0,hD1,hD2⟩:=HD.o;have hRl:Rb<w1.heap.size:=nK hA1 (by omega);have b0i:=cK.o.size;have Yq:Since w1 w5:=HS2.o.trans hs5;have Yr:Since w w5:=cK.o.trans Yq;have zN:Hid (BD w w5 w5.heap.size w2.heap.size (w2.heap.size+1) Rb rd (w2.heap.size+1+1) sW sW 0):=
  ⟨⟨⟨by omega,by omega,by omega,by omega,by omega⟩,⟨by omega,by omega,by omega,by omega⟩,⟨by omega,by omega,by omega,by omega,by omega,by omega⟩⟩,
   ⟨_,⟨hd5,BP,by omega,by simp[Value.ownBlock],Yr,by omega,by omega,fun k e=>by simp[Value.ownBlock] at e⟩,fun k e=>by simp[Value.ownBlock] at e⟩,
   ⟨⟨_,_,_,Ref.start (hD2.since hs5) (by omega) (Nat.le_refl _)⟩,hr5,⟨hA1.since Yq,hA2.since Yq⟩,⟨by omega,by omega,by omega,by omega,by omega,by omega⟩,Yr,by omega,by omega,by omega⟩,Nat.le_refl _⟩
 clear hz5 hs5 hd5 BP hr5 VE hA1 hA2 hD0 hD1 hD2 hRl b0i Yq HA HD cK HS2;have jX:=hid Yr;clear Yr;generalize w5.heap.size=N at *;generalize w2.heap.size+1+1=rc at *;generalize w2.heap.size+1=cb at *;generalize w2.heap.size=db at *;have QE:Hid (ja Rb s (dY s) (dM s)):=⟨HSU.o,a5j HSU.o Rb s H16.o,a5k HSU.o Rb s H16.o,mX _ _,mX _ _⟩
 have Mw:Hid (Base w (dY s) (dM s)):=⟨HT.o.1,QE.o.kb,QE.o.kt⟩
 have Cy:Hid (Calls Tryz.prog 7 #[.pointer (some ⟨Rb,0,none⟩),.pointer (some ⟨rd,0,none⟩),.pointer (some ⟨rc,0,none⟩),.string ⟨#[48,49,50,51,52,53,54,55,56,57,97,98,99,100,101,102]⟩] w5 fun e w'=>∃rr a r S',e=.returned (.tuple #[a,.int .i64 rr])∧OMf w w' N db cb Rb rd rc s sW 0 r S' rr a∧lY w5 w' db cb rd rc):=by
  have h:=Ko QE.o HT.o.2 H16.o (c:=0) ⟨by omega,by omega⟩ (D:=sW) (Nat.zero_le 1) zN.o;rw[←QA.o];exact h
 go_wp2_with fail
 refine Cy.o.mono ?_;rintro e w6 ⟨rr,a6,r6,S6,rfl,Yk,YM⟩;obtain rfl:=UV Yk;have Ah:Hid (Calls Tryz.prog 8 #[.pointer (some ⟨db,0,none⟩),.pointer (some ⟨cb,0,none⟩),.string ⟨#[48,49,50,51,52,53,54,55,56,57,97,98,99,100,101,102]⟩] w6 fun e w'=>∃b,e=.returned (.tuple #[b,.nilIface])∧Op2 w w' N db cb Rb rd rc s (0+1) 0 a6 b∧Since w w'∧lY w6 w' db cb rd rc):=by
  have h:=Kq HT.o.1 HT.o.2 H16.o (by omega) Yk;rw[vX] at h;rw[←QA.o];exact h
 clear Yk YM Cy;go_wp2_with fail
 refine Ah.o.mono ?_;rintro e w7 ⟨b7,rfl,JO,hs7,hk7⟩;rcases JO with⟨h0,_⟩ | ⟨_,fb,vb,rf,rv,S,l,rfl,rfl,Be,hok,mG⟩
 ·exact absurd rfl h0
 have Jj:=hid (an Be (an hok mG));clear Be hok mG hs7 hk7 Ah zN jX;go_wp2_with fail
 go_loopw [8,10,12] (fun a b i wr=>∃k:Nat,k≤no∧i=.int .i64 k∧∃fb vb rf rv S l,a=.pointer (some ⟨rf,0,none⟩)∧b=.pointer (some ⟨fb,0,none⟩)∧FB w wr N fb vb db cb rf rv Rb rd rc s (dY s) (dM s) S l S l∧S.ok (40*(k:Int)+1)∧En.right l=true) (fun _ _ i _=>no-(intOf i).toNat)
 case atStart=>exact⟨0,by omega,rfl,fb,vb,rf,rv,S,l,rfl,rfl,Jj.o.1,Jj.o.2.1.le (by omega),Jj.o.2.2⟩
 clear Jj S l;obtain⟨k,hk,rfl,fb,vb,rf,rv,S,l,rfl,rfl,Be,hok,mG⟩:=hrel;have jE:=hid Be;have cO:Hid (S.ok (40*(k:Int)+1)∧En.right l=true∧40*(k:Int)+1<1000000):=⟨hok,mG,by omega⟩
 clear Be hok mG;by_cases hlt:k<no
 ·have hlt2:(k:Int)<no:=by omega
  obtain⟨ka,ko,hoa,hr⟩:=HO.o.cells (by omega);have hR:wr.rangeAt ka (ko+k*4) [.int .i64 (wh k),.int .i64 (nn k),.string (z k),.string (t k)]:=fun i v hi=>(jE.o.since.cell (World.block_lt_of_cell? w _ (hr k hlt i v hi))).trans (hr k hlt i v hi)
  subst hoa;clear hr;have VZ:=hid (HO.o.small k hlt);go_upto_region 15 with(refine wpList_load_mid (by rfl) 43 _ (by rfl) ka (ko+k*4) (by rfl) _ _ hR Tryz.underlying43 (by rfl) (by kernel_rfl) ?_)
  have Ci:Hid (FC (wr.alloc (.cells #[.int .i64 (wh k),.int .i64 (nn k),.string (z k),.string (t k)] 43)) db cb rd rc wr.heap.size (wh k) (nn k) (z k) (t k)):=by
   have h1:=jE.o.ap.lt;have h2:=jE.o.nN;exact⟨by simp,by simp,by simp,by simp,⟨⟨_,Ty.new wr _ 43,by decide,by decide,by decide,by decide,by decide⟩,by omega,by omega,by omega,by omega⟩⟩
  have a2P:Hid (FB w (wr.alloc (.cells #[.int .i64 (wh k),.int .i64 (nn k),.string (z k),.string (t k)] 43)) N fb vb db cb rf rv Rb rd rc s (dY s) (dM s) S l S l):=jE.o.go ((Since.refl wr).alloc _);generalize wr.alloc (.cells #[.int .i64 (wh k),.int .i64 (nn k),.string (z k),.string (t k)] 43)=wx at *;clear hR jE;generalize wr.heap.size=xb at *;have c0:=Ci.o.c0;have c2:=Ci.o.c2;have c3:=Ci.o.c3;by_cases h60:60<(z k).size
  ·have hd:decide (60<(z k).size)=true:=decide_eq_true h60;clear h60;go_wp2_with fail
   refine(oD (z k) _).mono ?_;rintro e w9 ⟨rfl,hw9⟩;subst hw9;go_wp2_with fail
   go_ret;exact⟨rfl,a2P.o.since⟩
  have hd6:decide (60<(z k).size)=false:=decide_eq_false h60;have b0j:=hid h60;clear h60;by_cases h20:2000<(t k).size
  ·have h2:(2000:Int)<(t k).size:=by omega
   clear h20;go_wp2_with fail
   refine(oD (z k) _).mono ?_;rintro e w9 ⟨rfl,hw9⟩;subst hw9;go_wp2_with fail
   go_ret;exact⟨rfl,a2P.o.since⟩
  have h2:¬(2000:Int)<(t k).size:=by omega
  have HZT:Hid ((z k).size≤100000∧(t k).size≤100000):=⟨by have:=b0j.o;omega,by omega⟩
  clear h20;go_wp2_with fail
  refine(oD (z k) _).mono ?_;rintro e w9 ⟨rfl,hw9⟩;subst hw9;go_upto_block 2 with fail
  clear c0 c2 c3 h2 hd6;have HT3:=hid (an HT.o.1 (an HT.o.2 H16.o))
  refine a1g _ (by kernel_rfl) w w9 N fb vb db cb rf rv Rb rd rc xb s S l (40*(k:Int)+1) (wh k) (nn k) (z k) (t k) a2P cO Ci HZT Mw QE HG HT3 VZ QA _ _ (fun _ _ _ _ _ h=>h) _ _ _ _ _ _ _ _ _ _ _ _ _ _ _ _ _ _ _ _ _ _ _ _ _ _ _ _ _ _ _ _ _ _ _ _ _ _ _ _ _ _ _ _ _ _ _ _ _ _ _ _ _ _ _ _ _ _ _ _ _ _ _ _ _ _ _ _ _ _ _ _ _ _ _ _ _ _ _ _ _ _ _ _ _ _ _ _ _ _ _ _ _ _ _ _ _ _ _ _ _ _ _ _ _ _ _ _ _ _ _ _ _ _ _ _ _ _ _ _ _ _ _ _ _ _ _ _ _ _ _ _ _ _ _ _ _ _ _ _ _ _ _ _ _ _ _ _ _ _ _ _ _ _ _ _ _ _ _ _ _ _ _ _ _ _ _ _ _ _ _ _ _ _ _ _ _ _ _ _ _ _ _ _ _ _ _ _ _ _ _ _ _ _ _ _ _ _ _ _ _ _ _ _ _ _ _ _ _ _ _ _ _ _ _ _ _ _ _ _ _ _ _ _ _ _ _ _ _ _ _ _ _ _ _ _ _ _ _ _ _ _ _ _ _ _ _ _ _ _ _ _ _ _ (fun wc hsc _ _ _ _ _ _ _ _ _ _ _ _ _ _ _ _ _ _ _ _ _ _ _ _ _ _ _ _ _ _ _ _ _ _ _ _ _ _ _ _ _ _ _ _ _ _ _ _ _ _ _ _ _ _ _ _ _ _ _ _ _ _ _ _ _ _ _ _ _ _ _ _ _ _ _ _ _ _ _ _ _ _ _ _ _ _ _ _ _ _ _ _ _ _ _ _ _ _ _ _ _ _ _ _ _ _ _ _ _ _ _ _ _ _ _ _ _ _ _ _ _ _ _ _ _ _ _ _ _ _ _ _ _ _ _ _=>?_) (fun wc QF UM QG rv' S' l' hdn y0 y1 y2 y3 y4 y5 y6 y7 y8 y9 y10 y11 y12 y13 y14 y15 y16 y17 y18 y19 y20 y21 y22 y23 y24 y25 y26 y27 y28 y29 y30 y31 y32 y33 y34 y35 y36 y37 y38 y39 y40 y41 y42 y43 y44 y45 y46 y47 y48 y49 y50 y51 y52 y53 y54 y55 y56 y57 y58 y59 y60 y61 y62 y63 y64 y65 y66 y67 y68 y69 y70 y71 y72 y73 y74 y75 y76 y77 y78 y79 y80 y81 y82 y83 y84 y85 y86 y87 y88 y89 y90 y91 y92 y93 y94 y95 y96 y97 y98 y99 y100 y101 y102 y103 y104 y105 y106 y107 y108 y109 y110 y111 y112 y113 y114 y115 y116 y117 y118 y119 y120 y121 y122 y123 y124 y125 y126 y127 y128 y129 y130 y131 y132 y133=>?_)
  ·have HSR:=hid hsc;clear hsc;dsimp only[Exit.inBlock,Exit.then];show bodyPost Tryz.prog Tryz.f3 (fun e w'=>e=Ending.returned (Value.bool true)∧Since w w') Exit.ret _ wc
   go_ret;exact⟨rfl,HSR.o⟩
  have Zh:=hid hdn;clear hdn;have a2Q:=hid Zh.o.fb;have HR2:=hid (((aZ l').1 Zh.o.right).1.len);have HXC:=hid ((Ci.o.keeps Zh.o.keeps).c2);rename_i aK
  refine aK _ _ ?_;refine wp_seq ?_;refine a2N _ (by kernel_rfl) w wc N QF UM db cb QG rv' Rb rd rc s (dY s) (dM s) S' l' a2Q HR2 _ _ (fun _ _ _ _ _ h=>h) _ _ _ _ _ _ _ _ _ _ _ _ _ _ _ _ _ _ _ _ _ _ _ _ _ _ _ _ _ _ _ _ _ _ _ _ _ _ _ _ _ _ _ _ _ _ _ _ _ _ _ _ _ _ _ _ _ _ _ _ _ _ _ _ _ _ _ _ _ _ _ _ _ _ _ _ _ _ _ _ _ _ _ _ _ _ _ _ _ _ _ _ _ _ _ _ _ _ _ _ _ _ _ _ _ _ _ _ _ _ _ _ _ _ _ _ _ _ _ _ _ _ _ _ _ _ _ _ _ _ _ _ _ _ _ _ _ _ _ _ _ _ _ _ _ _ _ _ _ _ _ _ _ _ _ _ _ _ _ _ _ _ _ _ _ _ _ _ _ _ _ _ _ _ _ _ _ _ _ _ _ _ _ _ _ _ _ _ _ _ _ _ _ _ _ _ _ _ _ _ _ _ _ _ _ _ _ _ _ _ _ _ _ _ _ _ _ _ _ _ _ _ _ _ _ _ _ _ _ _ _ _ _ _ _ _ _ _ _ _ _ _ _ _ _ _ _ _ _ _ _ _ _ _ _ _ _ _ _ _ _ (fun wd hsd x0 x1 x2 x3 x4 x5 x6 x7 x8 x9 x10 x11 x12 x13 x14 x15 x16 x17 x18 x19 x20 x21 x22 x23 x24 x25 x26 x27 x28 x29 x30 x31 x32=>?_);have a2R:=hid (a2Q.o.go hsd)
  have HR3:=hid (an Zh.o.ok (an Zh.o.right HR2.o));have VN:Hid (wd.cell? ⟨xb,2,none⟩=some (.string (z k))):=(hsd.cell (p:=⟨xb,2,none⟩) (World.block_lt_of_cell? wc _ HXC.o)).trans HXC.o;clear hsd HXC a2Q aK;refine Yo ?_
  refine a2O _ (by kernel_rfl) w wd N QF UM db cb QG rv' Rb rd rc xb s (dY s) (dM s) S' l' (40*(k:Int)+1+40) (z k) a2R HR3 VN HG _ _ (fun _ _ _ _ _ h=>h) _ _ _ _ _ _ _ _ _ _ _ _ _ _ _ _ _ _ _ _ _ _ _ _ _ _ _ _ _ _ _ _ _ _ _ _ _ _ _ _ _ _ _ _ _ _ _ _ _ _ _ _ _ _ _ _ _ _ _ _ _ _ _ _ _ _ _ _ _ _ _ _ _ _ _ _ _ _ _ _ _ _ _ _ _ _ _ _ _ _ _ _ _ _ _ _ _ _ _ _ _ _ _ _ _ _ _ _ _ _ _ _ _ _ _ _ _ _ _ _ _ _ _ _ _ _ _ _ _ _ _ _ _ _ _ _ _ _ _ _ _ _ _ _ _ _ _ _ _ _ _ _ _ _ _ _ _ _ _ _ _ _ _ _ _ _ _ _ _ _ _ _ _ _ _ _ _ _ _ _ _ _ _ _ _ _ _ _ _ _ _ _ _ _ _ _ _ _ _ _ _ _ _ _ _ _ _ _ _ _ _ _ _ _ _ _ _ _ _ _ _ _ _ _ _ _ _ _ _ _ _ _ _ _ _ _ _ _ _ _ _ _ _ _ _ _ _ _ _ _ _ _ _ _ _ _ _ _ _ _ _ (fun we hse v0 v1 v2 v3 v4 v5 v6 v7 v8 v9 v10 v11 v12 v13 v14 v15 v16 v17 v18 v19 v20 v21 v22 v23 v24 v25 v26 v27 v28 v29 v30 v31 v32 v33 v34 v35 v36 v37 v38=>?_);have b0l:=hid (a2R.o.go hse)
  have HR4:Hid (S'.ok (40*((k+1:Nat):Int)+1)∧En.right l'=true):=⟨HR3.o.1.le (by omega),HR3.o.2.1⟩
  clear hse a2R HR3 VN Zh HR2;dsimp only[Exit.inBlock,Exit.then];go_wp2_with fail
  go_roundw
  case rel=>exact⟨k+1,by omega,by go_num,QF,UM,QG,rv',S',l',rfl,rfl,b0l.o,HR4.o.1,HR4.o.2⟩
  case measure=>simp[intOf];omega
 have hlt2:¬(k:Int)<no:=by omega
 have HSF:=hid jE.o.since;go_wp2_with fail
 go_ret;exact⟨rfl,HSF.o⟩
end Fl
end
end Go.Proofs.YtlgbfkcpdelcbaaGreatDoor
