import Derived.Deep.RegionHeld3
import Derived.Deep.RegionLaw
import Derived.Deep.AppendLies
import Derived.Test.YtmhcfaaggkidjaaGreatDoorJ15
set_option linter.unusedSimpArgs false
set_option linter.unusedVariables false
section
namespace Go.Proofs.YtmhcfaaggkidjaaGreatDoor
open Go.RowKit
theorem KJ (D:Dv) (v:Value) (b k:Nat) (s:ByteArray) (w:World) (hd:Dev w b D v) (hk:k<2) (hs:s.size≤500) (hm:D.may=false) :
  Calls Tryz.prog 188 #[.pointer (some ⟨b,0,none⟩),.int .i64 k,.string s] w fun e w'=>e=.returned (.iface 32 (.int .i64 14))∧w'=w:=by
 have hh:=Bh hk;have hs2:(s.size:Int)≤500:=by omega
 go_enter Tryz.func188,Tryz.ntmps188
 go_wp2_with fail
 refine(aW _ _).mono ?_;rintro e w' ⟨rfl,rfl⟩;go_wp2_with fail
 refine(mJ _ _).mono ?_;rintro e w' ⟨rfl,rfl⟩;rw[hh];go_wp2_with fail
 refine(iQ D v b _ hd).mono ?_;rintro e w1 ⟨rfl,h1,_⟩;obtain rfl:=h1 hm;rw[hm];go_wp2_with fail
 go_ret;exact⟨rfl,rfl⟩
def Dv.wrote (D:Dv) (k:Nat) (s:ByteArray):Dv:={ D with ws:=D.ws++[(k,s)] }
theorem Zn:(Tryz.prog.info? 228).map (fun i=>(i.zero,i.size,i.bytes))=some (some (.agg #[.int .i64 0,.string ⟨#[]⟩]),2,24):=by kernel_rfl
theorem qX (D:Dv):D.au.ws=D.ws:=by unfold Dv.au;split<;>rfl
theorem Dj {w w3:World} {b:Nat} {D:Dv} {v:Value} (hd:Dev w b D v) (hg:w.grownBy w3 v.ownBlock):ak w3 b 17403 (cu D v) where
 cell j hj:=hg.cell (hd.bL.cell j hj) hd.ne
 frozen j hj:=(World.frozen?_of_block (w:=w) (hg.block b hd.lt hd.ne)).trans (hd.bL.frozen j hj)
theorem Dl (ws:List (Nat × ByteArray)) (k:Nat) (s:ByteArray):kF (ws++[(k,s)])=kF ws++[.int .i64 k,.string s]:=by simp[kF]
theorem Tt {w w3:World} {b g cap k:Nat} {D:Dv} {v:Value} {s:ByteArray} (hd:Dev w b D v) (hk:k<2) (hs:s.size≤500) (hn:D.ws.length<1000)
  (hown:w3.ownsRow 0 228 2 (.slice (some ⟨g,0,none⟩) (D.ws.length+1) cap) (D.ws.length+1) (kF D.ws++[.int .i64 k,.string s])) (hg:w.grownBy w3 v.ownBlock) (hat:v.ownBlock=some g∨g=w.heap.size) :
  Dev (w3.setCell ⟨b,17400,none⟩ (.slice (some ⟨g,0,none⟩) (D.ws.length+1) cap)) b (D.wrote k s) (.slice (some ⟨g,0,none⟩) (D.ws.length+1) cap) where
 bL:=by
  refine((Dj hd hg).set 17400 (by omega) _).congr (fun j hj=>?_);unfold aZ;by_cases e:j=17400
  ·subst e;rw[if_pos rfl,gI]
  rw[if_neg e];unfold cu;have h3:j<16400∨(¬j<16400∧j<17400)∨(¬j<16400∧¬j<17400):=by omega
  rcases h3 with h | ⟨h,h'⟩ | ⟨h,h'⟩
  ·rw[if_pos h,if_pos h];rfl
  ·rw[if_neg h,if_neg h,if_pos h',if_pos h'];rfl
  rw[if_neg h,if_neg h,if_neg h',if_neg h',if_neg e,if_neg e];rfl
 own:=by
  have hne:b≠g:=by
   rcases hat with h | h
   ·intro e;subst e;exact hd.ne h.symm
   have:=hd.lt;omega
  have h2:=jD hown (Fr.setCell b none 17400 w3 (.slice (some ⟨g,0,none⟩) (D.ws.length+1) cap)) (by simp[Value.ownBlock];exact fun e=>hne e.symm) (Or.inr (by simp[Value.ownBlock]));have e1:(D.wrote k s).ws=D.ws++[(k,s)]:=rfl;rw[e1,Dl,List.length_append];exact h2
 ne:=by
  rcases hat with h | h
  ·intro e;simp[Value.ownBlock] at e;subst e;exact hd.ne h.symm
  intro e;simp[Value.ownBlock] at e;have:=hd.lt;omega
 ok:=⟨hd.ok.cnt,hd.ok.sure,hd.ok.zero,hd.ok.left,fun p hp=>by
   rcases List.mem_append.1 hp with h | h
   ·exact hd.ok.ws p h
   rw[List.mem_singleton.1 h];exact⟨hk,hs⟩,by show (D.ws++[(k,s)]).length≤1000;simp;omega⟩
theorem Xh {w w3:World} {b:Nat} {v x:Value} (hg:w.grownBy w3 v.ownBlock):Fr b v.ownBlock w (w3.setCell ⟨b,17400,none⟩ x):=
 (Fr.trans' ⟨hg.os,hg.tape,hg.output,hg.size,fun k hk _ h=>hg.block k hk h⟩ (Fr.setCell b v.ownBlock 17400 w3 x))
theorem Fr.wide {b:Nat} {g:Option Nat} {w w':World} (h:Fr b none w w'):Fr b g w w':=⟨h.os,h.tape,h.output,h.size,fun k hk hb _=>h.block k hk hb (by simp)⟩
set_option maxRecDepth 100000 in
theorem qY (D:Dv) (v:Value) (b k:Nat) (s:ByteArray) (w:World) (hd:Dev w b D v) (hk:k<2) (hs:s.size≤500) (hm:D.may=true) (hn:D.ws.length<1000) :
  Calls Tryz.prog 188 #[.pointer (some ⟨b,0,none⟩),.int .i64 k,.string s] w fun e w'=>e=.returned .nilIface∧∃v',Dev w' b (D.au.wrote k s) v'∧Fr b v.ownBlock w w'∧Nx w v.ownBlock v'.ownBlock:=by
 have hh:=Bh hk;have hs2:(s.size:Int)≤500:=by omega
 have HD:=(show Hid (Dev w b D v) from hd)
 clear hd;go_enter Tryz.func188,Tryz.ntmps188
 go_wp2_with fail
 refine(aW _ _).mono ?_;rintro e w' ⟨rfl,rfl⟩;go_wp2_with fail
 refine(mJ _ _).mono ?_;rintro e w' ⟨rfl,rfl⟩;rw[hh];go_wp2_with fail
 refine(iQ D v b _ HD.out).mono ?_;rintro e w1 ⟨rfl,_,h1⟩;obtain⟨hd1,hf1⟩:=h1 hm;rw[hm];have HD1:=(show Hid _ from hd1)
 clear h1 hd1;go_wp2_with fail
 have c1:w1.drew.cell? ⟨b,17400,none⟩=some v:=by rw[(HD1.out.since (Since.refl _).drew).bL.cell 17400 (by omega)];rfl
 have hlen:D.au.ws.length+1≤1000:=by rw[qX];omega
 obtain⟨i0,hi,hz0,hz1,hz2⟩:=info_parts' Zn;have HI:=(show Hid (Tryz.prog.info? 228=some i0∧i0.zero=some (.agg #[.int .i64 0,.string ⟨#[]⟩])∧i0.size=2∧i0.bytes=24) from ⟨hi,hz0,hz1,hz2⟩)
 clear hi hz0 hz1 hz2;have HL:=(show Hid _ from hlen)
 clear hlen;go_region_law (first
  | (refine step_append_lies _ (by rfl) (.tmp 28) (.tmp 33) 102 (by rfl) 0 228 i0 _ 2 24 Tryz.underlying102 HI.out.1 HI.out.2.1 HI.out.2.2.1 HI.out.2.2.2 (by rfl) (by decide) v D.au.ws.length (kF D.au.ws) (by rfl) (((HD1.out.since (Since.refl _).drew).since hS2).own.alloc _) ⟨w2.heap.size,0,none⟩ 1 1 [.int .i64 k,.string s] (by rfl) (by rfl) (World.news_of_block (heap_alloc_new w2 _)) (by simp[Value.oneCell']) (by decide) (by have:=HL.out;unfold maxLen;omega) (by have:=HL.out;omega) (Nat.zero_le _) (w2.heap.size+1) (by simp) ?_;intro g cap w3 hown hgrow hat hlt;have fT:=Dj ((HD1.out.since (Since.refl _).drew).since (hS2.alloc _)) hgrow;have c3:=fT.cell 17400 (by omega);rw[gI] at c3;have f3:=fT.frozen 17400 (by omega))
  | (go_simp;go_at_call 72;refine(ed s _ (by omega)).mono ?_;rintro e w2 ⟨rfl,hS2⟩;have c2:=((HD1.out.since (Since.refl _).drew).since hS2).bL.cell 17400 (by omega);rw[gI] at c2;have c4:=((HD1.out.since (Since.refl _).drew).since (hS2.alloc (.cells #[.int .i64 k,.string s] 228))).bL.cell 17400 (by omega);rw[gI] at c4;dsimp only))
 all_goals
  go_wp2_with fail
  go_ret;refine⟨rfl,_,Tt ((HD1.out.since (Since.refl _).drew).since (hS2.alloc _)) hk hs (by have:=HL.out;omega) hown hgrow (by simpa using hat),(hf1.wide.trans' (Fr.ah ((Since.refl _).drew.trans (hS2.alloc _)))).trans' (Xh hgrow),?_⟩;intro j hj;simp only[Value.ownBlock,Option.some.injEq] at hj;subst hj;rcases hat with h | h
  ·exact Or.inl h
  right
  have h1:=hf1.size;have h2:=hS2.size;have h3:w1.drew.heap.size=w1.heap.size:=rfl;omega
end Go.Proofs.YtmhcfaaggkidjaaGreatDoor
end
section
namespace Go.Proofs.YtmhcfaaggkidjaaGreatDoor
open Go.RowKit
set_option maxRecDepth 100000 in
theorem iy (s:ByteArray) (w:World) :
  Calls Tryz.prog 191 #[.string s] w fun e w'=>e=.returned (.agg (aa 500 (fun i=>bv (sb s i))).toArray)∧Since w w':=by
 have hA:ak ((w.alloc (.cells Tryz.zeroCells100 100)).alloc (.cells Tryz.zeroCells100 100)) (w.heap.size+1) 500 (fun _=>bv 0):=ak.new (w.alloc _) _ _ _ _ (fun j hj=>jb j hj) _ (by simp);have hB:ak ((w.alloc (.cells Tryz.zeroCells100 100)).alloc (.cells Tryz.zeroCells100 100)) w.heap.size 500 (fun _=>bv 0):=(ak.new w _ _ _ _ (fun j hj=>jb j hj) _ rfl).since ((Since.refl _).alloc _);have hcp:=fE _ 3 (w.heap.size+1) 0 500 500 500 _ s hA (by omega);have hA2:=hA.setRow 0 (min s.size 500) (by omega) (fun i=>bv (sb s i));have hB2:=hB.setRow_other (b':=w.heap.size+1) (o':=0) (aa (min s.size 500) (fun i=>bv (sb s i))) (by omega);have hS:=((((Since.refl w).alloc (.cells Tryz.zeroCells100 100)).alloc (.cells Tryz.zeroCells100 100))).setCells (b:=w.heap.size+1) (by omega) (aa (min s.size 500) (fun i=>bv (sb s i))) 0
 generalize hw2:World.setCells _ _ _ (aa (min s.size 500) (fun i=>bv (sb s i)))=w2 at *;have hA3:ak w2 (w.heap.size+1) 500 (fun i=>bv (sb s i)):=hA2.congr (fun j hj=>by
  unfold dF;by_cases h:0≤j∧j<0+min s.size 500
  ·rw[if_pos h];rfl
  rw[if_neg h,nY s j (by omega)])
 have hR:=hA3.range 0 500 (by omega);simp only[Nat.zero_add] at hR;have hL:(aa 500 (fun i=>bv (sb s i))).length=500:=ag _ _;have hst:=hB2.store Tryz.prog 0 500 (by omega) (fun i=>bv (sb s i)) (fun _ _=>rfl);have HS:=(show Hid (Since w w2) from hS)
 have HB:=(show Hid _ from hB2)
 clear hA hB hA2 hB2 hA3 hS hw2;go_enter Tryz.func191,Tryz.ntmps191
 go_wp2_with (refine wpList_load_mid (by rfl) 100 _ (by rfl) (w.heap.size+1) 0 (by rfl) _ _ hR Tryz.underlying100 (by rfl) (by rw[ag];kernel_rfl) ?_)
 have hB3:=(HB.out.setRow 0 500 (by omega) (fun i=>bv (sb s i))).congr (g:=fun i=>bv (sb s i)) (fun j hj=>by unfold dF;rw[if_pos (by omega)];rfl);have AR:=hB3.range 0 500 (by omega);simp only[Nat.zero_add] at AR;exact bodyPost_ret (aQ Tryz.results191 _ _ _ w.heap.size _ _ (by rfl) AR Tryz.underlying100 (by rfl) (by rw[ag];kernel_rfl)) rfl ⟨rfl,HS.out.setCells (Nat.le_refl _) _ _⟩
def Dv.tF (D:Dv) (n:Int):Dv:={ D with fused:=decide (0≤n),left:=max n 0 }
theorem Dm (D:Dv) (v:Value) (b:Nat) (n:Int) (w:World) (hd:Dev w b D v) (hn:n≤9223372036854775807) :
  Dev ((w.setCell ⟨b,17401,none⟩ (.bool (decide (0≤n)))).setCell ⟨b,17402,none⟩ (.int .i64 (max n 0))) b (D.tF n) v:=by
 refine hd.turn (((hd.bL.set 17401 (by omega) _).set 17402 (by omega) _).congr (fun j hj=>?_)) ((Fr.setCell _ _ _ _ _).trans' (Fr.setCell _ _ _ _ _)) rfl ?_
 ·unfold aZ;by_cases e:j=17402
  ·subst e;rw[if_pos rfl,jE];rfl
  rw[if_neg e];by_cases e1:j=17401
  ·subst e1;rw[if_pos rfl,iO];rfl
  rw[if_neg e1];unfold cu;have h3:j<16400∨(¬j<16400∧j<17400)∨j=17400:=by omega
  rcases h3 with h | ⟨h,h'⟩ | rfl
  ·rw[if_pos h,if_pos h];rfl
  ·rw[if_neg h,if_neg h,if_pos h',if_pos h'];rfl
  rfl
 have:=hd.ok;exact⟨this.cnt,this.sure,this.zero,by show 0≤max n 0∧max n 0≤_;omega,this.ws,this.few⟩
set_option maxRecDepth 100000 in
theorem wU (D:Dv) (v:Value) (b:Nat) (n:Int) (w:World) (hd:Dev w b D v) (hn:n≤9223372036854775807) :
  Calls Tryz.prog 84 #[.pointer (some ⟨b,0,none⟩),.int .i64 n] w fun e w'=>e=.returned (.tuple #[])∧Dev w' b (D.tF n) v∧Fr b none w w':=by
 have c1:=hd.bL.cell 17401 (by omega);have f1:=hd.bL.frozen 17401 (by omega);have c2:=hd.bL.cell 17402 (by omega);have f2:=hd.bL.frozen 17402 (by omega);rw[iO] at c1;rw[jE] at c2;have c3:(w.setCell ⟨b,17401,none⟩ (.bool (decide (0≤n)))).cell? ⟨b,17402,none⟩=some (.int .i64 D.left):=by
  rw[World.cell?_setCell_other _ _ _ _ (by intro hc;injection hc with _ h2;omega)];exact c2
 have HD:=(show Hid (Dev w b D v) from hd)
 clear hd;by_cases h0:0≤n
 ·have hx:max n 0=n:=by omega
  have h2:=Dm D v b n w HD.out hn;rw[hx,decide_eq_true h0] at h2;rw[decide_eq_true h0] at c3;have HX:=(show Hid _ from h2)
  clear h2 hx;go_enter Tryz.func84,Tryz.ntmps84
  go_wp2_with fail
  refine(aW _ _).mono ?_;rintro e w' ⟨rfl,rfl⟩;go_wp2_with fail
  go_end0
  exact⟨rfl,HX.out,(Fr.setCell _ _ _ _ _).trans' (Fr.setCell _ _ _ _ _)⟩
 have hx:max n 0=0:=by omega
 have h2:=Dm D v b n w HD.out hn;rw[hx] at h2;have HX:=(show Hid _ from h2)
 clear h2 hx;go_enter Tryz.func84,Tryz.ntmps84
 go_wp2_with fail
 refine(aW _ _).mono ?_;rintro e w' ⟨rfl,rfl⟩;go_wp2_with fail
 go_end0
 exact⟨rfl,HX.out,(Fr.setCell _ _ _ _ _).trans' (Fr.setCell _ _ _ _ _)⟩
end Go.Proofs.YtmhcfaaggkidjaaGreatDoor
end
section
namespace Go.Proofs.YtmhcfaaggkidjaaGreatDoor
open Go.RowKit
def Dv.reset (D:Dv) (z:Nat):Dv:=
 { D with blk:=fun z' k i=>if z'=z then 0 else D.blk z' k i,cnt:=fun z'=>if z'=z then 0 else D.cnt z',sure:=fun z'=>if z'=z then 0 else D.sure z' }
theorem OA (D:Dv) (z:Nat) (h:D.ok):(D.reset z).ok where
 cnt z' hz':=by
  show (if z'=z then _ else _)≤16
  split
  ·omega
  exact h.cnt z' hz'
 sure z' hz':=by
  show (if z'=z then _ else _)≤(if z'=z then _ else _)
  split
  ·omega
  exact h.sure z' hz'
 zero z' k i hz' hk hk2 hi:=by
  show (if z'=z then _ else _)=_
  have hk':(if z'=z then 0 else D.cnt z')≤k:=hk;by_cases e:z'=z
  ·rw[if_pos e]
  rw[if_neg e] at hk' ⊢;exact h.zero z' k i hz' hk' hk2 hi
 left:=h.left
 ws:=h.ws
 few:=h.few
set_option maxRecDepth 100000 in
theorem KL (D:Dv) (v:Value) (b z:Nat) (w:World) (hd:Dev w b D v) (hz:z<8):Dev (w.setCells b (z*2050) (aa 2050 (aD (fun _ _=>0) 0 0))) b (D.reset z) v:=by
 refine hd.turn ((hd.bL.setRow (z*2050) 2050 (by omega) _).congr (fun j hj=>?_)) (Fr.setCells _ _ _ _ _) rfl (OA D z hd.ok);refine jL D (D.reset z) v z hz _ (fun j hj=>?_) (fun j hj=>?_) (fun z' h=>?_) (fun z' h=>?_) (fun z' h=>?_) rfl rfl rfl j
 ·unfold dF;rw[if_pos (by omega),show z*2050+j-z*2050=j by omega];have e1:(D.reset z).blk z=fun _ _=>0:=by funext k i;simp[Dv.reset]
  have e2:(D.reset z).cnt z=0:=by simp[Dv.reset]
  have e3:(D.reset z).sure z=0:=by simp[Dv.reset]
  rw[e1,e2,e3]
 ·unfold dF;rw[if_neg (by omega)]
 ·funext k i;simp[Dv.reset,h]
 ·simp[Dv.reset,h]
 simp[Dv.reset,h]
theorem Dp (D:Dv) (v:Value) (b z:Nat) (w:World) (hd:Dev w b D v) (hz:z<8) (hm:D.may=false) :
  Calls Tryz.prog 208 #[.pointer (some ⟨b,0,none⟩),.int .i64 z] w fun e w'=>e=.returned (.iface 32 (.int .i64 14))∧w'=w:=by
 have hh:=qW hz;go_enter Tryz.func208,Tryz.ntmps208
 go_wp2_with fail
 refine(aW _ _).mono ?_;rintro e w' ⟨rfl,rfl⟩;go_wp2_with fail
 refine(bN _ _).mono ?_;rintro e w' ⟨rfl,rfl⟩;rw[hh];go_wp2_with fail
 refine(iQ D v b _ hd).mono ?_;rintro e w1 ⟨rfl,h1,_⟩;obtain rfl:=h1 hm;rw[hm];go_wp2_with fail
 go_ret;exact⟨rfl,rfl⟩
set_option maxRecDepth 100000 in
theorem KM (D:Dv) (v:Value) (b z:Nat) (w:World) (hd:Dev w b D v) (hz:z<8) (hm:D.may=true) :
  Calls Tryz.prog 208 #[.pointer (some ⟨b,0,none⟩),.int .i64 z] w fun e w'=>e=.returned .nilIface∧Dev w' b (D.au.reset z) v∧Fr b none w w':=by
 have hh:=qW hz;have hz2:(z:Int)<8:=by omega
 have HD:=(show Hid (Dev w b D v) from hd)
 clear hd;go_enter Tryz.func208,Tryz.ntmps208
 go_wp2_with fail
 refine(aW _ _).mono ?_;rintro e w' ⟨rfl,rfl⟩;go_wp2_with fail
 refine(bN _ _).mono ?_;rintro e w' ⟨rfl,rfl⟩;rw[hh];go_wp2_with fail
 refine(iQ D v b _ HD.out).mono ?_;rintro e w1 ⟨rfl,_,h1⟩;obtain⟨hd1,hf1⟩:=h1 hm;rw[hm];have hst:=hd1.bL.store Tryz.prog (z*2050) 2050 (by omega) (aD (fun _ _=>0) 0 0) (fun _ _=>nX _ _ _ _);have hzl:=wm;have HD1:=(show Hid _ from hd1)
 have HF:=(show Hid _ from hf1)
 clear h1 hd1 hf1;go_wp2_with fail
 go_ret;exact⟨rfl,KL _ v b z w1 HD1.out hz,HF.out.trans' (Fr.setCells _ _ _ _ _)⟩
end Go.Proofs.YtmhcfaaggkidjaaGreatDoor
end
