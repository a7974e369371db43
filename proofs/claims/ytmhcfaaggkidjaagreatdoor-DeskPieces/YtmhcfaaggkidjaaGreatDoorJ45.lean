import Derived.Deep.Upon
import Derived.Test.YtmhcfaaggkidjaaGreatDoorJ43
import Derived.Test.YtmhcfaaggkidjaaGreatDoorJ44
set_option linter.unusedSimpArgs false
set_option linter.unusedVariables false
section
namespace Go.Proofs.YtmhcfaaggkidjaaGreatDoor
set_option maxRecDepth 100000
namespace Fl
open Go.RowKit Go.Sort Go.Shelf
open En (Fi iX Ints fZ Row aP)
open Vl
def uW (l:List ByteArray):List Value:=l.map (fun s=>.string s)
theorem gX (l:List ByteArray):(uW l).length=l.length:=List.length_map _
theorem UJ (l:List Fi):NB l=uW (l.map Fi.nm):=by unfold NB uW;rw[List.map_map];rfl
theorem UK (w:World) (ty base bx:Nat) (v x:Value) (xs ys:List ByteArray) (hown:w.ownsRow base 9 1 v xs.length (uW xs)) (hx:w.ownsRow bx 9 1 x ys.length (uW ys)) (h1:xs.length≤1000) (h2:ys.length≤1000) (hbase:base≤w.heap.size) :
  ∃v' w',(Builtin.append_ #[28,28] ty #[v,x]).run Tryz.prog w=.ok v' w'∧w'.ownsRow base 9 1 v' (xs++ys).length (uW (xs++ys))∧w.grownBy w' v.ownBlock:=by
 obtain⟨i0,hi,hz0,hz1,hz2⟩:=info_parts' Dx;by_cases h0:ys=[]
 ·subst h0;obtain⟨av,cv,rfl,hcv⟩:∃a c,v=.slice a xs.length c∧xs.length≤c:=by
   rcases hown.2 with⟨h',h0⟩ | ⟨g,cap,cur,h',hb,hg,hnc,_⟩
   ·exact⟨none,0,by rw[h',h0],by omega⟩
   exact⟨_,_,h',hnc⟩
  obtain⟨a,c,rfl⟩:∃a c,x=.slice a 0 c:=by
   rcases hx.2 with⟨h',h0⟩ | ⟨g,cap,cur,h',hb,hg,hnc,_⟩
   ·exact⟨none,0,h'⟩
   exact⟨_,_,h'⟩
  refine⟨.slice av xs.length cv,w,?_,by rw[List.append_nil];exact hown,⟨rfl,rfl,rfl,Nat.le_refl _,fun _ _ _=>rfl⟩⟩;refine run_append_nothing w 28 28 ty 9 i0 Tryz.underlying28 hi _ xs.length cv hcv _ ⟨Or.inl ⟨9,Tryz.underlying28⟩,fun w'=>?_,?_,?_,by simp,by simp⟩
  ·simp[Builtin.lenOf]
  ·cases a<;>simp[Builtin.firstCells,loadCells,loadCellsFrom]
  cases a<;>simp[Builtin.firstCells,loadCells,loadCellsFrom]
 have hpos:0<ys.length:=List.length_pos_iff.2 h0;obtain⟨k,c,rfl⟩:∃k c,x=.slice (some ⟨k,0,none⟩) ys.length c:=by
  rcases hx.2 with⟨h',h0⟩ | ⟨g,cap,cur,h',hb,hg,hnc,_⟩
  ·omega
  exact⟨_,_,h'⟩
 obtain⟨g,cap,w',hr,r2,r3,r4,r5⟩:=run_append_lies (P:=Tryz.prog) w 28 ty base 9 i0 _ 1 16 Tryz.underlying28 hi hz0 hz1 hz2 rfl (by decide) v xs.length (uW xs) hown ⟨k,0,none⟩ ys.length c (uW ys) (by rw[gX,Nat.mul_one]) (fun j u hu=>by
  have hj:j<ys.length:=by have:=(List.getElem?_eq_some_iff.1 hu).1;rwa [gX] at this
  rw[Addr.add_mid,Nat.zero_add];exact(hx.cellAt j (by omega)).trans hu) (fun u hu=>by
  unfold uW at hu;obtain⟨s,_,rfl⟩:=List.mem_map.1 hu
  rfl) hpos (by unfold maxLen;omega) (by omega) hbase w.heap.size rfl
 refine⟨_,w',hr,?_,r3⟩;rw[List.length_append,show uW (xs++ys)=uW xs++uW ys from List.map_append];exact r2
theorem Mr {P:Program} {ops:Array Oper} {rest:List Oper} {o:Oper} {a:Act} {w w':World} {Q:Exit→Act→World→Prop} (hgd:o.guard=none) (s x:Operand) (t:TypeId) (vs vx r:Value)
  (ho:o.op=.call { callee:=.builtin .append,args:=#[s,x],argTypes:=#[t,t] }) (hs:a.eval s=vs) (hx:a.eval x=vx) (hr:(Builtin.append_ #[t,t] o.type #[vs,vx]).run P w=.ok r w') (h:wpList P ops Q rest (a.put o.dst r) w'):wpList P ops Q (o::rest) a w:=
 wpList_plain hgd fun K hK=>by
  unfold Oper.wp execOp;simp only[ho,resolve,invoke,builtin,Sem.run_bind,Sem.run_pure,Result.andThen_ok,List.map_toArray,List.map_cons,List.map_nil,hs,hx,hr];exact hK _ _ h
end Fl
namespace Dk
open Go.RowKit
open En (Fi)
open Vl
open Fl (Fm Fv BU Off Nl bR bT bf uW gX)
def ik:ByteArray:=⟨#[108,105,115,116]⟩
def dm (l:List ByteArray):ByteArray:=⟨(Lib.join (l.map (·.data.toList)) [32]).toArray⟩
def kC (Z Z':Sn) (a:qM):Prop:=match Z.f with
 | ⟨.inr (_,_)⟩=>Z'=Z∧a=(8,⟨#[]⟩)
 | ⟨.inl (S,l)⟩=>Z'=Z∧a=(0,dm (ik::l.map Fi.nm))
theorem uX (m:Nat):∀l:List (List UInt8),(∀x ∈ l,x.length≤m)→(Lib.joinTail [32] l).length≤(m+1)*l.length
 | [],_=>by simp[Lib.joinTail]
 | x::r,h=>by
  have h1:=uX m r (fun y hy=>h y (List.mem_cons_of_mem _ hy));have h2:=h x (List.mem_cons_self ..);have h3:(m+1)*(x::r).length=(m+1)*r.length+(m+1):=by rw[List.length_cons,Nat.mul_add];omega
  have h4:(Lib.joinTail [32] (x::r)).length=1+x.length+(Lib.joinTail [32] r).length:=by
   unfold Lib.joinTail;rw[List.map_cons,List.flatten_cons,List.length_append,List.length_append]
   rfl
  rw[h3,h4];omega
theorem JQ (m:Nat) (l:List (List UInt8)) (h:∀x ∈ l,x.length≤m):(Lib.join l [32]).length≤(m+1)*l.length:=by
 cases l with
 | nil=>exact Nat.zero_le _
 | cons x r=>
  have h1:=uX m r (fun y hy=>h y (List.mem_cons_of_mem _ hy));have h2:=h x (List.mem_cons_self ..);have h3:(m+1)*(x::r).length=(m+1)*r.length+(m+1):=by rw[List.length_cons,Nat.mul_add];omega
  have h4:(Lib.join (x::r) [32]).length=x.length+(Lib.joinTail [32] r).length:=by rw[Lib.join_cons,List.length_append]
  rw[h3,h4];omega
theorem mU (v:Value) (b:Nat) (l:List ByteArray) (w:World) (h:w.ownsRow b 9 1 v l.length (uW l)) (hl:l≠[]) (m:Nat) (hm:∀x ∈ l,x.size≤m) (hb:(m+1)*l.length≤140737488355328) :
  Calls Tryz.prog 96 #[v,.string dW] w fun e w'=>e=.returned (.string (dm l))∧Since w w':=by
 have hpos:0<l.length:=List.length_pos_iff.2 hl;rcases h.2 with⟨h',h0⟩ | ⟨g,c,cur,rfl,hb',hg,hnc,_⟩
 ·omega
 have hle:l.length≤(m+1)*l.length:=by rw[Nat.add_mul];omega
 refine(Tryz.strings_Join g 0 c l dW w (fun j x hx=>?_) (Array.getElem?_eq_some_iff.1 hg).1 (by omega) hnc ?_).mono ?_
 ·have hj:j<l.length:=(List.getElem?_eq_some_iff.1 hx).1;rw[Nat.zero_add,h.cellAt j (by omega)];unfold uW;rw[List.getElem?_map,hx]
  rfl
 ·have h1:=JQ m (l.map (·.data.toList)) (fun x hx=>by
   obtain⟨y,hy,rfl⟩:=List.mem_map.1 hx;exact hm y hy)
  rw[List.length_map] at h1;exact Nat.le_trans h1 hb
 rintro e w' ⟨rfl,hs⟩;exact⟨rfl,hs⟩
theorem JR {s:List UInt8} (h:En.aP s=true):s.length≤10:=by
 cases s with
 | nil=>cases h
 | cons c r=>
  unfold En.aP at h;rw[Bool.and_eq_true,Bool.and_eq_true,decide_eq_true_eq] at h;rw[List.length_cons];omega
theorem UL (w:World) (x:ByteArray):(w.alloc (.cells #[.string x] 9)).ownsRow w.heap.size 9 1 (.slice (some ⟨w.heap.size,0,none⟩) 1 1) 1 (uW [x]):=
 ⟨rfl,.inr ⟨w.heap.size,1,#[.string x],rfl,Nat.le_refl _,heap_alloc_new _ _,Nat.le_refl _,by unfold maxLen;omega,rfl,rfl⟩⟩
section
variable {w0 w w':World} {P:Nat→Prop} {sb:Nat} {Z:Sn} {n:Int}
set_option maxHeartbeats 8000000 in
theorem Yf (G:Gr w0) (h:eu w0 w P sb Z n) (hn:n<800000000) (x y:Value):Calls Tryz.prog 40 #[.pointer (some ⟨sb,0,none⟩),.agg #[x,y]] w (Does w0 P sb Z n kC w):=by
 have hs0:Since w (w.alloc (.cells #[x,y] 92)):=(Since.refl w).alloc _;have hrow:=UL (w.alloc (.cells #[x,y] 92)) ik;have hs1:Since w ((w.alloc (.cells #[x,y] 92)).alloc (.cells #[.string ik] 9)):=hs0.alloc _;rw[show (w.alloc (.cells #[x,y] 92)).heap.size=w.heap.size+1 from Array.size_push _] at hrow;have hgl:w.heap.size+1≤((w.alloc (.cells #[x,y] 92)).alloc (.cells #[.string ik] 9)).heap.size:=by
  have e1:((w.alloc (.cells #[x,y] 92)).alloc (.cells #[.string ik] 9)).heap.size=(w.alloc (.cells #[x,y] 92)).heap.size+1:=Array.size_push _;have e2:(w.alloc (.cells #[x,y] 92)).heap.size=w.heap.size+1:=Array.size_push _;omega
 unfold ik at hrow hs1 hgl;generalize hW:((w.alloc (.cells #[x,y] 92)).alloc (.cells #[.string ⟨#[108,105,115,116]⟩] 9))=W at *;have h1:=h.go hs1;cases hf:Z.f using uT.cs with
 | no D c=>
  have HO:Hid (Calls Tryz.prog 93 #[.pointer (some ⟨sb,0,none⟩)] W fun e w'=>e=thrown 8∧w'=W):=dR sb _ (h1.nil hf);have HD:Hid (Does w0 P sb Z n kC w (thrown 8) W):=h.fails hs1 (by decide) (by unfold kC;rw[hf];exact⟨rfl,rfl⟩);clear h h1 hs1 hn G hf hrow hs0 hgl;go_enter Tryz.func40,Tryz.ntmps40
  go_wp2_with fail
  refine HO.out.mono ?_;rintro e w1 ⟨rfl,hw⟩;subst hw;exact⟨rfl,HD.out⟩
 | op S l=>
  obtain⟨fb,vb,db,cb,v,lv,d,o⟩:=h1.op hf;have LK:l.length≤8:=((Fl.aX l).1 o.right).1.len;have HO:Hid (Calls Tryz.prog 93 #[.pointer (some ⟨sb,0,none⟩)] W fun e w'=>e=.returned (.pointer (some ⟨fb,0,none⟩))∧w'=W):=dS sb fb _ o.c13;have HN:Hid (Calls Tryz.prog 28 #[.pointer (some ⟨fb,0,none⟩)] W fun e w'=>∃x,e=.returned x∧w'.ownsRow W.heap.size 9 1 x (l.map Fi.nm).length (uW (l.map Fi.nm))∧Since W w'):=(Fl.Il o.fm (by omega)).mono (by
   rintro e w' ⟨x,rfl,h2,h3⟩;exact⟨x,rfl,by rw[List.length_map,←Fl.UJ];exact h2,h3⟩)
  have HD:Hid (kC Z Z (0,dm (ik::l.map Fi.nm))):=by unfold kC;rw[hf];exact⟨rfl,rfl⟩
  have HL:Hid (l.length≤8∧(∀s ∈ l.map Fi.nm,s.size≤100)∧W.ownsRow (w.heap.size+1) 9 1 (.slice (some ⟨w.heap.size+1,0,none⟩) 1 1) 1 (uW [ik])∧w.heap.size+1≤W.heap.size):=⟨LK,fun s hs=>by
   obtain⟨f,hfm,rfl⟩:=List.mem_map.1 hs;have h2:=JR (((Fl.aX l).1 o.right).1.good f hfm).1;show f.nm.data.toList.length≤100
   omega,hrow,hgl⟩
  have HS:Hid (eu w0 w P sb Z n∧Since w W):=⟨h,hs1⟩
  clear h h1 hs1 hn G hf hrow hs0 hgl o LK;go_enter Tryz.func40,Tryz.ntmps40
  go_wp2_with fail
  refine HO.out.mono ?_;rintro e w1 ⟨rfl,hw⟩;rw[hw];clear hw w1;go_wp2_with fail
  refine HN.out.mono ?_;rintro e w2 ⟨u,rfl,hu,hs2⟩;obtain⟨v8,w8,hr8,ho8,hg8⟩:=Fl.UK w2 28 (w.heap.size+1) W.heap.size (.slice (some ⟨w.heap.size+1,0,none⟩) 1 1) u [ik] (l.map Fi.nm) (En.bi HL.out.2.2.1 hs2) hu (by simp) (by rw[List.length_map];have:=HL.out.1;omega) (Nat.le_trans HL.out.2.2.2 hs2.size);have Ya:Since w w8:=(HS.out.2.trans hs2).grown hg8 (fun j hj=>by
   have e1:w.heap.size+1=j:=by simpa [Value.ownBlock] using hj
   omega)
  have ZV:Hid (Since w w8):=Ya;have HJ:Hid (Calls Tryz.prog 96 #[v8,.string dW] w8 fun e w'=>e=.returned (.string (dm (ik::l.map Fi.nm)))∧Since w8 w'):=mU v8 _ (ik::l.map Fi.nm) w8 ho8 (by simp) 100 (fun x hx=>by
   rcases List.mem_cons.1 hx with rfl | hx
   ·decide
   exact HL.out.2.1 x hx) (by simp only[List.length_cons,List.length_map];have:=HL.out.1;omega)
  unfold dW at HJ;generalize dm (ik::l.map Fi.nm)=t at *;clear hu hs2 ho8 hg8 Ya;go_wp2_with (at_builtin;refine Fl.Mr (by rfl) _ _ 28 _ _ v8 (by rfl) (by rfl) (by rfl) hr8 ?_)
  clear hr8;refine HJ.out.mono ?_;rintro e w9 ⟨rfl,hs9⟩;have HS9:Hid (Since w w9):=ZV.out.trans hs9;clear hs9;go_wp2_with fail
  go_ret;exact⟨Z,_,rfl,HD.out,(HS.out.1.stay HS9.out).le (by omega)⟩
end
end Dk
end Go.Proofs.YtmhcfaaggkidjaaGreatDoor
end
section
namespace Go.Proofs.YtmhcfaaggkidjaaGreatDoor
set_option maxRecDepth 100000
namespace Dk
open Go.RowKit
open En (Fi)
open Vl
open Fl (Fm Fv BU Off Nl bR bT bf uW gX gH aH iK)
def Wd (w:World) (P:Nat→Prop) (v:Value) (ws:List ByteArray):Prop:=∃a c,v=.slice a ws.length c∧ws.length≤c∧(ws≠[]→∃k o,a=some ⟨k,o,none⟩∧¬P k∧∀j x,ws[j]?=some x→w.cell? ⟨k,o+j,none⟩=some (.string x))
def Nd (w:World) (P:Nat→Prop) (v:Value) (ns:List Int):Prop:=∃a c,v=.slice a ns.length c∧(ns≠[]→∃k o,a=some ⟨k,o,none⟩∧¬P k∧∀j x,ns[j]?=some x→w.cell? ⟨k,o+j,none⟩=some (.int .i64 x))
theorem Wd.go {w w':World} {P:Nat→Prop} {v:Value} {ws:List ByteArray} (h:Wd w P v ws) (hs:Since w w'):Wd w' P v ws:=by
 obtain⟨a,c,h1,h2,h3⟩:=h;refine⟨a,c,h1,h2,fun hn=>?_⟩;obtain⟨k,o,h4,h6,h5⟩:=h3 hn;exact⟨k,o,h4,h6,fun j x hx=>(hs.cell (p:=⟨k,o+j,none⟩) (World.block_lt_of_cell? w _ (h5 j x hx))).trans (h5 j x hx)⟩
theorem sI (w:World) (x y:Value) (t:TypeId):∀W,Since (w.alloc (.cells #[x,y] t)) W→W.cell? ⟨w.heap.size,0,none⟩=some x∧W.cell? ⟨w.heap.size,1,none⟩=some y:=fun W hs=>by
 have hl:w.heap.size<(w.alloc (.cells #[x,y] t)).heap.size:=by rw[show (w.alloc (.cells #[x,y] t)).heap.size=w.heap.size+1 from Array.size_push _];omega
 have hg:∀W1:World,W1.heap[w.heap.size]?=some (.cells #[x,y] t)→W1.cell? ⟨w.heap.size,0,none⟩=some x∧W1.cell? ⟨w.heap.size,1,none⟩=some y:=fun W1 hW=>by constructor<;>simp[World.cell?,hW]
 have:=hg _ (heap_alloc_new w (.cells #[x,y] t));exact⟨(hs.cell (p:=⟨w.heap.size,0,none⟩) hl).trans this.1,(hs.cell (p:=⟨w.heap.size,1,none⟩) hl).trans this.2⟩
def Qs:ByteArray:=⟨#[100,101,108]⟩
def sJ (s:ByteArray) (Z Z':Sn) (a:qM):Prop:=match Z.f with
 | ⟨.inr (_,_)⟩=>Z'=Z∧a=(8,⟨#[]⟩)
 | ⟨.inl (S,l)⟩=>∃r S' l',bT (bz Z.ay) (aT Z.ay) S l s r S' l'∧Z'=⟨Z.ay,Z.im,.op S' l'⟩∧a=(r,Qs)
section
variable {w0 w w':World} {P:Nat→Prop} {sb:Nat} {Z:Sn} {n:Int}
theorem eu.oU (h:eu w0 w P sb Z n):∀k,P k→k<w.heap.size:=by
 obtain⟨db,cb,fp,v,h1,h2⟩:=h;exact h1.oU
set_option maxHeartbeats 8000000 in
theorem a0C (G:Gr w0) (h:eu w0 w P sb Z n) (hn:n<800000000) (x y:Value) (s:ByteArray) (hx:Wd w P x [s]):Calls Tryz.prog 38 #[.pointer (some ⟨sb,0,none⟩),.agg #[x,y]] w (Does w0 P sb Z n (sJ s) w):=by
 have hs1:Since w (w.alloc (.cells #[x,y] 92)):=(Since.refl w).alloc _;have h1:=(h.go hs1).go (Since.refl _).drew;obtain⟨a,c,rfl,_,hx2⟩:=hx;obtain⟨k,o,hao,EJ,hk⟩:=hx2 (by simp);subst hao;have hk0:=hk 0 s rfl;have HK:Hid (∀W,Fs P w W→W.cell? ⟨k,o,none⟩=some (.string s)):=fun W hW=>(hW.cell (p:=⟨k,o,none⟩) (World.block_lt_of_cell? w _ hk0) EJ).trans hk0
 have hl1:([s].length)=1:=rfl;rw[hl1] at *;have HB:Hid (∀W,Fs P (w.alloc (.cells #[.slice (some ⟨k,o,none⟩) 1 c,y] 92)) W→W.cell? ⟨w.heap.size,0,none⟩=some (.slice (some ⟨k,o,none⟩) 1 c)):=fun W hW=>by
  have hl:w.heap.size<(w.alloc (.cells #[.slice (some ⟨k,o,none⟩) 1 c,y] 92)).heap.size:=by rw[show (w.alloc (.cells #[.slice (some ⟨k,o,none⟩) 1 c,y] 92)).heap.size=w.heap.size+1 from Array.size_push _];omega
  exact(hW.cell (p:=⟨w.heap.size,0,none⟩) hl (fun e=>Nat.lt_irrefl _ (h.oU _ e))).trans (sI w _ _ _ _ (Since.refl _)).1
 clear hk hk0 hl1 hx2;have bY:Hid (Since w (w.alloc (.cells #[.slice (some ⟨k,o,none⟩) 1 c,y] 92))):=hs1;have UM:Hid (∀W,Fs P (w.alloc (.cells #[.slice (some ⟨k,o,none⟩) 1 c,y] 92)) W→W.cell? ⟨w.heap.size,0,none⟩=some (.slice (some ⟨k,o,none⟩) 1 c)∧W.cell? ⟨k,o,none⟩=some (.string s)):=fun W hW=>⟨HB.out W hW,HK.out W ((Fs.ah bY.out).trans hW)⟩
 have hS1:(fun W:World=>W.cell? ⟨w.heap.size,0,none⟩=some (.slice (some ⟨k,o,none⟩) 1 c)∧W.cell? ⟨k,o,none⟩=some (.string s)) (w.alloc (.cells #[.slice (some ⟨k,o,none⟩) 1 c,y] 92)).drew:=UM.out _ (Fs.ah (Since.refl _).drew);cases hf:Z.f using uT.cs with
 | no D c'=>
  have HO:Hid (Calls Tryz.prog 93 #[.pointer (some ⟨sb,0,none⟩)] (w.alloc (.cells #[.slice (some ⟨k,o,none⟩) 1 c,y] 92)).drew fun e w'=>e=thrown 8∧w'=(w.alloc (.cells #[.slice (some ⟨k,o,none⟩) 1 c,y] 92)).drew):=dR sb _ (h1.nil hf);have HD:Hid (Does w0 P sb Z n (sJ s) w (thrown 8) (w.alloc (.cells #[.slice (some ⟨k,o,none⟩) 1 c,y] 92)).drew):=h.fails hs1.drew (by decide) (by unfold sJ;rw[hf];exact⟨rfl,rfl⟩);clear h h1 hs1 hn G hf HB HK EJ;go_enter Tryz.func38,Tryz.ntmps38
  go_wp2_with fail
  refine wp_region_held (S:=fun W:World=>W.cell? ⟨w.heap.size,0,none⟩=some (.slice (some ⟨k,o,none⟩) 1 c)∧W.cell? ⟨k,o,none⟩=some (.string s)) (by kernel_rfl) ?_;refine Tw.takeD (i:=0) (d:=5) (v:=?v1) rfl rfl (by kernel_rfl) (by kernel_rfl) (by kernel_rfl) (fun _ _ _ h=>h) (Or.inl ⟨by rfl,?hw1⟩) hS1 ?q1
  case hw1=>(intro w hSw;obtain⟨s0,s1⟩:=hSw;go_simp;try with_reducible rfl)
  simp only[Act.put,List.setIfInBounds_toArray,List.set_cons_zero,List.set_cons_succ];refine Tw.takeD (i:=2) (d:=7) (v:=?v2) rfl rfl (by kernel_rfl) (by kernel_rfl) (by kernel_rfl) (fun _ _ _ h=>h) (Or.inl ⟨by rfl,?hw2⟩) hS1 ?q2
  case hw2=>(intro w hSw;obtain⟨s0,s1⟩:=hSw;go_simp;try with_reducible rfl)
  simp only[Act.put,List.setIfInBounds_toArray,List.set_cons_zero,List.set_cons_succ];refine Tw.takeD (i:=3) (d:=8) (v:=?v3) rfl rfl (by kernel_rfl) (by kernel_rfl) (by kernel_rfl) (fun _ _ _ h=>h) (Or.inl ⟨by rfl,?hw3⟩) hS1 ?q3
  case hw3=>(intro w hSw;obtain⟨s0,s1⟩:=hSw;go_simp;try with_reducible rfl)
  simp only[Act.put,List.setIfInBounds_toArray,List.set_cons_zero,List.set_cons_succ];refine Tw.takeD (i:=4) (d:=9) (v:=?v4) rfl rfl (by kernel_rfl) (by kernel_rfl) (by kernel_rfl) (fun _ _ _ h=>h) (Or.inl ⟨by rfl,?hw4⟩) hS1 ?q4
  case hw4=>(intro w hSw;obtain⟨s0,s1⟩:=hSw;go_simp;try with_reducible rfl)
  simp only[Act.put,List.setIfInBounds_toArray,List.set_cons_zero,List.set_cons_succ];refine Tw.takeD (i:=5) (d:=10) (v:=?v5) rfl rfl (by kernel_rfl) (by kernel_rfl) (by kernel_rfl) (fun _ _ _ h=>h) (Or.inl ⟨by rfl,?hw5⟩) hS1 ?q5
  case hw5=>(intro w hSw;obtain⟨s0,s1⟩:=hSw;go_simp;try with_reducible rfl)
  simp only[Act.put,List.setIfInBounds_toArray,List.set_cons_zero,List.set_cons_succ];refine wpAnyH_ready (rs:=[1]) (by kernel_rfl) (by simp) (AllReadyH.cons rfl (fun K hK=>?_) AllReadyH.nil);rw[if_pos (by rfl)];go_simp
  refine HO.out.mono ?_;rintro e w2 ⟨rfl,rfl⟩;exact⟨rfl,HD.out⟩
 | op S l=>
  obtain⟨fb,vb,db,cb,v,lv,d,ob⟩:=h1.op hf;have HO:Hid (Calls Tryz.prog 93 #[.pointer (some ⟨sb,0,none⟩)] (w.alloc (.cells #[.slice (some ⟨k,o,none⟩) 1 c,y] 92)).drew fun e w'=>e=.returned (.pointer (some ⟨fb,0,none⟩))∧w'=(w.alloc (.cells #[.slice (some ⟨k,o,none⟩) 1 c,y] 92)).drew):=dS sb fb _ ob.c13;have HF:Hid (Calls Tryz.prog 25 #[.pointer (some ⟨fb,0,none⟩),.string s] (w.alloc (.cells #[.slice (some ⟨k,o,none⟩) 1 c,y] 92)).drew fun e w'=>∃r S' l',e=.returned (ev r)∧bT (bz Z.ay) (aT Z.ay) S l s r S' l'∧aG w0 (w.alloc (.cells #[.slice (some ⟨k,o,none⟩) 1 c,y] 92)) w' P sb ⟨Z.ay,Z.im,.op S' l'⟩ (n+24)):=(Fl.a0A (ob.base G) G.lb ob.ok (by omega) ob.fm ob.right s).mono (by
   rintro e w' ⟨r,S',l',rfl,h2,h3,h4⟩;exact⟨r,S',l',rfl,h2,aG.after (Since.refl _).drew (ob.to h4 (h2.right ob.right) h3)⟩)
  have HD:Hid (∀r S' l',bT (bz Z.ay) (aT Z.ay) S l s r S' l'→sJ s Z ⟨Z.ay,Z.im,.op S' l'⟩ (r,Qs)):=fun r S' l' hd=>by unfold sJ;rw[hf];exact⟨r,S',l',hd,rfl,rfl⟩
  have HG:Hid (Gr w0∧n<800000000):=⟨G,hn⟩
  clear h h1 hs1 hn G hf ob HB HK EJ;go_enter Tryz.func38,Tryz.ntmps38
  go_wp2_with fail
  refine wp_region_held (S:=fun W:World=>W.cell? ⟨w.heap.size,0,none⟩=some (.slice (some ⟨k,o,none⟩) 1 c)∧W.cell? ⟨k,o,none⟩=some (.string s)) (by kernel_rfl) ?_;refine Tw.takeD (i:=0) (d:=5) (v:=?v7) rfl rfl (by kernel_rfl) (by kernel_rfl) (by kernel_rfl) (fun _ _ _ h=>h) (Or.inl ⟨by rfl,?hw7⟩) hS1 ?q7
  case hw7=>(intro w hSw;obtain⟨s0,s1⟩:=hSw;go_simp;try with_reducible rfl)
  simp only[Act.put,List.setIfInBounds_toArray,List.set_cons_zero,List.set_cons_succ];refine Tw.takeD (i:=2) (d:=7) (v:=?v8) rfl rfl (by kernel_rfl) (by kernel_rfl) (by kernel_rfl) (fun _ _ _ h=>h) (Or.inl ⟨by rfl,?hw8⟩) hS1 ?q8
  case hw8=>(intro w hSw;obtain⟨s0,s1⟩:=hSw;go_simp;try with_reducible rfl)
  simp only[Act.put,List.setIfInBounds_toArray,List.set_cons_zero,List.set_cons_succ];refine Tw.takeD (i:=3) (d:=8) (v:=?v9) rfl rfl (by kernel_rfl) (by kernel_rfl) (by kernel_rfl) (fun _ _ _ h=>h) (Or.inl ⟨by rfl,?hw9⟩) hS1 ?q9
  case hw9=>(intro w hSw;obtain⟨s0,s1⟩:=hSw;go_simp;try with_reducible rfl)
  simp only[Act.put,List.setIfInBounds_toArray,List.set_cons_zero,List.set_cons_succ];refine Tw.takeD (i:=4) (d:=9) (v:=?v10) rfl rfl (by kernel_rfl) (by kernel_rfl) (by kernel_rfl) (fun _ _ _ h=>h) (Or.inl ⟨by rfl,?hw10⟩) hS1 ?q10
  case hw10=>(intro w hSw;obtain⟨s0,s1⟩:=hSw;go_simp;try with_reducible rfl)
  simp only[Act.put,List.setIfInBounds_toArray,List.set_cons_zero,List.set_cons_succ];refine Tw.takeD (i:=5) (d:=10) (v:=?v11) rfl rfl (by kernel_rfl) (by kernel_rfl) (by kernel_rfl) (fun _ _ _ h=>h) (Or.inl ⟨by rfl,?hw11⟩) hS1 ?q11
  case hw11=>(intro w hSw;obtain⟨s0,s1⟩:=hSw;go_simp;try with_reducible rfl)
  simp only[Act.put,List.setIfInBounds_toArray,List.set_cons_zero,List.set_cons_succ];refine wpAnyH_ready (rs:=[1]) (by kernel_rfl) (by simp) (AllReadyH.cons rfl (fun K hK=>?_) AllReadyH.nil);rw[if_pos (by rfl)];go_simp
  refine HO.out.mono ?_;rintro e w2 ⟨rfl,hw2⟩;rw[hw2];simp only[];refine hK.out _ _ hS1 (fun _=>?_);clear hK K hw2 w2
  (try simp only[Act.put,List.setIfInBounds_toArray,List.set_cons_zero,List.set_cons_succ])
  refine wpAnyH_ready (rs:=[6]) (by kernel_rfl) (by simp) (AllReadyH.cons rfl (fun K hK=>?_) AllReadyH.nil);rw[if_pos (by rfl)];go_simp
  refine HF.out.mono ?_;rintro e w3 ⟨r,S',l',rfl,hd,hto⟩;simp only[];have H3:Hid (aG w0 (w.alloc (.cells #[.slice (some ⟨k,o,none⟩) 1 c,y] 92)) w3 P sb ⟨Z.ay,Z.im,.op S' l'⟩ (n+24)∧bT (bz Z.ay) (aT Z.ay) S l s r S' l'):=⟨hto,hd⟩
  obtain⟨P',hse,hfs,Mm⟩:=hto;have fu:(fun W:World=>W.cell? ⟨w.heap.size,0,none⟩=some (.slice (some ⟨k,o,none⟩) 1 c)∧W.cell? ⟨k,o,none⟩=some (.string s)) w3:=UM.out _ hfs;have HT:Hid (Calls Tryz.prog 92 #[ev r] w3 fun e w'=>e=(if r=0 then .returned (.tuple #[]) else thrown r)∧Since w3 w'):=nS r w3 (Et.go HG.out.1.et hse.gp);refine hK.out _ _ fu (fun _=>?_);clear hK K hd hse Mm
  (try simp only[Act.put,List.setIfInBounds_toArray,List.set_cons_zero,List.set_cons_succ])
  refine wpAnyH_ready (rs:=[7]) (by kernel_rfl) (by simp) (AllReadyH.cons rfl (fun K hK=>?_) AllReadyH.nil);rw[if_pos (by rfl)];go_simp
  refine HT.out.mono ?_;rintro e w4 ⟨he,hs4⟩;have H4:Hid (aG w0 w w4 P sb ⟨Z.ay,Z.im,.op S' l'⟩ (n+30)):=(aG.after bY.out (H3.out.1.go hs4)).le (by omega);have jX:(fun W:World=>W.cell? ⟨w.heap.size,0,none⟩=some (.slice (some ⟨k,o,none⟩) 1 c)∧W.cell? ⟨k,o,none⟩=some (.string s)) w4:=UM.out _ (hfs.trans (Fs.ah hs4));by_cases hr:r=0
  ·rw[if_pos hr] at he;subst he;simp only[];refine hK.out _ _ jX (fun _=>?_);clear hK K
   (try simp only[Act.put,List.setIfInBounds_toArray,List.set_cons_zero,List.set_cons_succ])
   refine wpAnyH_done (by kernel_rfl) ?_ _;clear jX fu hS1 hfs hs4;go_wp2_with fail
   go_ret;exact⟨_,_,(by unfold gV;rw[if_pos hr];rfl),HD.out _ _ _ H3.out.2,H4.out⟩
  rw[if_neg hr] at he;subst he;exact⟨rfl,_,_,(by unfold gV;rw[if_neg hr];rfl),HD.out _ _ _ H3.out.2,H4.out⟩
end
end Dk
end Go.Proofs.YtmhcfaaggkidjaaGreatDoor
end
section
namespace Go.Proofs.YtmhcfaaggkidjaaGreatDoor
set_option maxRecDepth 100000
namespace Dk
open Go.RowKit
open En (Fi)
open Vl
open Fl (Fm Fv BU Off Nl bR bT bf uW gX gH aH iK aV)
def zm:ByteArray:=⟨#[103,101,116]⟩
def gq (t:ByteArray):ByteArray:=strOfNums (Sm.gZ t).bytes
def lg (s:ByteArray):ByteArray:=strOfNums ((List.range (2*s.size)).map (Sm.uV s))
theorem lh (t:ByteArray):(gq t).size=32:=by unfold gq;rw[strOfNums_size];rfl
theorem jo (s:ByteArray):(lg s).size=2*s.size:=by unfold lg;rw[strOfNums_size,List.length_map,List.length_range]
def jd (t:ByteArray):ByteArray:=told zm t.size++dW++lg ((gq t).extract 0 4)
def oV (s:ByteArray) (Z Z':Sn) (a:qM):Prop:=match Z.f with
 | ⟨.inr (_,_)⟩=>Z'=Z∧a=(8,⟨#[]⟩)
 | ⟨.inl (S,l)⟩=>Z'=Z∧a=(match aV S.X l s with | none=>(7,⟨#[]⟩) | some t=>(0,jd ⟨t.toArray⟩))
theorem Qt {l:List Fi} (hr:En.right l=true) {X:Nat→ByteArray} (hx:∀i,(X i).size≤80) {s:ByteArray} {t:List UInt8} (h:aV X l s=some t):t.length≤4000:=by
 unfold aV at h;cases hf:l.find? (fun f=>decide (f.nm=s)) with
 | none=>rw[hf] at h;cases h
 | some f=>
  rw[hf] at h;injection h with h
  subst h;have hm:=List.mem_of_find?_eq_some hf;have hg:=(((Fl.aX l).1 hr).1.good f hm).2;unfold En.filled at hg;rw[Bool.and_eq_true,Bool.and_eq_true,decide_eq_true_eq,decide_eq_true_eq,decide_eq_true_eq] at hg;have h1:=Fl.rX X hx f.cs;have h2:(f.cs.length:Int)≤24:=by
   rw[hg.2];unfold En.need;split<;>omega
  show (bf X f.cs).length≤4000
  omega
section
variable {w0 w w':World} {P:Nat→Prop} {sb:Nat} {Z:Sn} {n:Int}
set_option maxHeartbeats 8000000 in
theorem a0D (G:Gr w0) (h:eu w0 w P sb Z n) (hn:n<800000000) (x y:Value) (s:ByteArray) (hx:Wd w P x [s]):Calls Tryz.prog 39 #[.pointer (some ⟨sb,0,none⟩),.agg #[x,y]] w (Does w0 P sb Z n (oV s) w):=by
 have hs1:Since w (w.alloc (.cells #[x,y] 92)):=(Since.refl w).alloc _;have h1:=(h.go hs1).go (Since.refl _).drew;obtain⟨a,c,rfl,_,hx2⟩:=hx;obtain⟨k,o,hao,EJ,hk⟩:=hx2 (by simp);subst hao;have hk0:=hk 0 s rfl;have hl1:([s].length)=1:=rfl;rw[hl1] at *;have UM:Hid (∀W,Since (w.alloc (.cells #[.slice (some ⟨k,o,none⟩) 1 c,y] 92)) W→W.cell? ⟨w.heap.size,0,none⟩=some (.slice (some ⟨k,o,none⟩) 1 c)∧W.cell? ⟨k,o,none⟩=some (.string s)):=fun W hW=>⟨(sI w _ _ _ _ hW).1,((hs1.trans hW).cell (p:=⟨k,o,none⟩) (World.block_lt_of_cell? w _ hk0)).trans hk0⟩
 clear hk hk0 hl1 hx2 EJ;have bY:Hid (Since w (w.alloc (.cells #[.slice (some ⟨k,o,none⟩) 1 c,y] 92))):=hs1;have hS1:(fun W:World=>W.cell? ⟨w.heap.size,0,none⟩=some (.slice (some ⟨k,o,none⟩) 1 c)∧W.cell? ⟨k,o,none⟩=some (.string s)) (w.alloc (.cells #[.slice (some ⟨k,o,none⟩) 1 c,y] 92)).drew:=UM.out _ (Since.refl _).drew;cases hf:Z.f using uT.cs with
 | no D c'=>
  have HO:Hid (Calls Tryz.prog 93 #[.pointer (some ⟨sb,0,none⟩)] (w.alloc (.cells #[.slice (some ⟨k,o,none⟩) 1 c,y] 92)).drew fun e w'=>e=thrown 8∧w'=(w.alloc (.cells #[.slice (some ⟨k,o,none⟩) 1 c,y] 92)).drew):=dR sb _ (h1.nil hf);have HD:Hid (Does w0 P sb Z n (oV s) w (thrown 8) (w.alloc (.cells #[.slice (some ⟨k,o,none⟩) 1 c,y] 92)).drew):=h.fails hs1.drew (by decide) (by unfold oV;rw[hf];exact⟨rfl,rfl⟩);clear h h1 hs1 hn G hf;go_enter Tryz.func39,Tryz.ntmps39
  go_wp2_with fail
  refine wp_region_held (S:=fun W:World=>W.cell? ⟨w.heap.size,0,none⟩=some (.slice (some ⟨k,o,none⟩) 1 c)∧W.cell? ⟨k,o,none⟩=some (.string s)) (by kernel_rfl) ?_;refine Tw.takeD (i:=0) (d:=8) (v:=?v1) rfl rfl (by kernel_rfl) (by kernel_rfl) (by kernel_rfl) (fun _ _ _ h=>h) (Or.inl ⟨by rfl,?hw1⟩) hS1 ?q1
  case hw1=>(intro w hSw;obtain⟨s0,s1⟩:=hSw;go_simp;try with_reducible rfl)
  simp only[Act.put,List.setIfInBounds_toArray,List.set_cons_zero,List.set_cons_succ];refine Tw.takeD (i:=2) (d:=10) (v:=?v2) rfl rfl (by kernel_rfl) (by kernel_rfl) (by kernel_rfl) (fun _ _ _ h=>h) (Or.inl ⟨by rfl,?hw2⟩) hS1 ?q2
  case hw2=>(intro w hSw;obtain⟨s0,s1⟩:=hSw;go_simp;try with_reducible rfl)
  simp only[Act.put,List.setIfInBounds_toArray,List.set_cons_zero,List.set_cons_succ];refine Tw.takeD (i:=3) (d:=11) (v:=?v3) rfl rfl (by kernel_rfl) (by kernel_rfl) (by kernel_rfl) (fun _ _ _ h=>h) (Or.inl ⟨by rfl,?hw3⟩) hS1 ?q3
  case hw3=>(intro w hSw;obtain⟨s0,s1⟩:=hSw;go_simp;try with_reducible rfl)
  simp only[Act.put,List.setIfInBounds_toArray,List.set_cons_zero,List.set_cons_succ];refine Tw.takeD (i:=4) (d:=12) (v:=?v4) rfl rfl (by kernel_rfl) (by kernel_rfl) (by kernel_rfl) (fun _ _ _ h=>h) (Or.inl ⟨by rfl,?hw4⟩) hS1 ?q4
  case hw4=>(intro w hSw;obtain⟨s0,s1⟩:=hSw;go_simp;try with_reducible rfl)
  simp only[Act.put,List.setIfInBounds_toArray,List.set_cons_zero,List.set_cons_succ];refine Tw.takeD (i:=5) (d:=13) (v:=?v5) rfl rfl (by kernel_rfl) (by kernel_rfl) (by kernel_rfl) (fun _ _ _ h=>h) (Or.inl ⟨by rfl,?hw5⟩) hS1 ?q5
  case hw5=>(intro w hSw;obtain⟨s0,s1⟩:=hSw;go_simp;try with_reducible rfl)
  simp only[Act.put,List.setIfInBounds_toArray,List.set_cons_zero,List.set_cons_succ];refine wpAnyH_ready (rs:=[1]) (by kernel_rfl) (by simp) (AllReadyH.cons rfl (fun K hK=>?_) AllReadyH.nil);rw[if_pos (by rfl)];go_simp
  refine HO.out.mono ?_;rintro e w2 ⟨rfl,rfl⟩;exact⟨rfl,HD.out⟩
 | op S l=>
  obtain⟨fb,vb,db,cb,v,lv,d,ob⟩:=h1.op hf;have HO:Hid (Calls Tryz.prog 93 #[.pointer (some ⟨sb,0,none⟩)] (w.alloc (.cells #[.slice (some ⟨k,o,none⟩) 1 c,y] 92)).drew fun e w'=>e=.returned (.pointer (some ⟨fb,0,none⟩))∧w'=(w.alloc (.cells #[.slice (some ⟨k,o,none⟩) 1 c,y] 92)).drew):=dS sb fb _ ob.c13;have HF:Hid (Calls Tryz.prog 29 #[.pointer (some ⟨fb,0,none⟩),.string s] (w.alloc (.cells #[.slice (some ⟨k,o,none⟩) 1 c,y] 92)).drew fun e w'=>e=.returned (Fl.Ux (aV S.X l s))∧Since (w.alloc (.cells #[.slice (some ⟨k,o,none⟩) 1 c,y] 92)).drew w'):=Fl.Qh ob.fm ob.right ob.ok.txt s;have HG:Hid (Gr w0∧n<800000000∧eu w0 w P sb Z n∧Since w0 (w.alloc (.cells #[.slice (some ⟨k,o,none⟩) 1 c,y] 92)).drew):=⟨G,hn,h,ob.since⟩
  cases ht:aV S.X l s with
  | none=>
   have HD:Hid (oV s Z Z (7,⟨#[]⟩)):=by unfold oV;rw[hf];exact⟨rfl,by rw[ht]⟩
   rw[ht] at HF;clear h h1 hs1 hn G hf ob ht;unfold Fl.Ux En.dM at HF;go_enter Tryz.func39,Tryz.ntmps39
   go_wp2_with fail
   go_region_held3 (fun W=>W.cell? ⟨w.heap.size,0,none⟩=some (.slice (some ⟨k,o,none⟩) 1 c)∧W.cell? ⟨k,o,none⟩=some (.string s)) (first | exact hS1 | exact UM.out _ (Since.refl _) | exact UM.out _ ((Since.refl _).drew.trans h3)) (first
    | (go_simp;go_at_call 93;refine HO.out.mono ?_;rintro e w2 ⟨rfl,hw2⟩;rw[hw2];dsimp only)
    | (go_simp;go_at_call 29;refine HF.out.mono ?_;rintro e w3 ⟨rfl,h3⟩;dsimp only))
   have H3:Hid (Since w w3):=bY.out.drew.trans h3;have HT:Hid (Calls Tryz.prog 92 #[.iface 32 (.int .i64 7)] w3 fun e w'=>e=thrown 7∧Since w3 w'):=uo 7 w3 (Et.go HG.out.1.et (HG.out.2.2.2.trans h3));clear h3 hS1;go_wp2_with fail
   refine HT.out.mono ?_;rintro e w4 ⟨rfl,hs4⟩;exact⟨rfl,HG.out.2.2.1.fails (H3.out.trans hs4) (by decide) HD.out⟩
  | some t=>
   have htl:t.length≤4000:=Qt ob.right ob.ok.txt ht;have HD:Hid (oV s Z Z (0,jd ⟨t.toArray⟩)):=by unfold oV;rw[hf];exact⟨rfl,by rw[ht]⟩
   rw[ht] at HF;clear h h1 hs1 hn G hf ob ht;rw[show Fl.Ux (some t)=.tuple #[.string ⟨t.toArray⟩,.nilIface] from rfl] at HF;have htz:(⟨t.toArray⟩:ByteArray).size≤4000:=htl;generalize (⟨t.toArray⟩:ByteArray)=T at *;go_enter Tryz.func39,Tryz.ntmps39
   go_wp2_with fail
   go_region_held3 (fun W=>W.cell? ⟨w.heap.size,0,none⟩=some (.slice (some ⟨k,o,none⟩) 1 c)∧W.cell? ⟨k,o,none⟩=some (.string s)) (first | exact hS1 | exact UM.out _ (Since.refl _) | exact UM.out _ ((Since.refl _).drew.trans h3)) (first
    | (go_simp;go_at_call 93;refine HO.out.mono ?_;rintro e w2 ⟨rfl,hw2⟩;rw[hw2];dsimp only)
    | (go_simp;go_at_call 29;refine HF.out.mono ?_;rintro e w3 ⟨rfl,h3⟩;dsimp only))
   have H3:Hid (Since w w3∧Since w0 w3):=⟨bY.out.drew.trans h3,HG.out.2.2.2.trans h3⟩
   have HT:Hid (Calls Tryz.prog 92 #[.nilIface] w3 fun e w'=>e=.returned (.tuple #[])∧w'=w3):=um w3;clear h3 hS1;go_wp2_with fail
   refine HT.out.mono ?_;rintro e w4 ⟨rfl,hw4⟩;rw[hw4];clear hw4 w4;have hk:-9223372036854775808≤(T.size:Int)∧(T.size:Int)≤9223372036854775807:=by omega
   have yQ:Hid (Calls Tryz.prog 34 #[.string zm,.int .i64 T.size] w3 fun e w'=>e=.returned (.string (told zm T.size))∧Since w3 w'):=gP zm T.size w3 (by decide) hk (HG.out.1.lb.since H3.out.2);have hz:(told zm T.size).size≤1100:=Ao _ _ (by decide) hk;have hz3:(told zm T.size++dW).size≤1101:=by rw[ByteArray.size_append];have h3:dW.size=1:=rfl;omega
   have Zc:Hid (∀W,Since w0 W→Calls Tryz.prog 95 #[.string T] W fun e w'=>e=.returned (.string (gq T))∧Since W w'):=fun W hW=>Sm.oh T W (by omega) (HG.out.1.tab.since hW)
   have hsz:(gq T).size=32:=lh T;have hez:((gq T).extract 0 4).size=4:=by rw[ByteArray.size_extract];omega
   have HHX:Hid (∀W,Calls Tryz.prog 94 #[.string ((gq T).extract 0 4)] W fun e w'=>e=.returned (.string (lg ((gq T).extract 0 4)))∧Since W w'):=fun W=>Sm.Cb _ W (by omega)
   have hhz:(lg ((gq T).extract 0 4)).size≤8:=by rw[jo];omega
   have hs4:4≤(gq T).size:=by omega
   clear hsz hez;unfold jd at HD;generalize told zm T.size=ta at *;generalize lg ((gq T).extract 0 4)=tb at *;generalize gq T=su at *;unfold zm at yQ;unfold dW at hz3 HD;clear hk;go_wp2_with fail
   refine yQ.out.mono ?_;rintro e w5 ⟨rfl,h5⟩;have H5:Hid (Since w w5∧Since w0 w5):=⟨H3.out.1.trans h5,H3.out.2.trans h5⟩
   clear h5;go_wp2_with fail
   refine(Zc.out _ H5.out.2).mono ?_;rintro e w6 ⟨rfl,h6⟩;have H6:Hid (Since w w6):=H5.out.1.trans h6;clear h6;go_wp2_with fail
   refine(HHX.out _).mono ?_;rintro e w7 ⟨rfl,h7⟩;have H7:Hid (Since w w7):=H6.out.trans h7;clear h7;go_wp2_with fail
   go_ret;exact⟨Z,_,rfl,HD.out,(HG.out.2.2.1.stay H7.out).le (by omega)⟩
end
end Dk
end Go.Proofs.YtmhcfaaggkidjaaGreatDoor
end
section
namespace Go.Proofs.YtmhcfaaggkidjaaGreatDoor
set_option maxRecDepth 100000
namespace Dk
open Go.RowKit
open En (Fi)
open Vl
open Fl (Fm Fv BU Off Nl bR bT bf uW gX gH aH iK aV)
def EK:ByteArray:=⟨#[112,117,116]⟩
def ll (t:ByteArray) (k:Int):ByteArray:=⟨(Lib.repeatL t.data.toList k.toNat).toArray⟩
def eY (t:ByteArray) (k:Int):Prop:=k<0∨k > 1000∨k*t.size > 4000
def vK (s t:ByteArray) (k:Int) (Z Z':Sn) (a:qM):Prop:=(eY t k∧Z'=Z∧a=(2,⟨#[]⟩))∨(¬eY t k∧match Z.f with
 | ⟨.inr (_,_)⟩=>Z'=Z∧a=(8,⟨#[]⟩)
 | ⟨.inl (S,l)⟩=>∃r S' l',bR (bz Z.ay) (aT Z.ay) S l s (ll t k) r S' l'∧Z'=⟨Z.ay,Z.im,.op S' l'⟩∧a=(r,EK))
theorem Ms (t:ByteArray) (k:Int) (h:¬eY t k):(ll t k).size≤4000:=by
 have h1:¬k<0:=fun e=>h (.inl e)
 have h3:¬k*t.size > 4000:=fun e=>h (.inr (.inr e))
 have e1:(ll t k).size=t.size*k.toNat:=by
  show (Lib.repeatL t.data.toList k.toNat).length=_
  rw[Lib.repeatL_length,Nat.mul_comm]
  rfl
 rw[e1];have e2:((t.size*k.toNat:Nat):Int)=k*t.size:=by
  rw[Int.natCast_mul,Int.toNat_of_nonneg (by omega),Int.mul_comm]
 omega
section
variable {w0 w w':World} {P:Nat→Prop} {sb:Nat} {Z:Sn} {n:Int}
set_option maxHeartbeats 8000000 in
theorem a0F (G:Gr w0) (h:eu w0 w P sb Z n) (hn:n<800000000) (x y:Value) (s t:ByteArray) (m:Int) (hx:Wd w P x [s,t]) (hy:Nd w P y [m]) (hs:s.size≤20000) (ht:t.size≤20000):Calls Tryz.prog 37 #[.pointer (some ⟨sb,0,none⟩),.agg #[x,y]] w (Does w0 P sb Z n (vK s t m) w):=by
 have hs1:Since w (w.alloc (.cells #[x,y] 92)):=(Since.refl w).alloc _;have h1:=(h.go hs1).go (Since.refl _).drew;obtain⟨a,c,rfl,_,hx2⟩:=hx;obtain⟨k,o,hao,EJ,hk⟩:=hx2 (by simp);subst hao;obtain⟨a',c',rfl,hy2⟩:=hy;obtain⟨k',o',hao,_,hk'⟩:=hy2 (by simp);subst hao;have hk0:=hk 0 s rfl;have hk1:=hk 1 t rfl;have hk2:=hk' 0 m rfl;rw[show ([s,t].length)=2 from rfl,show ([m].length)=1 from rfl] at *;have q0:(w.alloc (.cells #[.slice (some ⟨k,o,none⟩) 2 c,.slice (some ⟨k',o',none⟩) 1 c'] 92)).cell? ⟨w.heap.size,0,none⟩=some (.slice (some ⟨k,o,none⟩) 2 c):=(sI w _ _ _ _ (Since.refl _)).1;have q1:(w.alloc (.cells #[.slice (some ⟨k,o,none⟩) 2 c,.slice (some ⟨k',o',none⟩) 1 c'] 92)).cell? ⟨w.heap.size,1,none⟩=some (.slice (some ⟨k',o',none⟩) 1 c'):=(sI w _ _ _ _ (Since.refl _)).2
 have q2:(w.alloc (.cells #[.slice (some ⟨k,o,none⟩) 2 c,.slice (some ⟨k',o',none⟩) 1 c'] 92)).cell? ⟨k,o,none⟩=some (.string s):=(hs1.cell (p:=⟨k,o,none⟩) (World.block_lt_of_cell? w _ hk0)).trans hk0;have q3:(w.alloc (.cells #[.slice (some ⟨k,o,none⟩) 2 c,.slice (some ⟨k',o',none⟩) 1 c'] 92)).cell? ⟨k,o+1,none⟩=some (.string t):=(hs1.cell (p:=⟨k,o+1,none⟩) (World.block_lt_of_cell? w _ hk1)).trans hk1;have q4:(w.alloc (.cells #[.slice (some ⟨k,o,none⟩) 2 c,.slice (some ⟨k',o',none⟩) 1 c'] 92)).cell? ⟨k',o',none⟩=some (.int .i64 m):=(hs1.cell (p:=⟨k',o',none⟩) (World.block_lt_of_cell? w _ hk2)).trans hk2;clear hk hk' hk0 hk1 hk2 hx2 hy2 EJ
 have bY:Hid (Since w (w.alloc (.cells #[.slice (some ⟨k,o,none⟩) 2 c,.slice (some ⟨k',o',none⟩) 1 c'] 92)).drew∧eu w0 w P sb Z n∧eu w0 (w.alloc (.cells #[.slice (some ⟨k,o,none⟩) 2 c,.slice (some ⟨k',o',none⟩) 1 c'] 92)).drew P sb Z n∧Gr w0∧n<800000000∧s.size≤20000):=⟨hs1.drew,h,h1,G,hn,hs⟩
 clear hs1 h h1 G hn hs;generalize hW:(w.alloc (.cells #[.slice (some ⟨k,o,none⟩) 2 c,.slice (some ⟨k',o',none⟩) 1 c'] 92))=W at *;go_enter Tryz.func37,Tryz.ntmps37
 go_wp2_with fail
 go_region_held3 (fun V:World=>V.cell? ⟨w.heap.size,0,none⟩=some (.slice (some ⟨k,o,none⟩) 2 c)∧V.cell? ⟨w.heap.size,1,none⟩=some (.slice (some ⟨k',o',none⟩) 1 c')∧V.cell? ⟨k,o,none⟩=some (.string s)∧V.cell? ⟨k,o+1,none⟩=some (.string t)∧V.cell? ⟨k',o',none⟩=some (.int .i64 m)) (exact⟨q0,q1,q2,q3,q4⟩) (fail)
 clear q0 q1 q2 q3 q4 hW;have HBAD:Hid (eY t m→∀e w',e=thrown 2→Since W.drew w'→Does w0 P sb Z n (vK s t m) w e w'):=fun hb e w' he hs=>by
  rw[he];exact bY.out.2.1.fails (bY.out.1.trans hs) (by decide) (.inl ⟨hb,rfl,rfl⟩)
 by_cases b1:m<0
 ·have HB:Hid (eY t m):=.inl b1;go_wp2_with fail
  refine(bW 2 _).mono ?_;rintro e w2 ⟨rfl,rfl⟩;exact⟨rfl,HBAD.out HB.out _ _ rfl (Since.refl _)⟩
 by_cases b2:m > 1000
 ·have HB:Hid (eY t m):=.inr (.inl b2);go_wp2_with fail
  refine(bW 2 _).mono ?_;rintro e w2 ⟨rfl,rfl⟩;exact⟨rfl,HBAD.out HB.out _ _ rfl (Since.refl _)⟩
 have hp0:0≤m*(t.size:Int):=Int.mul_nonneg (by omega) (by omega);have hp1:m*(t.size:Int)≤20000000:=by
  have:=Int.mul_le_mul (show m≤1000 by omega) (show (t.size:Int)≤20000 by omega) (by omega) (by omega);omega
 have hwr:wrap64 (m*(t.size:Int))=m*(t.size:Int):=by unfold wrap64;omega
 by_cases b3:m*(t.size:Int) > 4000
 ·have HB:Hid (eY t m):=.inr (.inr b3);go_wp2_with fail
  refine(bW 2 _).mono ?_;rintro e w2 ⟨rfl,rfl⟩;exact⟨rfl,HBAD.out HB.out _ _ rfl (Since.refl _)⟩
 have hnb:¬eY t m:=fun e=>by
  rcases e with e | e | e
  ·exact b1 e
  ·exact b2 e
  exact b3 e
 have Sz:Hid (¬eY t m):=hnb;clear hnb HBAD;cases hf:Z.f using uT.cs with
 | no D c'=>
  have HO:Hid (Calls Tryz.prog 93 #[.pointer (some ⟨sb,0,none⟩)] W.drew fun e w'=>e=thrown 8∧w'=W.drew):=dR sb _ (bY.out.2.2.1.nil hf);have HD:Hid (Does w0 P sb Z n (vK s t m) w (thrown 8) W.drew):=bY.out.2.1.fails bY.out.1 (by decide) (.inr ⟨Sz.out,by rw[hf];exact⟨rfl,rfl⟩⟩);clear hf;go_wp2_with fail
  refine HO.out.mono ?_;rintro e w2 ⟨rfl,rfl⟩;exact⟨rfl,HD.out⟩
 | op S l=>
  obtain⟨fb,vb,db,cb,v,lv,d,ob⟩:=bY.out.2.2.1.op hf;have hrz:(ll t m).size≤4000:=Ms t m Sz.out;have HO:Hid (Calls Tryz.prog 93 #[.pointer (some ⟨sb,0,none⟩)] W.drew fun e w'=>e=.returned (.pointer (some ⟨fb,0,none⟩))∧w'=W.drew):=dS sb fb _ ob.c13;have HR:Hid (Calls Tryz.prog 23 #[.string t,.int .i64 m] W.drew fun e w'=>e=.returned (.string (ll t m))∧Since W.drew w'):=by
   have e1:((m.toNat:Nat):Int)=m:=Int.toNat_of_nonneg (by omega);have h2:t.size*m.toNat≤140737488355328:=by
    have e2:((t.size*m.toNat:Nat):Int)=m*t.size:=by rw[Int.natCast_mul,e1,Int.mul_comm]
    omega
   have h3:=ww t m.toNat W.drew (by omega) h2;rw[e1] at h3;exact h3
  have HF:Hid (∀V,Since W.drew V→Calls Tryz.prog 22 #[.pointer (some ⟨fb,0,none⟩),.string s,.string (ll t m)] V fun e w'=>∃r S' l',e=.returned (ev r)∧bR (bz Z.ay) (aT Z.ay) S l s (ll t m) r S' l'∧aG w0 V w' P sb ⟨Z.ay,Z.im,.op S' l'⟩ (n+24)):=fun V hV=>(Fl.a0z ((ob.go hV).base bY.out.2.2.2.1) bY.out.2.2.2.1.lb ob.ok (by have:=bY.out.2.2.2.2.1;omega) (ob.go hV).fm ob.right s (ll t m) (by have:=bY.out.2.2.2.2.2;omega) (by omega)).mono (by
   rintro e w' ⟨r,S',l',rfl,h2,h3,h4⟩;exact⟨r,S',l',rfl,h2,(ob.go hV).to h4 (h2.right ob.right) h3⟩)
  have HD:Hid (∀r S' l',bR (bz Z.ay) (aT Z.ay) S l s (ll t m) r S' l'→vK s t m Z ⟨Z.ay,Z.im,.op S' l'⟩ (r,EK)):=fun r S' l' hd=>.inr ⟨Sz.out,by rw[hf];exact⟨r,S',l',hd,rfl,rfl⟩⟩
  generalize ll t m=T at *;clear hf ob hrz;go_wp2_with fail
  refine HO.out.mono ?_;rintro e w2 ⟨rfl,hw2⟩;rw[hw2];clear hw2 w2;go_wp2_with fail
  refine HR.out.mono ?_;rintro e w3 ⟨rfl,hs3⟩;have H3:Hid (Since W.drew w3):=hs3;clear hs3;go_wp2_with fail
  refine(HF.out w3 H3.out).mono ?_;rintro e w4 ⟨r,S',l',rfl,hd,hto⟩;have H4:Hid (aG w0 w w4 P sb ⟨Z.ay,Z.im,.op S' l'⟩ (n+24)∧bR (bz Z.ay) (aT Z.ay) S l s T r S' l'):=⟨aG.after (bY.out.1.trans H3.out) hto,hd⟩
  obtain⟨P',hse,_,_⟩:=hto;have HT:Hid (Calls Tryz.prog 92 #[ev r] w4 fun e w'=>e=(if r=0 then .returned (.tuple #[]) else thrown r)∧Since w4 w'):=nS r w4 (Et.go bY.out.2.2.2.1.et hse.gp);clear hd hse;go_wp2_with fail
  refine HT.out.mono ?_;rintro e w5 ⟨he,hs5⟩;have H5:Hid (aG w0 w w5 P sb ⟨Z.ay,Z.im,.op S' l'⟩ (n+30)):=(H4.out.1.go hs5).le (by omega);by_cases hr:r=0
  ·rw[if_pos hr] at he;subst he;clear hs5;go_wp2_with fail
   go_ret;exact⟨_,_,(by unfold gV;rw[if_pos hr];rfl),HD.out _ _ _ H4.out.2,H5.out⟩
  rw[if_neg hr] at he;subst he;exact⟨rfl,_,_,(by unfold gV;rw[if_neg hr];rfl),HD.out _ _ _ H4.out.2,H5.out⟩
end
end Dk
end Go.Proofs.YtmhcfaaggkidjaaGreatDoor
end
section
namespace Go.Proofs.YtmhcfaaggkidjaaGreatDoor
set_option maxRecDepth 100000
namespace Dk
open Go.RowKit
open En (Fi)
open Vl
open Fl (Fm Fv BU Off Nl bR bT bf uW gX gH aH iK aV)
def WF:ByteArray:=⟨#[102,117,115,101]⟩
def Cc:ByteArray:=⟨#[105,109,97,103,101]⟩
def uT.tF (f:uT) (m:Int):uT:=match f with
 | ⟨.inl (S,l)⟩=>.op { S with D:=S.D.tF m } l
 | ⟨.inr (D,c)⟩=>.no (D.tF m) c
def EL (m:Int) (Z Z':Sn) (a:qM):Prop:=Z'=⟨Z.ay,Z.im,Z.f.tF m⟩∧a=(0,WF)
def ut (Z Z':Sn) (a:qM):Prop:=Z'=⟨Z.ay,Mk Z.f.D,Z.f⟩∧a=(0,Cc)
section
variable {w0 w w':World} {P:Nat→Prop} {sb:Nat} {Z:Sn} {n:Int}
theorem eu.fused (h:eu w0 w P sb Z n) (m:Int) (hm:m≤9223372036854775807):∃db,w.cell? ⟨sb,0,none⟩=some (.pointer (some ⟨db,0,none⟩))∧P db∧db≠sb∧
  Calls Tryz.prog 84 #[.pointer (some ⟨db,0,none⟩),.int .i64 m] w fun e w'=>e=.returned (.tuple #[])∧Fs (fun k=>k=db) w w'∧aG w0 w w' P sb ⟨Z.ay,Z.im,Z.f.tF m⟩ n:=by
 cases hf:Z.f using uT.cs with
 | op S l=>
  obtain⟨fb,vb,db,cb,v,lv,d,o⟩:=h.op hf;refine⟨db,o.WC.cells.1,o.WC.ps.2.1,fun e=>o.WC.ne.1 e.symm,(wU S.D v db m w o.WC.dc.dev hm).mono ?_⟩;rintro e w' ⟨rfl,hd,hfr⟩;exact⟨rfl,Fs.xw hfr rfl (fun k e=>by cases e),o.XW (o.fm.rZ.DU hd hfr.wide (Nx.refl _ _)) (o.ok.dev _ rfl o.ok.ws)⟩
 | no D c=>
  obtain⟨db,cb,fp,v,h1,h2⟩:=h;rw[hf] at h1 h2;obtain⟨h3,h4,h5,h6⟩:=h2;refine⟨db,h1.cells.1,h1.ps.2.1,fun e=>h1.ne.1 e.symm,(wU D v db m w h1.dc.dev hm).mono ?_⟩;rintro e w' ⟨rfl,hd,hfr⟩;have hfs:Fs (fun k=>k=db) w w':=Fs.xw hfr rfl (fun k e=>by cases e);have Fz:DC w0 w' db cb (D.tF m) c v:=⟨hd,iT h1.dc.sQ hfs (fun e=>h1.dc.ne e.symm),h1.dc.ne,h1.dc.own,hfs.since h1.dc.since (fun k hk=>by rw[hk];exact h1.dc.lo.1),h1.dc.lo⟩
  have hv:∀k,v.ownBlock=some k→(P k∧k≠sb)∨w.heap.size≤k:=fun k hk=>.inl ⟨h1.ps.2.2.2 k hk,fun e=>h1.ne.2.2 (e▸hk)⟩
  refine⟨rfl,hfs,_,⟨db,cb,fp,v,h1.to hfs (fun k hk=>⟨by rw[hk];exact h1.ps.2.1,by rw[hk];exact fun e=>h1.ne.1 e.symm⟩) Fz hv (R:=fun _=>False) (fun _ e=>e.elim),h3,h4,h5,h6⟩,⟨hfs.os,hfs.tape,hfs.output,hfs.size,fun k hk hn=>hfs.block k hk (fun e=>hn (by rw[e];exact h1.ps.2.1))⟩,fun k hk hn e=>?_⟩;rcases e with e | e | e
  ·exact hn e
  ·exact hn (h1.ps.2.2.2 k e)
  exact e
set_option maxHeartbeats 8000000 in
theorem Yg (G:Gr w0) (h:eu w0 w P sb Z n) (x y:Value) (m:Int) (hm:m≤9223372036854775807) (hy:Nd w P y [m]):Calls Tryz.prog 46 #[.pointer (some ⟨sb,0,none⟩),.agg #[x,y]] w (Does w0 P sb Z n (EL m) w):=by
 have hs1:Since w (w.alloc (.cells #[x,y] 92)):=(Since.refl w).alloc _;have h1:=(h.go hs1).go (Since.refl _).drew;obtain⟨a',c',rfl,hy2⟩:=hy;obtain⟨k',o',hao,EJ,hk'⟩:=hy2 (by simp);subst hao;have hk2:=hk' 0 m rfl;rw[show ([m].length)=1 from rfl] at *;obtain⟨db,c0,hPd,hds,hcall⟩:=h1.fused m hm;have hl:w.heap.size<(w.alloc (.cells #[x,.slice (some ⟨k',o',none⟩) 1 c'] 92)).drew.heap.size:=by
  show w.heap.size<(w.alloc (.cells #[x,.slice (some ⟨k',o',none⟩) 1 c'] 92)).heap.size
  rw[show (w.alloc (.cells #[x,.slice (some ⟨k',o',none⟩) 1 c'] 92)).heap.size=w.heap.size+1 from Array.size_push _];omega
 have q1:(w.alloc (.cells #[x,.slice (some ⟨k',o',none⟩) 1 c'] 92)).drew.cell? ⟨w.heap.size,1,none⟩=some (.slice (some ⟨k',o',none⟩) 1 c'):=(sI w _ _ _ _ (Since.refl _).drew).2;have q2:(w.alloc (.cells #[x,.slice (some ⟨k',o',none⟩) 1 c'] 92)).drew.cell? ⟨k',o',none⟩=some (.int .i64 m):=(hs1.drew.cell (p:=⟨k',o',none⟩) (World.block_lt_of_cell? w _ hk2)).trans hk2;have HQ:Hid (∀W,Fs (fun k=>k=db) (w.alloc (.cells #[x,.slice (some ⟨k',o',none⟩) 1 c'] 92)).drew W→W.cell? ⟨sb,0,none⟩=some (.pointer (some ⟨db,0,none⟩))∧W.cell? ⟨w.heap.size,1,none⟩=some (.slice (some ⟨k',o',none⟩) 1 c')∧W.cell? ⟨k',o',none⟩=some (.int .i64 m)):=fun W hW=>
  ⟨(hW.cell (p:=⟨sb,0,none⟩) (World.block_lt_of_cell? _ _ c0) (fun e=>hds e.symm)).trans c0,(hW.cell (p:=⟨w.heap.size,1,none⟩) hl (fun e=>by have:=h.oU db hPd;have e':w.heap.size=db:=e;omega)).trans q1,(hW.cell (p:=⟨k',o',none⟩) (World.block_lt_of_cell? _ _ q2) (fun e=>EJ (by have e':k'=db:=e;rw[e'];exact hPd))).trans q2⟩
 have HC:Hid (Calls Tryz.prog 84 #[.pointer (some ⟨db,0,none⟩),.int .i64 m] (w.alloc (.cells #[x,.slice (some ⟨k',o',none⟩) 1 c'] 92)).drew fun e w'=>e=.returned (.tuple #[])∧Fs (fun k=>k=db) (w.alloc (.cells #[x,.slice (some ⟨k',o',none⟩) 1 c'] 92)).drew w'∧aG w0 w w' P sb ⟨Z.ay,Z.im,Z.f.tF m⟩ (n+30)):=hcall.mono (by
  rintro e w' ⟨rfl,h2,h3⟩;exact⟨rfl,h2,(aG.after hs1.drew h3).le (by omega)⟩)
 clear hcall h h1 hs1 hk' hk2 hy2 EJ hl hPd hds c0 q1 q2 G hm;go_enter Tryz.func46,Tryz.ntmps46
 go_wp2_with fail
 go_region_held3 (fun W=>W.cell? ⟨sb,0,none⟩=some (.pointer (some ⟨db,0,none⟩))∧W.cell? ⟨w.heap.size,1,none⟩=some (.slice (some ⟨k',o',none⟩) 1 c')∧W.cell? ⟨k',o',none⟩=some (.int .i64 m)) (first | exact HQ.out _ (Fs.refl _ _) | exact HQ.out _ h2) (first
  | (go_simp;go_at_call 84;refine HC.out.mono ?_;rintro e w2 ⟨rfl,h2,h3⟩;have H3:Hid (aG w0 w w2 P sb ⟨Z.ay,Z.im,Z.f.tF m⟩ (n+30)):=h3;clear h3;dsimp only))
 clear h2;go_wp2_with fail
 go_ret;exact⟨_,_,rfl,⟨rfl,rfl⟩,H3.out⟩
end
end Dk
end Go.Proofs.YtmhcfaaggkidjaaGreatDoor
end
section
namespace Go.Proofs.YtmhcfaaggkidjaaGreatDoor
set_option maxRecDepth 100000
namespace Dk
open Go.RowKit
open En (Fi)
open Vl
open Fl (Fm Fv BU Off Nl bR bT bf uW gX gH aH iK aV)
section
variable {w0 w w':World} {P:Nat→Prop} {sb:Nat} {Z:Sn} {n:Int}
theorem BV.self {db cb:Nat} {ay:ByteArray} {im:Im} {fp v:Value} {f:uT} {D:Dv} {c:Int} (hS:mf w0 w P sb db cb ay im fp D c v) (h:BV w0 w P sb db cb ay fp v n f) (hf:Fs (fun k=>k=sb) w w'):BV w0 w' P sb db cb ay fp v n f:=by
 cases f using uT.cs with
 | no D c=>exact h
 | op S l=>
  obtain⟨fb,vb,lv,d,h1,h2,h3,h4⟩:=h;refine⟨fb,vb,lv,d,h1,h2.fs (P:=fun k=>k=sb) hf (fun k hk=>by rw[hk];exact hS.yu _ hS.ps.1) (fun k hk e=>?_) h3.1 (fun j x hx k o e=>h3.2 x (List.mem_of_getElem? hx) k o e),h3,h4⟩;subst e;refine⟨fun e=>h4.2.2.1.2 e.symm,fun e=>?_⟩;rcases e with e | e | e | e
  ·exact h4.2.2.2.2 e.symm
  ·exact hS.ne.1 e
  ·exact hS.ne.2.1 e
  exact hS.ne.2.2 e
theorem yx (w:World) (b o:Nat) (vs:List Value):Fs (fun k=>k=b) w (w.setCells b o vs):=Fs.xw (Fr.setCells b none vs o w) rfl (fun k e=>by cases e)
theorem mf.img {db cb:Nat} {ay:ByteArray} {im im':Im} {fp v:Value} {D:Dv} {c:Int} (h:mf w0 w P sb db cb ay im fp D c v) (iv:Nat→Value) (hi:Ml w (fun k=>P k∨k<w0.drawn) iv im'):mf w0 (w.setCells sb 3 (aa 10 (az iv im'.s0 im'.s1))) P sb db cb ay im' fp D c v:=by
 obtain⟨iv0,hc,_⟩:=h.bL;have hf:=yx w sb 3 (aa 10 (az iv im'.s0 im'.s1));refine⟨Ty.setCells _ _ _ _ h.ty,h.s16,⟨iv,?_,fun z hz=>(hi z hz).fs hf (fun k hk=>.inl (by rw[hk];exact h.ps.1)) (fun _ _ h=>h)⟩,⟨xx h.dc.dev hf (fun e=>h.ne.1 e.symm) (fun k hk e=>h.ne.2.2 (e▸hk)),iT h.dc.sQ hf (fun e=>h.ne.2.1 e.symm),h.dc.ne,h.dc.own,hf.since h.dc.since (fun k hk=>by rw[hk];exact h.yu _ h.ps.1),h.dc.lo⟩,h.ne,h.ps,h.yu,fun k hk=>Nat.lt_of_lt_of_le (h.oU k hk) hf.size,Nat.le_trans h.dn hf.size⟩;refine(hc.setRow 3 10 (by omega) (az iv im'.s0 im'.s1)).congr (fun j hj=>?_);unfold dF yt;by_cases h1:3≤j∧j<3+10
 ·rw[if_pos h1,if_neg (by omega),if_neg (by omega),if_neg (by omega),if_pos (by omega)]
 rw[if_neg h1];by_cases h2:j=0
 ·rw[if_pos h2,if_pos h2]
 by_cases h3:j=1
 ·rw[if_neg h2,if_neg h2,if_pos h3,if_pos h3]
 by_cases h4:j=2
 ·rw[if_neg h2,if_neg h2,if_neg h3,if_neg h3,if_pos h4,if_pos h4]
 rw[if_neg h2,if_neg h2,if_neg h3,if_neg h3,if_neg h4,if_neg h4,if_neg (by omega),if_neg (by omega)]
theorem UN (f:Nat→Nat→UInt8) (m j:Nat) (hj:j<m):(fG f m)[j]?=some (.string (txt 128 (f j))):=by simp[fG,hj]
theorem Yh {W W1:World} (hP:∀k,P k→k<W.heap.size) (D:Dv) (iv:Nat→Value) (h:∀z,z<8→W1.ownsRow W.heap.size 9 1 (iv z) (D.sure z) (fG (D.blk z) (D.sure z))):Ml W1 P iv (Mk D):=fun z hz=>by
 have ho:=h z hz;rcases ho.2 with⟨h1,h2⟩ | ⟨g,cap,cur,h1,hb,hg,hn,_⟩
 ·exact⟨none,0,by rw[h1];show _=Value.slice none (D.sure z) 0;rw[h2],by show D.sure z≤0;omega,fun hp=>by have hp':0<D.sure z:=hp;omega⟩
 refine⟨_,cap,h1,hn,fun hp=>⟨g,0,rfl,fun e=>by have:=hP g e;omega,fun j hj=>?_⟩⟩;rw[h1] at ho;rw[Nat.zero_add,ho.cellAt j (by have hj':j<D.sure z:=hj;omega)];exact UN _ _ _ hj
theorem tX (iv:Nat→Value) (s0 s1:ByteArray) (hv:∀z,z<8→(iv z).oneCell'=true) (j:Nat):(az iv s0 s1 j).oneCell'=true:=by
 unfold az;split
 ·exact hv j (by assumption)
 split<;>rfl
theorem row_one {b e sz m:Nat} {x:Value} {xs:List Value} (h:w.ownsRow b e sz x m xs):x.oneCell'=true:=by
 rcases h.2 with⟨h',_⟩ | ⟨g,cap,cur,h',_⟩<;>rw[h']<;>rfl
set_option maxHeartbeats 8000000 in
theorem Yi (G:Gr w0) (h:eu w0 w P sb Z n) (x y:Value):Calls Tryz.prog 48 #[.pointer (some ⟨sb,0,none⟩),.agg #[x,y]] w (Does w0 P sb Z n ut w):=by
 have hs1:Since w (w.alloc (.cells #[x,y] 92)):=(Since.refl w).alloc _;obtain⟨db,cb,fp,v,hS,hF⟩:=h.go hs1;have c0:=hS.cells.1;have HI:Hid (Calls Tryz.prog 103 #[.pointer (some ⟨db,0,none⟩)] (w.alloc (.cells #[x,y] 92)) fun e w'=>∃iv,e=.returned (.agg (aa 10 (az iv (txt 500 (Z.f.D.slot 0)) (txt 500 (Z.f.D.slot 1)))).toArray)∧(∀z,z<8→w'.ownsRow (w.alloc (.cells #[x,y] 92)).heap.size 9 1 (iv z) (Z.f.D.sure z) (fG (Z.f.D.blk z) (Z.f.D.sure z)))∧Since (w.alloc (.cells #[x,y] 92)) w'):=KR Z.f.D v db _ hS.dc.dev;have HS:Hid (mf w0 (w.alloc (.cells #[x,y] 92)) P sb db cb Z.ay Z.im fp Z.f.D Z.f.c v∧BV w0 (w.alloc (.cells #[x,y] 92)) P sb db cb Z.ay fp v n Z.f∧Since w (w.alloc (.cells #[x,y] 92))):=⟨hS,hF,hs1⟩
 clear hF hS h hs1;go_enter Tryz.func48,Tryz.ntmps48
 go_wp2_with fail
 refine HI.out.mono ?_;rintro e w1 ⟨iv,rfl,hr,hs⟩;have hS1:=HS.out.1.since hs;have him:Ml w1 (fun k=>P k∨k<w0.drawn) iv (Mk Z.f.D):=Yh (P:=fun k=>P k∨k<w0.drawn) (fun k hk=>hk.elim (fun h=>HS.out.1.oU k h) (fun h=>Nat.lt_of_lt_of_le h HS.out.1.dn)) Z.f.D iv hr;have hS2:=hS1.img iv him;have HD:Hid (Does w0 P sb Z n ut w (.returned (.string Cc)) (w1.setCells sb 3 (aa 10 (az iv (txt 500 (Z.f.D.slot 0)) (txt 500 (Z.f.D.slot 1)))))):=by
  have hfi:BV w0 w1 P sb db cb Z.ay fp v n Z.f:=by
   have hff:=HS.out.2.1;cases hf:Z.f using uT.cs with
   | op S l=>
    rw[hf] at hff;obtain⟨fb,vb,lv,d,h1,h2,h3⟩:=hff;exact⟨fb,vb,lv,d,h1,h2.since hs,h3⟩
   | no D c=>rw[hf] at hff;exact hff
  have hfs:=yx w1 sb 3 (aa 10 (az iv (txt 500 (Z.f.D.slot 0)) (txt 500 (Z.f.D.slot 1))));refine⟨⟨Z.ay,Mk Z.f.D,Z.f⟩,(0,Cc),rfl,⟨rfl,rfl⟩,P,eu.le ⟨db,cb,fp,v,hS2,hfi.self hS1 hfs⟩ (by omega),?_,fun _ _ h=>h⟩;exact(Fs.ah (HS.out.2.2.trans hs)).trans ⟨hfs.os,hfs.tape,hfs.output,hfs.size,fun k hk hn=>hfs.block k hk (fun e=>hn (by rw[e];exact hS1.ps.1))⟩
 have hth:w1.there sb 3 (aa 10 (az iv (txt 500 (Z.f.D.slot 0)) (txt 500 (Z.f.D.slot 1)))).toArray.size:=by
  obtain⟨iv0,hc,_⟩:=hS1.bL;rw[List.size_toArray,ag];exact hc.there 3 10 (by omega)
 have ha:(aa 10 (az iv (txt 500 (Z.f.D.slot 0)) (txt 500 (Z.f.D.slot 1)))).toArray.all (·.oneCell')=true:=all_oneCell_toArray (fC _ _ (fun j _=>tX _ _ _ (fun z hz=>row_one (hr z hz)) j));have hl:(aa 10 (az iv (txt 500 (Z.f.D.slot 0)) (txt 500 (Z.f.D.slot 1)))).length=10:=ag _ _;clear hr hs hS1 hS2 him c0;generalize aa 10 (az iv (txt 500 (Z.f.D.slot 0)) (txt 500 (Z.f.D.slot 1)))=cs at *;have HL:Hid (cs.length=10):=hl;have JK:Hid (w1.there sb 3 cs.toArray.size∧cs.toArray.all (·.oneCell')=true):=⟨hth,ha⟩
 clear hl hth ha;go_wp2_with (refine wpList_store_mid (by rfl) 75 _ _ (by rfl) sb 3 cs.toArray (by rfl) (by rfl) JK.out.1 (by rw[List.size_toArray,HL.out];kernel_rfl) JK.out.2 ?_)
 go_wp2_with fail
 go_ret;exact HD.out
end
end Dk
end Go.Proofs.YtmhcfaaggkidjaaGreatDoor
end
section
namespace Go.Proofs.YtmhcfaaggkidjaaGreatDoor
set_option maxRecDepth 100000
namespace Dk
open Go.RowKit
open En (Fi)
open Vl
open Fl (Fm Fv BU Off Nl bR bT bf uW gX gH aH iK aV)
def UO:ByteArray:=⟨#[108,97,121]⟩
def yz (D:Dv) (im:Im):Dv:=D.OJ im.nn im.l im.s0 im.s1
def Mv (Z Z':Sn) (a:qM):Prop:=∃f r,dL Z.ay (yz Z.f.D Z.im) Z.f.c f r∧Z'=⟨Z.ay,Z.im,f⟩∧a=(0,UO)
section
variable {w0 w w':World} {P:Nat→Prop} {sb:Nat} {Z:Sn} {n:Int}
theorem Ml.img {iv:Nat→Value} {im:Im} (h:Ml w P iv im) {db:Nat} (hd:P db):Xo w db iv im.nn im.l:=⟨fun z hz=>by
 obtain⟨a,c,h1,h2,h3⟩:=h z hz;refine⟨a,c,h1,h2,fun hn=>?_⟩;obtain⟨k,o,h4,h5,h6⟩:=h3 hn;exact⟨k,o,h4,fun e=>h5 (by rw[e];exact hd),h6⟩⟩
theorem Ml.go {iv:Nat→Value} {im:Im} (h:Ml w P iv im) (hs:Since w w'):Ml w' P iv im:=fun z hz=>(h z hz).fs (Fs.ah (S:=fun _=>False) hs) (fun _ e=>e.elim) (fun _ _ h=>h)
theorem mf.laid {db cb:Nat} {ay:ByteArray} {im im1:Im} {fp v:Value} {D D':Dv} {c:Int} (h:mf w0 w P sb db cb ay im fp D c v) (hd:Dev w' db D' (.slice none 0 0)) (hf:Fr db none w w'):mf w0 w' P sb db cb ay im fp D' c (.slice none 0 0)∧Fs P w w':=by
 have hfs:Fs (fun k=>k=db) w w':=Fs.xw hf rfl (fun k e=>by cases e);obtain⟨iv,hc,hi⟩:=h.bL;have hsd:¬sb=db:=h.ne.1;refine⟨⟨h.ty.blk (hfs.block sb h.lt hsd),h.s16,⟨iv,iT hc hfs hsd,fun z hz=>(hi z hz).fs hfs (fun k hk=>.inl (by rw[hk];exact h.ps.2.1)) (fun _ _ h=>h)⟩,⟨hd,iT h.dc.sQ hfs (fun e=>h.dc.ne e.symm),h.dc.ne,fun e=>by simp[Value.ownBlock] at e,hfs.since h.dc.since (fun k hk=>by rw[hk];exact h.dc.lo.1),h.dc.lo.1,h.dc.lo.2.1,fun k e=>by simp[Value.ownBlock] at e⟩,⟨h.ne.1,h.ne.2.1,fun e=>by simp[Value.ownBlock] at e⟩,⟨h.ps.1,h.ps.2.1,h.ps.2.2.1,fun k e=>by simp[Value.ownBlock] at e⟩,h.yu,fun k hk=>Nat.lt_of_lt_of_le (h.oU k hk) hfs.size,Nat.le_trans h.dn hfs.size⟩,hfs.os,hfs.tape,hfs.output,hfs.size,fun k hk hn=>hfs.block k hk (fun e=>hn (by rw[e];exact h.ps.2.1))⟩
theorem aG.then {w1:World} {m:Int} (hf:Fs P w w1) (h:aG w0 w1 w' P sb Z m):aG w0 w w' P sb Z m:=by
 obtain⟨P',h1,h2,h3⟩:=h;exact⟨P',h1,hf.trans h2,fun k hk hn=>h3 k (Nat.lt_of_lt_of_le hk hf.size) hn⟩
theorem UQ (D:Dv) (im:Im):(yz D im).ws.length≤1:=by show ([]:List (Nat × ByteArray)).length≤1;simp
set_option maxHeartbeats 8000000 in
theorem uY {db cb:Nat} {ay:ByteArray} {im im1:Im} {fp v:Value} {D:Dv} {c:Int} (G:Gr w0) (h:mf w0 w P sb db cb ay im fp D c v) (hc:0≤c∧c<900000000) (iv:Nat→Value) (hi:Ml w P iv im1) :
  Calls Tryz.prog 104 #[.pointer (some ⟨sb,0,none⟩),.agg (aa 10 (az iv im1.s0 im1.s1)).toArray] w fun e w'=>e=.returned (.tuple #[])∧∃f r,dL ay (yz D im1) c f r∧aG w0 w w' P sb ⟨ay,im,f⟩ (c+1):=by
 have hs1:Since w (w.alloc (.cells (aa 10 (az iv im1.s0 im1.s1)).toArray 75)).drew:=((Since.refl w).alloc _).drew;have h1:=h.since hs1;have hL:(aa 10 (az iv im1.s0 im1.s1)).length=10:=ag _ _;have hrg:(w.alloc (.cells (aa 10 (az iv im1.s0 im1.s1)).toArray 75)).rangeAt w.heap.size 0 (aa 10 (az iv im1.s0 im1.s1)):=fun j u hu=>by
  have hg:∀(W1:World) (cs:Array Value),W1.heap[w.heap.size]?=some (.cells cs 75)→cs[j]?=some u→W1.cell? ⟨w.heap.size,0+j,none⟩=some u:=fun W1 cs hW hj=>by simp[World.cell?,hW,hj]
  exact hg _ _ (heap_alloc_new w _) (by rw[List.getElem?_toArray];exact hu)
 have HLY:Hid (Calls Tryz.prog 156 #[.pointer (some ⟨db,0,none⟩),.agg (aa 10 (az iv im1.s0 im1.s1)).toArray] (w.alloc (.cells (aa 10 (az iv im1.s0 im1.s1)).toArray 75)).drew fun e w'=>e=.returned (.tuple #[])∧mf w0 w' P sb db cb ay im fp (yz D im1) c (.slice none 0 0)∧Fs P w w'∧(w'.cell? ⟨sb,0,none⟩=some (.pointer (some ⟨db,0,none⟩))∧w'.rangeAt w.heap.size 0 (aa 10 (az iv im1.s0 im1.s1)))):=(TC D v db iv im1.s0 im1.s1 im1.nn im1.l _ h1.dc.dev ((hi.go hs1).img h.ps.2.1)).mono (by
  rintro e w' ⟨rfl,hd,hf⟩;obtain⟨h2,h3⟩:=h1.laid (im1:=im1) hd hf;refine⟨rfl,h2,(Fs.ah hs1).trans h3,h2.cells.1,fun j u hu=>?_⟩;have hl:w.heap.size<(w.alloc (.cells (aa 10 (az iv im1.s0 im1.s1)).toArray 75)).drew.heap.size:=by
   show w.heap.size<(w.alloc (.cells (aa 10 (az iv im1.s0 im1.s1)).toArray 75)).heap.size
   rw[show (w.alloc (.cells (aa 10 (az iv im1.s0 im1.s1)).toArray 75)).heap.size=w.heap.size+1 from Array.size_push _];omega
  exact(h3.cell (p:=⟨w.heap.size,0+j,none⟩) hl (fun e=>Nat.lt_irrefl _ (h.oU _ e))).trans (hrg j u hu))
 have hS1:(fun W:World=>W.cell? ⟨sb,0,none⟩=some (.pointer (some ⟨db,0,none⟩))∧W.rangeAt w.heap.size 0 (aa 10 (az iv im1.s0 im1.s1))) (w.alloc (.cells (aa 10 (az iv im1.s0 im1.s1)).toArray 75)).drew:=⟨h1.cells.1,hrg⟩
 have Yj:Hid (∀W,mf w0 W P sb db cb ay im fp (yz D im1) c (.slice none 0 0)→Calls Tryz.prog 91 #[.pointer (some ⟨sb,0,none⟩)] W fun e w'=>∃f r,e=.returned (ev r)∧dL ay (yz D im1) c f r∧aG w0 W w' P sb ⟨ay,im,f⟩ (c+1)):=fun W hW=>qB G.tab G.lb hW (UQ D im1) hc
 have hsz:(aa 10 (az iv im1.s0 im1.s1)).toArray.size=10:=by rw[List.size_toArray,hL]
 clear h h1 hrg hs1 hi hc G;generalize aa 10 (az iv im1.s0 im1.s1)=cs at *;have HL:Hid (cs.length=10):=hL;clear hL hsz;go_enter Tryz.func104,Tryz.ntmps104
 go_wp2_with fail
 refine wp_region_held (S:=fun W:World=>W.cell? ⟨sb,0,none⟩=some (.pointer (some ⟨db,0,none⟩))∧W.rangeAt w.heap.size 0 cs) (by kernel_rfl) ?_;refine Tw.takeD (i:=0) (d:=4) (v:=?v1) rfl rfl (by kernel_rfl) (by kernel_rfl) (by kernel_rfl) (fun _ _ _ h=>h) (Or.inl ⟨by rfl,?hw1⟩) hS1 ?q1
 case hw1=>(intro w hSw;obtain⟨s0,s1⟩:=hSw;go_simp;try with_reducible rfl)
 simp only[Act.put,List.setIfInBounds_toArray,List.set_cons_zero,List.set_cons_succ];refine Tw.takeD (i:=1) (d:=5) (v:=?v2) rfl rfl (by kernel_rfl) (by kernel_rfl) (by kernel_rfl) (fun _ _ _ h=>h) (Or.inl ⟨by rfl,?hw2⟩) hS1 ?q2
 case hw2=>(intro w hSw;obtain⟨s0,s1⟩:=hSw;go_simp;try with_reducible rfl)
 simp only[Act.put,List.setIfInBounds_toArray,List.set_cons_zero,List.set_cons_succ];refine Tw.takeD (i:=2) (d:=6) (v:=?v3) rfl rfl (by kernel_rfl) (by kernel_rfl) (by kernel_rfl) (fun _ _ _ h=>h) (Or.inl ⟨by rfl,?hw3⟩) hS1 ?q3
 case hw3=>(intro w hSw;obtain⟨s0,s1⟩:=hSw;go_simp;try with_reducible rfl)
 simp only[Act.put,List.setIfInBounds_toArray,List.set_cons_zero,List.set_cons_succ];refine Tw.takeD (i:=3) (d:=7) (v:=?v4) rfl rfl (by kernel_rfl) (by kernel_rfl) (by kernel_rfl) (fun _ _ _ h=>h) (Or.inl ⟨by rfl,?hw4⟩) hS1 ?q4
 case hw4=>(intro w hSw;obtain⟨s0,s1⟩:=hSw;go_simp;try with_reducible rfl)
 simp only[Act.put,List.setIfInBounds_toArray,List.set_cons_zero,List.set_cons_succ];refine Tw.takeD (i:=4) (d:=8) (v:=.agg cs.toArray) rfl rfl (by kernel_rfl) (by kernel_rfl) (by kernel_rfl) (fun _ _ _ h=>h) (yieldsIf_load_mid (by rfl) 75 _ (by rfl) w.heap.size 0 (by rfl) _ _ (fun w hSw=>hSw.2) Tryz.underlying75 (by rfl) (by rw[HL.out];kernel_rfl)) hS1 ?q5;simp only[Act.put,List.setIfInBounds_toArray,List.set_cons_zero,List.set_cons_succ];refine wpAnyH_ready (rs:=[5]) (by kernel_rfl) (by simp) (AllReadyH.cons rfl (fun K hK=>?_) AllReadyH.nil);rw[if_pos (by rfl)];go_simp
 refine HLY.out.mono ?_;rintro e w1 ⟨rfl,h1,h2,hS2⟩;simp only[];have H1:Hid (mf w0 w1 P sb db cb ay im fp (yz D im1) c (.slice none 0 0)∧Fs P w w1):=⟨h1,h2⟩
 refine hK.out _ _ hS2 (fun _=>?_);clear hK K h1 h2
 (try simp only[Act.put,List.setIfInBounds_toArray,List.set_cons_zero,List.set_cons_succ])
 refine wpAnyH_done (by kernel_rfl) ?_ _;clear hS2 hS1;go_wp2_with fail
 refine(Yj.out w1 H1.out.1).mono ?_;rintro e w2 ⟨f,r,rfl,h3,h4⟩;have H4:Hid (∃f r,dL ay (yz D im1) c f r∧aG w0 w w2 P sb ⟨ay,im,f⟩ (c+1)):=⟨f,r,h3,aG.then H1.out.2 h4⟩
 clear h3 h4;go_wp2_with fail
 go_end0
 exact⟨rfl,H4.out⟩
set_option maxHeartbeats 8000000 in
theorem a0G (G:Gr w0) (h:eu w0 w P sb Z n) (hn:n<800000000) (x y:Value):Calls Tryz.prog 49 #[.pointer (some ⟨sb,0,none⟩),.agg #[x,y]] w (Does w0 P sb Z n Mv w):=by
 have hs1:Since w (w.alloc (.cells #[x,y] 92)):=(Since.refl w).alloc _;have hfit:=h.fit;obtain⟨db,cb,fp,v,hS,hF⟩:=h.go hs1;obtain⟨iv,hc,hi0⟩:=hS.bL;have hi:Ml (w.alloc (.cells #[x,y] 92)) P iv Z.im:=fun z hz=>(hi0 z hz).fs (Fs.refl (fun _=>False) _) (fun _ e=>e.elim) (fun k _ hn e=>hn (.inl e))
 have hrg:(w.alloc (.cells #[x,y] 92)).rangeAt sb 3 (aa 10 (az iv Z.im.s0 Z.im.s1)):=by
  have h1:=hc.range 3 10 (by omega);have e1:aa 10 (fun j=>yt db cb Z.ay iv Z.im.s0 Z.im.s1 fp (3+j))=aa 10 (az iv Z.im.s0 Z.im.s1):=by
   unfold aa;refine List.map_congr_left (fun j hj=>?_);have hj:=List.mem_range.1 hj;unfold yt;rw[if_neg (by omega),if_neg (by omega),if_neg (by omega),if_pos (by omega),Nat.add_sub_cancel_left]
  rw[e1] at h1;exact h1
 have HC:Hid (Calls Tryz.prog 104 #[.pointer (some ⟨sb,0,none⟩),.agg (aa 10 (az iv Z.im.s0 Z.im.s1)).toArray] (w.alloc (.cells #[x,y] 92)) fun e w'=>e=.returned (.tuple #[])∧∃f r,dL Z.ay (yz Z.f.D Z.im) Z.f.c f r∧aG w0 (w.alloc (.cells #[x,y] 92)) w' P sb ⟨Z.ay,Z.im,f⟩ (Z.f.c+1)):=uY G hS ⟨hfit.1,by have:=hfit.2.1;omega⟩ iv hi;have HF:Hid (Z.f.c≤n∧Since w (w.alloc (.cells #[x,y] 92))):=⟨hfit.2.1,hs1⟩
 have hL:(aa 10 (az iv Z.im.s0 Z.im.s1)).length=10:=ag _ _;clear hc hi hi0 hS hF h hs1 hfit hn G;generalize aa 10 (az iv Z.im.s0 Z.im.s1)=cs at *;have HL:Hid (cs.length=10):=hL;have HR:Hid ((w.alloc (.cells #[x,y] 92)).rangeAt sb 3 cs):=hrg;clear hL hrg;go_enter Tryz.func49,Tryz.ntmps49
 go_wp2_with (refine wpList_load_mid (by rfl) 75 _ (by rfl) sb 3 (by rfl) cs _ HR.out Tryz.underlying75 (by rfl) (by rw[HL.out];kernel_rfl) ?_)
 refine HC.out.mono ?_;rintro e w2 ⟨rfl,f,r,h3,h4⟩;have H4:Hid (Does w0 P sb Z n Mv w (.returned (.string UO)) w2):=⟨⟨Z.ay,Z.im,f⟩,(0,UO),rfl,⟨f,r,h3,rfl,rfl⟩,(aG.after HF.out.2 h4).le (by have:=HF.out.1;omega)⟩
 clear h3 h4;go_wp2_with fail
 go_ret;exact H4.out
end
end Dk
end Go.Proofs.YtmhcfaaggkidjaaGreatDoor
end
section
namespace Go.Proofs.YtmhcfaaggkidjaaGreatDoor
set_option maxRecDepth 100000
namespace Dk
open Go.RowKit
open En (Fi)
open Vl
open Fl (Fm Fv BU Off Nl bR bT bf uW gX gH aH iK aV)
def dw (s:ByteArray):ByteArray:=Sm.cB ⟨(Sm.bP 100 (fun _=>s) 1).toArray⟩
theorem Ip (s:ByteArray):(dw s).size=16:=Mt.oo _
section
variable {w0 w w':World} {P:Nat→Prop} {sb:Nat} {Z:Sn} {n:Int}
theorem DC.up {db cb:Nat} {D:Dv} {c:Int} {v:Value} {W:World} (h:DC w W db cb D c v) (hs:Since w0 w):DC w0 W db cb D c v:=⟨h.dev,h.sQ,h.ne,h.own,hs.trans h.since,Nat.le_trans hs.size h.lo.1,Nat.le_trans hs.size h.lo.2.1,fun k hk=>Nat.le_trans hs.size (h.lo.2.2 k hk)⟩
def z0 (db cb:Nat) (ay:ByteArray):List Value:=[.pointer (some ⟨db,0,none⟩),.pointer (some ⟨cb,0,none⟩),.string ay,.slice none 0 0,.slice none 0 0,.slice none 0 0,.slice none 0 0,.slice none 0 0,.slice none 0 0,.slice none 0 0,.slice none 0 0,.string ⟨#[]⟩,.string ⟨#[]⟩,.pointer none]
theorem Qv (db cb:Nat) (ay:ByteArray):z0 db cb ay=aa 14 (yt db cb ay (fun _=>.slice none 0 0) ⟨#[]⟩ ⟨#[]⟩ (.pointer none)):=rfl
theorem UR {W:World} {f0:Nat→Value} {db cb:Nat} {ay:ByteArray} (hty:Ty w sb 77) (hc:ak w sb 14 f0) (hP:P sb) (yu:∀k,P k→w0.heap.size≤k) (oU:∀k,P k→k<w.heap.size) (hdn:w0.drawn≤w.heap.size) (h16:ay.size=16) (hsn:Since w0 w) (hs:Since w W) (Fz:DC w W db cb mr 0 (.slice none 0 0)) :
  mf w0 (W.setCells sb 0 (z0 db cb ay)) (fun k=>P k∨k=db∨k=cb) sb db cb ay sS (.pointer none) mr 0 (.slice none 0 0)∧Fs P w (W.setCells sb 0 (z0 db cb ay)):=by
 have hf:=yx W sb 0 (z0 db cb ay);have hlt:=oU sb hP;have n1:sb≠db:=fun e=>by have:=Fz.lo.1;omega
 have n2:sb≠cb:=fun e=>by have:=Fz.lo.2.1;omega
 refine⟨⟨Ty.setCells _ _ _ _ (hty.since hs),h16,⟨fun _=>.slice none 0 0,?_,fun z hz=>⟨none,0,rfl,Nat.le_refl _,fun h=>absurd h (Nat.lt_irrefl _)⟩⟩,?_,⟨n1,n2,fun e=>by simp[Value.ownBlock] at e⟩,⟨.inl hP,.inr (.inl rfl),.inr (.inr rfl),fun k e=>by simp[Value.ownBlock] at e⟩,fun k hk=>?_,fun k hk=>?_,Nat.le_trans hdn (Nat.le_trans hs.size hf.size)⟩,?_⟩
 ·rw[Qv];exact((hc.since hs).setRow 0 14 (by omega) _).congr (fun j hj=>by unfold dF;rw[if_pos (by omega)];rfl)
 ·have h1:=DC.up Fz hsn;exact⟨xx h1.dev hf (fun e=>n1 e.symm) (fun k hk=>by simp[Value.ownBlock] at hk),iT h1.sQ hf (fun e=>n2 e.symm),h1.ne,h1.own,hf.since h1.since (fun k hk=>by rw[hk];exact yu _ hP),h1.lo⟩
 ·rcases hk with e | rfl | rfl
  ·exact yu k e
  ·exact(DC.up Fz hsn).lo.1
  exact(DC.up Fz hsn).lo.2.1
 ·rcases hk with e | rfl | rfl
  ·exact Nat.lt_of_lt_of_le (oU k e) (Nat.le_trans hs.size hf.size)
  ·exact Nat.lt_of_lt_of_le Fz.dev.lt hf.size
  exact Nat.lt_of_lt_of_le (Fz.sQ.lt (by omega)) hf.size
 exact(Fs.ah hs).trans ⟨hf.os,hf.tape,hf.output,hf.size,fun k hk hn=>hf.block k hk (fun e=>hn (by rw[e];exact hP))⟩
set_option maxHeartbeats 8000000 in
theorem Ap (G:Gr w0) {f0:Nat→Value} (hty:Ty w sb 77) (hc:ak w sb 14 f0) (hsn:Since w0 w) (hP:P sb) (yu:∀k,P k→w0.heap.size≤k) (oU:∀k,P k→k<w.heap.size) (hdn:w0.drawn≤w.heap.size) (s:ByteArray) (hs:s.size≤9000) :
  Calls Tryz.prog 35 #[.pointer (some ⟨sb,0,none⟩),.string s] w fun e w'=>e=.returned (.tuple #[])∧∃f r,dL (dw s) mr 0 f r∧aG w0 w w' P sb ⟨dw s,sS,f⟩ 1:=by
 have Fz:=XG w;have hs2:Since w ((w.alloc (.cells Tryz.zeroCells104 104)).alloc (.cells #[.int .i64 0] 55)):=((Since.refl w).alloc _).alloc _;have hs3:Since w (((w.alloc (.cells Tryz.zeroCells104 104)).alloc (.cells #[.int .i64 0] 55)).alloc (.cells #[.string s] 9)):=hs2.alloc _;have hcell:(((w.alloc (.cells Tryz.zeroCells104 104)).alloc (.cells #[.int .i64 0] 55)).alloc (.cells #[.string s] 9)).cell? ⟨w.heap.size+2,0,none⟩=some (.string s):=by
  have e1:((w.alloc (.cells Tryz.zeroCells104 104)).alloc (.cells #[.int .i64 0] 55)).heap.size=w.heap.size+2:=by
   have e2:((w.alloc (.cells Tryz.zeroCells104 104)).alloc (.cells #[.int .i64 0] 55)).heap.size=(w.alloc (.cells Tryz.zeroCells104 104)).heap.size+1:=Array.size_push _;have e3:(w.alloc (.cells Tryz.zeroCells104 104)).heap.size=w.heap.size+1:=Array.size_push _;omega
  have hg:∀W1:World,W1.heap[w.heap.size+2]?=some (.cells #[.string s] 9)→W1.cell? ⟨w.heap.size+2,0,none⟩=some (.string s):=fun W1 hW=>by simp[World.cell?,hW]
  refine hg _ ?_;rw[←e1];exact heap_alloc_new _ _
 have HM:Hid (Calls Tryz.prog 90 #[.int .u8 100,.slice (some ⟨w.heap.size+2,0,none⟩) 1 1] (((w.alloc (.cells Tryz.zeroCells104 104)).alloc (.cells #[.int .i64 0] 55)).alloc (.cells #[.string s] 9)) fun e w'=>e=.returned (.string (dw s))∧Since (((w.alloc (.cells Tryz.zeroCells104 104)).alloc (.cells #[.int .i64 0] 55)).alloc (.cells #[.string s] 9)) w'):=Sm.Ow 100 (w.heap.size+2) 0 1 1 (fun _=>s) _ (by omega) (fun j _=>hs) (G.tab.since (hsn.trans hs3)) (fun j hj=>by
  obtain rfl:j=0:=by omega
  exact hcell)
 have HDC:Hid (DC w ((w.alloc (.cells Tryz.zeroCells104 104)).alloc (.cells #[.int .i64 0] 55)) w.heap.size (w.heap.size+1) mr 0 (.slice none 0 0)):=Fz;have HX:Hid (Ty w sb 77∧ak w sb 14 f0∧Since w0 w∧P sb∧(∀k,P k→w0.heap.size≤k)∧(∀k,P k→k<w.heap.size)∧Gr w0∧Since w (((w.alloc (.cells Tryz.zeroCells104 104)).alloc (.cells #[.int .i64 0] 55)).alloc (.cells #[.string s] 9))):=⟨hty,hc,hsn,hP,yu,oU,G,hs3⟩
 have HDN:Hid (w0.drawn≤w.heap.size):=hdn;clear Fz hs2 hs3 hcell hty hc hsn hP yu oU G hs hdn;have HZ:Hid ((dw s).size=16):=Ip s;generalize dw s=ay at *;go_enter Tryz.func35,Tryz.ntmps35
 go_wp2_with fail
 refine(SX w).mono ?_;rintro e w1 ⟨rfl,rfl⟩;go_wp2_with fail
 refine HM.out.mono ?_;rintro e w3 ⟨rfl,h3⟩;obtain⟨hty,hc,hsn,hP,yu,oU,G,hs3⟩:=HX.out;have a0H:DC w w3 w.heap.size (w.heap.size+1) mr 0 (.slice none 0 0):=(HDC.out.go ((Since.refl _).alloc _)).go h3;obtain⟨hS,Ql⟩:=UR (P:=P) hty hc hP yu oU HDN.out HZ.out hsn (hs3.trans h3) a0H;have hth:w3.there sb 0 14:=(hc.since (hs3.trans h3)).there 0 14 (by omega);have Yj:Hid (Calls Tryz.prog 91 #[.pointer (some ⟨sb,0,none⟩)] (w3.setCells sb 0 (z0 w.heap.size (w.heap.size+1) ay)) fun e w'=>∃f r,e=.returned (ev r)∧dL ay mr 0 f r∧aG w0 w w' P sb ⟨ay,sS,f⟩ 1):=(qB G.tab G.lb hS (by decide) (by omega)).mono (by
  rintro e w' ⟨f,r,rfl,h5,P',h6,h7,h8⟩;refine⟨f,r,rfl,h5,P',h6,Ql.trans' h7 (fun k hk=>?_),fun k hk hn=>h8 k (Nat.lt_of_lt_of_le hk Ql.size) (fun e=>?_)⟩
  ·rcases hk with e | rfl | rfl
   ·exact .inl e
   ·exact .inr (Nat.le_refl _)
   exact .inr (by omega)
  rcases e with e | rfl | rfl
  ·exact hn e
  ·omega
  omega)
 have JK:Hid (w3.there sb 0 14):=hth;clear h3 hty hc hsn hP yu oU G hs3 a0H hS Ql hth;have Uo:Hid ((z0 w.heap.size (w.heap.size+1) ay).toArray.all (·.oneCell')=true):=all_oneCell_toArray (fun v hv=>by
  rw[Qv] at hv;refine fC _ _ (fun j _=>?_) v hv;unfold yt az
  repeat (first | rfl | split))
 generalize hw4:w3.setCells sb 0 (z0 w.heap.size (w.heap.size+1) ay)=w4 at Yj;have HW4:Hid (w3.setCells sb 0 (z0 w.heap.size (w.heap.size+1) ay)=w4):=hw4;clear hw4;go_wp2_with (refine wpList_store_mid (by rfl) 77 _ _ (by rfl) sb 0 (z0 w.heap.size (w.heap.size+1) ay).toArray (by rfl) (by rfl) JK.out (show _=some 14 by kernel_rfl) Uo.out ?_;rw[show (z0 w.heap.size (w.heap.size+1) ay).toArray.toList=z0 w.heap.size (w.heap.size+1) ay from rfl,HW4.out])
 refine Yj.out.mono ?_;rintro e w5 ⟨f,r,rfl,h5,h6⟩;have H5:Hid (∃f r,dL ay mr 0 f r∧aG w0 w w5 P sb ⟨ay,sS,f⟩ 1):=⟨f,r,h5,h6⟩
 clear h5 h6;go_wp2_with fail
 go_end0
 exact⟨rfl,H5.out⟩
def Qw:ByteArray:=⟨#[110,101,119]⟩
def Iq (s:ByteArray) (Z Z':Sn) (a:qM):Prop:=∃f r,dL (dw s) mr 0 f r∧Z'=⟨dw s,sS,f⟩∧a=(0,Qw)
set_option maxHeartbeats 8000000 in
theorem Yk (G:Gr w0) (h:eu w0 w P sb Z n) (hn:0≤n) (x y:Value) (s:ByteArray) (hs:s.size≤9000) (hx:Wd w P x [s]):Calls Tryz.prog 36 #[.pointer (some ⟨sb,0,none⟩),.agg #[x,y]] w (Does w0 P sb Z n (Iq s) w):=by
 have hs1:Since w (w.alloc (.cells #[x,y] 92)):=(Since.refl w).alloc _;obtain⟨a,c,rfl,_,hx2⟩:=hx;obtain⟨k,o,hao,EJ,hk⟩:=hx2 (by simp);subst hao;have hk0:=hk 0 s rfl;rw[show ([s].length)=1 from rfl] at *;have q0:(w.alloc (.cells #[.slice (some ⟨k,o,none⟩) 1 c,y] 92)).cell? ⟨w.heap.size,0,none⟩=some (.slice (some ⟨k,o,none⟩) 1 c):=(sI w _ _ _ _ (Since.refl _)).1;have q1:(w.alloc (.cells #[.slice (some ⟨k,o,none⟩) 1 c,y] 92)).cell? ⟨k,o,none⟩=some (.string s):=(hs1.cell (p:=⟨k,o,none⟩) (World.block_lt_of_cell? w _ hk0)).trans hk0;obtain⟨db,cb,fp,v,hS,hF⟩:=h.go hs1;obtain⟨iv,hc,_⟩:=hS.bL;have HB:Hid (Calls Tryz.prog 35 #[.pointer (some ⟨sb,0,none⟩),.string s] (w.alloc (.cells #[.slice (some ⟨k,o,none⟩) 1 c,y] 92)) fun e w'=>e=.returned (.tuple #[])∧Does w0 P sb Z n (Iq s) w (.returned (.string Qw)) w'):=(Ap G hS.ty hc hS.dc.since hS.ps.1 hS.yu hS.oU hS.dn s hs).mono (by
  rintro e w' ⟨rfl,f,r,h3,h4⟩;exact⟨rfl,⟨dw s,sS,f⟩,(0,Qw),rfl,⟨f,r,h3,rfl,rfl⟩,(aG.after hs1 h4).le (by omega)⟩)
 clear hS hF hc h G hs1 hk hk0 hx2 EJ hs hn;go_enter Tryz.func36,Tryz.ntmps36
 go_wp2_with fail
 refine HB.out.mono ?_;rintro e w2 ⟨rfl,h3⟩;have H3:Hid (Does w0 P sb Z n (Iq s) w (.returned (.string Qw)) w2):=h3;clear h3;go_wp2_with fail
 go_ret;exact H3.out
end
end Dk
end Go.Proofs.YtmhcfaaggkidjaaGreatDoor
end
section
namespace Go.Proofs.YtmhcfaaggkidjaaGreatDoor
set_option maxRecDepth 100000
namespace Dk
open Go.RowKit
open En (Fi)
open Vl
open Fl (Fm Fv BU Off Nl bR bT bf uW gX gH aH iK aV)
def Qx:ByteArray:=⟨#[115,117,109,32]⟩
def uu:ByteArray:=⟨#[98,108,111,99,107,32]⟩
def qD:ByteArray:=⟨#[48,48,48,48,48,48,48,48,48,48,48,48]⟩
def Qy (ws:List ByteArray) (Z Z':Sn) (a:qM):Prop:=Z'=Z∧a=(0,Qx++lg (gq (dm ws)))
def gY (s:ByteArray) (m:Int):ByteArray:=strOfNums (Sm.Sr.AQ (gq s) (BitVec.ofInt 32 m) qD)
def qE (s:ByteArray) (m:Int) (Z Z':Sn) (a:qM):Prop:=Z'=Z∧a=(if 0≤m∧m<4294967296 then (0,uu++lg (gY s m)) else (1,⟨#[]⟩))
section
variable {w0 w w':World} {P:Nat→Prop} {sb:Nat} {Z:Sn} {n:Int}
theorem Aq (v:Value) (l:List ByteArray) (w:World) (h:Wd w P v l) (hz:(dm l).size≤30000) (hl:l.length≤30000):Calls Tryz.prog 96 #[v,.string dW] w fun e w'=>e=.returned (.string (dm l))∧Since w w':=by
 obtain⟨a,c,rfl,hcap,h⟩:=h;by_cases hn:l=[]
 ·subst hn;refine(Tryz.strings_Join_none a c dW w).mono ?_;rintro e w' ⟨rfl,rfl⟩;exact⟨rfl,Since.refl _⟩
 obtain⟨k,o,rfl,_,hc⟩:=h hn;have hpos:0<l.length:=List.length_pos_iff.2 hn;refine(Tryz.strings_Join k o c l dW w (fun j x hx=>hc j x hx) (World.block_lt_of_cell? w _ (hc 0 _ (List.getElem?_eq_getElem hpos))) (by omega) hcap ?_).mono ?_
 ·have:(Lib.join (l.map (·.data.toList)) [32]).length≤30000:=hz;show (Lib.join (l.map (·.data.toList)) [32]).length≤_
  omega
 rintro e w' ⟨rfl,hs⟩;exact⟨rfl,hs⟩
set_option maxHeartbeats 8000000 in
theorem a0I (G:Gr w0) (h:eu w0 w P sb Z n) (x y:Value) (ws:List ByteArray) (hz:(dm ws).size≤30000) (hl:ws.length≤30000) (hx:Wd w P x ws):Calls Tryz.prog 52 #[.pointer (some ⟨sb,0,none⟩),.agg #[x,y]] w (Does w0 P sb Z n (Qy ws) w):=by
 have hs1:Since w (w.alloc (.cells #[x,y] 92)):=(Since.refl w).alloc _;have q0:(w.alloc (.cells #[x,y] 92)).cell? ⟨w.heap.size,0,none⟩=some x:=(sI w _ _ _ _ (Since.refl _)).1;have HJ:Hid (Calls Tryz.prog 96 #[x,.string dW] (w.alloc (.cells #[x,y] 92)) fun e w'=>e=.returned (.string (dm ws))∧Since (w.alloc (.cells #[x,y] 92)) w'):=Aq x ws _ (hx.go hs1) hz hl;have hsn:=h.gp.trans hs1;have Zc:Hid (∀W,Since (w.alloc (.cells #[x,y] 92)) W→Calls Tryz.prog 95 #[.string (dm ws)] W fun e w'=>e=.returned (.string (gq (dm ws)))∧Since W w'):=fun W hW=>Sm.oh _ W (by omega) (G.tab.since (hsn.trans hW))
 have HHX:Hid (∀W,Calls Tryz.prog 94 #[.string (gq (dm ws))] W fun e w'=>e=.returned (.string (lg (gq (dm ws))))∧Since W w'):=fun W=>Sm.Cb _ W (by rw[lh];omega)
 have hhz:(lg (gq (dm ws))).size≤64:=by rw[jo,lh];omega
 have HS:Hid (eu w0 w P sb Z n∧Since w (w.alloc (.cells #[x,y] 92))):=⟨h,hs1⟩
 have HD:Hid (Qy ws Z Z (0,Qx++lg (gq (dm ws)))):=⟨rfl,rfl⟩
 unfold dW at HJ;unfold Qx at HD;generalize lg (gq (dm ws))=th at *;generalize gq (dm ws)=ts at *;generalize dm ws=tj at *;obtain⟨a,c,rfl,_⟩:=hx;generalize ws.length=wl at *;clear h hs1 hsn G hz hl;go_enter Tryz.func52,Tryz.ntmps52
 go_wp2_with fail
 refine HJ.out.mono ?_;rintro e w1 ⟨rfl,h1⟩;have H1:Hid (Since (w.alloc (.cells #[.slice a wl c,y] 92)) w1):=h1;clear h1;go_wp2_with fail
 refine(Zc.out w1 H1.out).mono ?_;rintro e w2 ⟨rfl,h2⟩;have H2:Hid (Since (w.alloc (.cells #[.slice a wl c,y] 92)) w2):=H1.out.trans h2;clear h2;go_wp2_with fail
 refine(HHX.out w2).mono ?_;rintro e w3 ⟨rfl,h3⟩;have H3:Hid (Since w w3):=HS.out.2.trans (H2.out.trans h3);clear h3;go_wp2_with fail
 go_ret;exact⟨Z,_,rfl,HD.out,(HS.out.1.stay H3.out).le (by omega)⟩
set_option maxHeartbeats 8000000 in
theorem UT (G:Gr w0) (h:eu w0 w P sb Z n) (x y:Value) (s:ByteArray) (m:Int) (hm:-9223372036854775808≤m∧m≤9223372036854775807) (hs:s.size≤30000) (hx:Wd w P x [s]) (hy:Nd w P y [m]):Calls Tryz.prog 51 #[.pointer (some ⟨sb,0,none⟩),.agg #[x,y]] w (Does w0 P sb Z n (qE s m) w):=by
 have hs1:Since w (w.alloc (.cells #[x,y] 92)):=(Since.refl w).alloc _;obtain⟨a,c,rfl,_,hx2⟩:=hx;obtain⟨k,o,hao,EJ,hk⟩:=hx2 (by simp);subst hao;obtain⟨a',c',rfl,hy2⟩:=hy;obtain⟨k',o',hao,Mw,hk'⟩:=hy2 (by simp);subst hao;have hk0:=hk 0 s rfl;have hk2:=hk' 0 m rfl;rw[show ([s].length)=1 from rfl,show ([m].length)=1 from rfl] at *;have HQ:Hid (∀W,Since (w.alloc (.cells #[.slice (some ⟨k,o,none⟩) 1 c,.slice (some ⟨k',o',none⟩) 1 c'] 92)) W→W.cell? ⟨w.heap.size,0,none⟩=some (.slice (some ⟨k,o,none⟩) 1 c)∧W.cell? ⟨w.heap.size,1,none⟩=some (.slice (some ⟨k',o',none⟩) 1 c')∧W.cell? ⟨k,o,none⟩=some (.string s)∧W.cell? ⟨k',o',none⟩=some (.int .i64 m)):=fun W hW=>⟨(sI w _ _ _ _ hW).1,(sI w _ _ _ _ hW).2,((hs1.trans hW).cell (p:=⟨k,o,none⟩) (World.block_lt_of_cell? w _ hk0)).trans hk0,((hs1.trans hW).cell (p:=⟨k',o',none⟩) (World.block_lt_of_cell? w _ hk2)).trans hk2⟩
 have hsn:=h.gp.trans hs1;have Zc:Hid (∀W,Since (w.alloc (.cells #[.slice (some ⟨k,o,none⟩) 1 c,.slice (some ⟨k',o',none⟩) 1 c'] 92)) W→Calls Tryz.prog 95 #[.string s] W fun e w'=>e=.returned (.string (gq s))∧Since W w'):=fun W hW=>Sm.oh _ W (by omega) (G.tab.since (hsn.trans hW))
 have HS:Hid (eu w0 w P sb Z n∧Since w (w.alloc (.cells #[.slice (some ⟨k,o,none⟩) 1 c,.slice (some ⟨k',o',none⟩) 1 c'] 92))∧Since w0 (w.alloc (.cells #[.slice (some ⟨k,o,none⟩) 1 c,.slice (some ⟨k',o',none⟩) 1 c'] 92))∧Gr w0):=⟨h,hs1,hsn,G⟩
 have hsz:(gq s).size=32:=lh s;by_cases hb:0≤m∧m<4294967296
 ·have HB:Hid (∀W,Calls Tryz.prog 106 #[.string (gq s),.int .i64 m,.string qD] W fun e w'=>e=.returned (.tuple #[.string (gY s m),.nilIface])∧Since W w'):=fun W=>Sm.Sr.Kt (gq s) qD m W hsz rfl hb.1 hb.2
  have hbz:(gY s m).size≤64:=by unfold gY;rw[strOfNums_size];exact Nat.le_of_eq rfl
  have HHX:Hid (∀W,Calls Tryz.prog 94 #[.string (gY s m)] W fun e w'=>e=.returned (.string (lg (gY s m)))∧Since W w'):=fun W=>Sm.Cb _ W (by omega)
  have hhz:(lg (gY s m)).size≤128:=by rw[jo];omega
  have HD:Hid (qE s m Z Z (0,uu++lg (gY s m))):=⟨rfl,(if_pos hb).symm⟩
  unfold uu at HD;unfold qD at HB;generalize lg (gY s m)=th at *;generalize gY s m=tb at *;generalize gq s=ts at *;clear h hs1 hsn G hs hk hk' hk0 hk2 hx2 hy2 EJ Mw hsz hb hm hbz;go_enter Tryz.func51,Tryz.ntmps51
  go_wp2_with fail
  go_region_held3 (fun W=>W.cell? ⟨w.heap.size,0,none⟩=some (.slice (some ⟨k,o,none⟩) 1 c)∧W.cell? ⟨w.heap.size,1,none⟩=some (.slice (some ⟨k',o',none⟩) 1 c')∧W.cell? ⟨k,o,none⟩=some (.string s)∧W.cell? ⟨k',o',none⟩=some (.int .i64 m)) (first | exact HQ.out _ (Since.refl _).drew | exact HQ.out _ ((Since.refl _).drew.trans h2) | exact HQ.out _ (((Since.refl _).drew.trans h2).trans h3)) (first
   | (go_simp;go_at_call 95;refine(Zc.out _ (by first | exact Since.refl _ | exact(Since.refl _).drew)).mono ?_;rintro e w2 ⟨rfl,h2⟩;dsimp only)
   | (go_simp;go_at_call 106;refine(HB.out _).mono ?_;rintro e w3 ⟨rfl,h3⟩;dsimp only))
  have H3:Hid (Since w w3):=HS.out.2.1.trans (((Since.refl _).drew.trans h2).trans h3);clear h2 h3;go_wp2_with fail
  refine(um _).mono ?_;rintro e w4 ⟨rfl,hw4⟩;rw[hw4];clear hw4 w4;go_wp2_with fail
  refine(HHX.out _).mono ?_;rintro e w5 ⟨rfl,h5⟩;have H5:Hid (Since w w5):=H3.out.trans h5;clear h5;go_wp2_with fail
  go_ret;exact⟨Z,_,rfl,HD.out,(HS.out.1.stay H5.out).le (by omega)⟩
 have HB:Hid (∀W,Calls Tryz.prog 106 #[.string (gq s),.int .i64 m,.string qD] W fun e w'=>e=.returned (.tuple #[.string ⟨#[]⟩,.iface 32 (.int .i64 1)])∧w'=W):=fun W=>Sm.Sr.Kr (gq s) qD m W (fun e=>hb ⟨e.2.2.1,e.2.2.2⟩) hm.1 hm.2
 have HD:Hid (qE s m Z Z (1,⟨#[]⟩)):=⟨rfl,(if_neg hb).symm⟩
 unfold qD at HB;generalize gq s=ts at *;clear h hs1 hsn G hs hk hk' hk0 hk2 hx2 hy2 EJ Mw hsz hb hm;go_enter Tryz.func51,Tryz.ntmps51
 go_wp2_with fail
 go_region_held3 (fun W=>W.cell? ⟨w.heap.size,0,none⟩=some (.slice (some ⟨k,o,none⟩) 1 c)∧W.cell? ⟨w.heap.size,1,none⟩=some (.slice (some ⟨k',o',none⟩) 1 c')∧W.cell? ⟨k,o,none⟩=some (.string s)∧W.cell? ⟨k',o',none⟩=some (.int .i64 m)) (first | exact HQ.out _ (Since.refl _).drew | exact HQ.out _ ((Since.refl _).drew.trans h2)) (first
  | (go_simp;go_at_call 95;refine(Zc.out _ (by first | exact Since.refl _ | exact(Since.refl _).drew)).mono ?_;rintro e w2 ⟨rfl,h2⟩;dsimp only)
  | (go_simp;go_at_call 106;refine(HB.out _).mono ?_;rintro e w3 ⟨rfl,h3⟩;rw[h3];dsimp only))
 have H3:Hid (Since w w2∧Since w0 w2):=⟨HS.out.2.1.trans ((Since.refl _).drew.trans h2),HS.out.2.2.1.trans ((Since.refl _).drew.trans h2)⟩
 have HT:Hid (Calls Tryz.prog 92 #[.iface 32 (.int .i64 1)] w2 fun e w'=>e=thrown 1∧Since w2 w'):=uo 1 w2 (Et.go HS.out.2.2.2.et H3.out.2);clear h2;go_wp2_with fail
 refine HT.out.mono ?_;rintro e w4 ⟨rfl,hs4⟩;exact⟨rfl,HS.out.1.fails (H3.out.1.trans hs4) (by decide) HD.out⟩
end
end Dk
end Go.Proofs.YtmhcfaaggkidjaaGreatDoor
end
section
namespace Go.Proofs.YtmhcfaaggkidjaaGreatDoor
set_option maxRecDepth 100000
namespace Dk
open Go.RowKit
theorem Dz:(Tryz.prog.info? 3).map (fun i=>(i.zero,i.size,i.bytes))=some (some (.int .i64 0),1,8):=by kernel_rfl
theorem sK (w:World) (g k o dLen dCap sLen sCap c:Nat) (ty:TypeId) (m:Int) (f:Nat→Value) (h:ak w g 8 f) (ho:o+c≤8) (hc:c=Nat.min sLen dLen) (hsrc:∀j,j<c→w.cell? ⟨k,0+j,none⟩=some (.int .i64 m)) :
  (Builtin.copy_ #[90,90] ty #[.slice (some ⟨g,o,none⟩) dLen dCap,.slice (some ⟨k,0,none⟩) sLen sCap]).run Tryz.prog w=.ok (goInt c) (w.setCells g o (aa c (fun _=>.int .i64 m))):=by
 have e1:=run_copy_cells (P:=Tryz.prog) w 90 90 ty 3 g o dLen dCap ⟨k,0,none⟩ sLen sCap (aa c (fun _=>.int .i64 m)) Tryz.underlying90 (by kernel_rfl) (by rw[ag];exact hc) (fun j u hu=>by
  have hj:j<c:=by have:=(List.getElem?_eq_some_iff.1 hu).1;rwa [ag] at this
  rw[aU _ _ _ hj] at hu;injection hu with hu
  rw[←hu,Addr.add_mid];exact hsrc j hj) (fun j hj=>by rw[ag] at hj;rw[h.cell (o+j) (by omega)];rfl) (fun j hj=>by rw[ag] at hj;exact h.frozen (o+j) (by omega)) (fC _ _ (fun _ _=>rfl))
 rw[ag] at e1;exact e1
set_option maxHeartbeats 8000000 in
theorem EM (k:Nat) (m:Int) (w:World) (hk:w.cell? ⟨k,0,none⟩=some (.int .i64 m)):Calls Tryz.prog 102 #[.slice (some ⟨k,0,none⟩) 1 1,.int .i64 8] w fun e w'=>∃g,e=.returned (.slice (some ⟨g,0,none⟩) 8 8)∧w.heap.size≤g∧(∀j,j<8→w'.cell? ⟨g,j,none⟩=some (.int .i64 m))∧Since w w':=by
 have hkl:k<w.heap.size:=World.block_lt_of_cell? w _ hk;obtain⟨w1,hmk,hc1,hs1⟩:∃w1:World,(Instr.makeSlice 90 (.int .i64 8) (.int .i64 8)).run Tryz.prog w=.ok (.slice (some ⟨w.heap.size,0,none⟩) 8 8) w1∧ak w1 w.heap.size 8 (fun _=>.int .i64 0)∧Since w w1:=by
  obtain⟨i0,hi,hz0,hz1,hz2⟩:=info_parts' Dz;have hmk:=run_make (P:=Tryz.prog) w 90 3 i0 _ Tryz.underlying90 hi hz0 .i64 .i64 8 8 (by omega) (by omega) (by rw[hz2];omega) (by omega);rw[hz1] at hmk;exact⟨_,hmk,ak.new _ 8 _ _ _ (fun j hj=>by
   have hm:(madeCells (Value.int IntKind.i64 0).cells (Int.toNat 8*1))=(aa 8 (fun _=>.int .i64 0)).toArray:=by kernel_rfl
   rw[hm,List.getElem?_toArray];exact aU _ _ _ hj) _ rfl,(Since.refl w).alloc _⟩
 have hrunA:=fun ty=>sK w1 w.heap.size k 0 8 8 1 1 1 ty m _ hc1 (by omega) rfl (fun j hj=>by
  obtain rfl:j=0:=by omega
  exact(hs1.cell (p:=⟨k,0,none⟩) hkl).trans hk)
 have hc2:=hc1.setRow 0 1 (by omega) (fun _=>.int .i64 m);have hs2:Since w (w1.setCells w.heap.size 0 (aa 1 (fun _=>.int .i64 m))):=hs1.setCells (Nat.le_refl _) _ _;generalize w1.setCells w.heap.size 0 (aa 1 (fun _=>.int .i64 m))=w2 at *;have a0J:=fun ty=>sK w2.drew w.heap.size w.heap.size 1 7 7 1 8 1 ty m _ (hc2.since (Since.refl _).drew) (by omega) rfl (fun j hj=>by
  obtain rfl:j=0:=by omega
  exact hc2.cell 0 (by omega))
 have hc3:=(hc2.since (Since.refl _).drew).setRow 1 1 (by omega) (fun _=>.int .i64 m);have hs3:Since w (w2.drew.setCells w.heap.size 1 (aa 1 (fun _=>.int .i64 m))):=hs2.drew.setCells (Nat.le_refl _) _ _;generalize w2.drew.setCells w.heap.size 1 (aa 1 (fun _=>.int .i64 m))=w3 at *;have a0K:=fun ty=>sK w3.drew w.heap.size w.heap.size 2 6 6 2 8 2 ty m _ (hc3.since (Since.refl _).drew) (by omega) rfl (fun j hj=>by
  have h1:=hc3.cell j (by omega);rw[Nat.zero_add];refine h1.trans ?_;have hj2:j=0∨j=1:=by omega
  rcases hj2 with rfl | rfl<;>rfl)
 have hc4:=(hc3.since (Since.refl _).drew).setRow 2 2 (by omega) (fun _=>.int .i64 m);have hs4:Since w (w3.drew.setCells w.heap.size 2 (aa 2 (fun _=>.int .i64 m))):=hs3.drew.setCells (Nat.le_refl _) _ _;generalize w3.drew.setCells w.heap.size 2 (aa 2 (fun _=>.int .i64 m))=w4 at *;have a0L:=fun ty=>sK w4.drew w.heap.size w.heap.size 4 4 4 4 8 4 ty m _ (hc4.since (Since.refl _).drew) (by omega) rfl (fun j hj=>by
  have h1:=hc4.cell j (by omega);rw[Nat.zero_add];refine h1.trans ?_;have hj2:j=0∨j=1∨j=2∨j=3:=by omega
  rcases hj2 with rfl | rfl | rfl | rfl<;>rfl)
 have YW:=(hc4.since (Since.refl _).drew).setRow 4 4 (by omega) (fun _=>.int .i64 m);have hs5:Since w (w4.drew.setCells w.heap.size 4 (aa 4 (fun _=>.int .i64 m))):=hs4.drew.setCells (Nat.le_refl _) _ _;generalize w4.drew.setCells w.heap.size 4 (aa 4 (fun _=>.int .i64 m))=w5 at *;have HE:Hid ((∀j,j<8→w5.cell? ⟨w.heap.size,j,none⟩=some (.int .i64 m))∧Since w w5):=⟨fun j hj=>by
  refine(YW.cell j hj).trans ?_;have hj2:j=0∨j=1∨j=2∨j=3∨j=4∨j=5∨j=6∨j=7:=by omega
  rcases hj2 with rfl | rfl | rfl | rfl | rfl | rfl | rfl | rfl<;>rfl,hs5⟩
 have HB:Hid (∀W:World,Calls Tryz.prog 73 #[.int .u64 1,.int .u64 8] W fun e w'=>e=.returned (.tuple #[.int .u64 0,.int .u64 8])∧w'=W):=fun W=>Tryz.bits_Mul 1 8 (by omega) (by omega) W
 clear hc1 hc2 hc3 hc4 YW hs1 hs2 hs3 hs4 hs5 hkl hk;unfold goInt at hrunA a0J a0K a0L;have v2:IntKind.i64.wrap 2=2:=by decide
 have v4:IntKind.i64.wrap 4=4:=by decide
 have v8:IntKind.i64.wrap 8=8:=by decide
 go_enter Tryz.func102,Tryz.ntmps102
 go_wp2_with fail
 refine(HB.out _).mono ?_;rintro e wx ⟨rfl,hwx⟩;rw[hwx];clear hwx wx;go_wp2_with fail
 refine wp_loop_rounds 4 ?_;iterate 3
  rw[rounds_succ];go_wp2_with fail
  go_region_held3 (fun _=>True) (trivial) (fail)
  go_wp2_with fail
 rw[rounds_succ];go_wp2_with fail
 go_ret;exact⟨_,rfl,Nat.le_refl _,HE.out.1,HE.out.2⟩
end Dk
end Go.Proofs.YtmhcfaaggkidjaaGreatDoor
end
section
namespace Go.Proofs.YtmhcfaaggkidjaaGreatDoor
set_option maxRecDepth 100000
namespace Dk
open Go.RowKit
open En (Fi)
open Vl
def kG:ByteArray:=⟨#[99,114,97,115,104]⟩
def UU (s:ByteArray):Nat→Nat→List Bool
 | 0,_=>[]
 | f+1,pos=>if pos<s.size then (((Utf8.decode s pos).1:Int)==49)::UU s f (pos+(Utf8.decode s pos).2) else []
def slots (s:ByteArray):List Bool:=UU s s.size 0
theorem UV (s:ByteArray) (f pos:Nat) (h:¬pos<s.size):UU s f pos=[]:=by
 cases f with
 | zero=>rfl
 | succ f=>unfold UU;rw[if_neg h]
def iM (D:Dv) (m:Int) (s:ByteArray):Dv:=D.bG 8 (fun _=>m) (slots s).length (fun j=>(slots s).getD j false)
def qF (s:ByteArray) (m:Int) (Z Z':Sn) (a:qM):Prop:=∃f r,dL Z.ay (iM Z.f.D m s) Z.f.c f r∧Z'=⟨Z.ay,Z.im,f⟩∧a=(r,told kG f.count)
theorem EN (D:Dv) (m:Int) (s:ByteArray):(iM D m s).ws.length≤1:=by show ([]:List (Nat × ByteArray)).length≤1;simp
theorem a0M:(Tryz.prog.info? 4).map (fun i=>(i.zero,i.size,i.bytes))=some (some (.bool false),1,1):=by kernel_rfl
def WG (l:List Bool):List Value:=l.map Value.bool
section
variable {w0 w w':World} {P:Nat→Prop} {sb:Nat} {Z:Sn} {n:Int}
set_option maxHeartbeats 8000000 in
theorem UW (G:Gr w0) (h:eu w0 w P sb Z n) (hn:n<800000000) (x y:Value) (s:ByteArray) (m:Int) (hs:s.size≤30000) (hx:Wd w P x [s]) (hy:Nd w P y [m]):Calls Tryz.prog 47 #[.pointer (some ⟨sb,0,none⟩),.agg #[x,y]] w (Does w0 P sb Z n (qF s m) w):=by
 have hs1:Since w (w.alloc (.cells #[x,y] 92)):=(Since.refl w).alloc _;obtain⟨a,c,rfl,_,hx2⟩:=hx;obtain⟨k,o,hao,EJ,hk⟩:=hx2 (by simp);subst hao;obtain⟨a',c',rfl,hy2⟩:=hy;obtain⟨k',o',hao,Mw,hk'⟩:=hy2 (by simp);subst hao;have hk0:=hk 0 s rfl;have hk2:=hk' 0 m rfl;rw[show ([s].length)=1 from rfl,show ([m].length)=1 from rfl] at *;have HQ:Hid (∀W,Since (w.alloc (.cells #[.slice (some ⟨k,o,none⟩) 1 c,.slice (some ⟨k',o',none⟩) 1 c'] 92)) W→W.cell? ⟨w.heap.size,0,none⟩=some (.slice (some ⟨k,o,none⟩) 1 c)∧W.cell? ⟨k,o,none⟩=some (.string s)):=fun W hW=>⟨(sI w _ _ _ _ hW).1,((hs1.trans hW).cell (p:=⟨k,o,none⟩) (World.block_lt_of_cell? w _ hk0)).trans hk0⟩
 have q1:(w.alloc (.cells #[.slice (some ⟨k,o,none⟩) 1 c,.slice (some ⟨k',o',none⟩) 1 c'] 92)).cell? ⟨w.heap.size,1,none⟩=some (.slice (some ⟨k',o',none⟩) 1 c'):=(sI w _ _ _ _ (Since.refl _)).2;have q2:(w.alloc (.cells #[.slice (some ⟨k,o,none⟩) 1 c,.slice (some ⟨k',o',none⟩) 1 c'] 92)).cell? ⟨k',o',none⟩=some (.int .i64 m):=(hs1.cell (p:=⟨k',o',none⟩) (World.block_lt_of_cell? w _ hk2)).trans hk2;have HS:Hid (eu w0 (w.alloc (.cells #[.slice (some ⟨k,o,none⟩) 1 c,.slice (some ⟨k',o',none⟩) 1 c'] 92)) P sb Z n∧Since w (w.alloc (.cells #[.slice (some ⟨k,o,none⟩) 1 c,.slice (some ⟨k',o',none⟩) 1 c'] 92))∧Gr w0∧n<800000000∧s.size≤30000):=⟨h.go hs1,hs1,G,hn,hs⟩
 clear h hs1 G hn hs hk hk' hk0 hk2 hx2 hy2 EJ Mw;have HR:Hid (∀(W:World) (g:Nat),W.cell? ⟨g,0,none⟩=some (.int .i64 m)→Calls Tryz.prog 102 #[.slice (some ⟨g,0,none⟩) 1 1,.int .i64 8] W fun e w'=>∃g',e=.returned (.slice (some ⟨g',0,none⟩) 8 8)∧W.heap.size≤g'∧(∀j,j<8→w'.cell? ⟨g',j,none⟩=some (.int .i64 m))∧Since W w'):=fun W g hg=>EM g m W hg
 generalize hW:w.alloc (.cells #[.slice (some ⟨k,o,none⟩) 1 c,.slice (some ⟨k',o',none⟩) 1 c'] 92)=W at *;go_enter Tryz.func47,Tryz.ntmps47
 go_wp2_with fail
 refine(HR.out _ _ (by simp)).mono ?_;rintro e w1 ⟨g,rfl,hg,hgc,h1⟩;have hs2:Since W w1:=((Since.refl _).alloc _).trans h1;obtain⟨q3,q4⟩:=HQ.out _ hs2;clear q1 q2 h1 hW;go_wp2_with fail
 obtain⟨i0,hi,hz0,hz1,hz2⟩:=info_parts' a0M;have HI:Hid (Tryz.prog.info? 4=some i0∧i0.zero=some (.bool false)∧i0.size=1∧i0.bytes=1):=⟨hi,hz0,hz1,hz2⟩
 have H2:Hid (Since W w1∧(∀j,j<8→w1.cell? ⟨g,j,none⟩=some (.int .i64 m))∧W.heap.size≤g):=⟨hs2,hgc,by have:=hg;rw[show (W.alloc (.cells #[.int .i64 m] 3)).heap.size=W.heap.size+1 from Array.size_push _] at this;omega⟩
 clear hi hz0 hz1 hz2 hs2 hgc hg q3 q4;go_loopg [6] s.size (fun gf s6 wx=>∃(pos:Nat) (acc:List Bool),wx.ownsRow w1.heap.size 4 1 s6 acc.length (WG acc)∧wx.heap[w1.heap.size]?=some (.stringIter s pos)∧Since w1 wx∧acc++UU s gf pos=slots s∧s.size≤pos+gf∧pos≤s.size∧acc.length≤pos)
 case atStart=>exact⟨0,[],World.ownsRow_nil _ _ _ _,World.iter_heap w1 s 0,(Since.refl _).alloc _,rfl,by omega,Nat.zero_le _,Nat.le_refl _⟩
 obtain⟨pos,acc,hown,hit,hsn,hsl,hfu,hps,hal⟩:=hrel;by_cases hlt:pos<s.size
 ·obtain⟨g',rfl⟩:∃g',gk=g'+1:=⟨gk-1,by omega⟩
  have hnx:∀ty,(Instr.next (.pointer (some ⟨w1.heap.size,0,none⟩)) true ty).run Tryz.prog wr=_:=fun ty=>Lib.run_next_any_at wr w1.heap.size s pos ty hit hlt
  have hwd:=Lib.width_pos s pos;have hwn:pos+(Utf8.decode s pos).2≤s.size:=by
   have:=Lib.decodeN_le_n' (s.size-pos) (s.get! pos).toNat (s.get! (pos+1)).toNat (s.get! (pos+2)).toNat (s.get! (pos+3)).toNat (by omega);rw[←Lib.decode_at] at this;omega
  obtain⟨R,hR⟩:∃R,(Utf8.decode s pos).1=R:=⟨_,rfl⟩
  obtain⟨K,hK⟩:∃K,(Utf8.decode s pos).2=K:=⟨_,rfl⟩
  have hsl2:acc++((R:Int)==49)::UU s g' (pos+K)=slots s:=by
   have e1:UU s (g'+1) pos=(((Utf8.decode s pos).1:Int)==49)::UU s g' (pos+(Utf8.decode s pos).2):=if_pos hlt;rw[←hR,←hK,←e1];exact hsl
  rw[hR,hK] at hnx;rw[hK] at hwd hwn;have hit2:=Lib.iterAt_heap wr w1.heap.size s pos (pos+K) hit;have hbw2:Since w1 (wr.iterAt w1.heap.size s (pos+K)):=Lib.below_iterAt hsn (k:=w1.heap.size) (Nat.le_refl _) s (pos+K);have hown2:=Go.Proofs.own_iterAt hown hit (pos+K);obtain⟨V,hV⟩:∃V,wr.iterAt w1.heap.size s (pos+K)=V:=⟨_,rfl⟩
  rw[hV] at hnx hit2 hbw2 hown2;have HX:Hid (V.ownsRow w1.heap.size 4 1 _ acc.length (WG acc)):=hown2;have HS2:Hid (Since w1 V∧V.heap[w1.heap.size]?=some (.stringIter s (pos+K))∧acc++((R:Int)==49)::UU s g' (pos+K)=slots s∧s.size≤pos+K+g'∧pos+K≤s.size∧acc.length+1≤pos+K):=⟨hbw2,hit2,hsl2,by omega,hwn,by omega⟩
  clear hown hit hsn hsl hown2 hbw2 hit2 hsl2 hV hR hK;go_wp2_with (at_builtin;refine wpList_append_own _ (by rfl) _ _ _ (by rfl) w1.heap.size 4 i0 _ 1 1 Tryz.underlying130 HI.out.1 HI.out.2.1 HI.out.2.2.1 HI.out.2.2.2 (by rfl) (by decide) _ acc.length (WG acc) (by rfl) (World.ownsRow.alloc HX.out _) ⟨V.heap.size,0,none⟩ 1 1 [.bool (((R:Int)==49))] (by rfl) (by rfl) (World.news_of_block (heap_alloc_new V _)) (by simp[Value.oneCell']) (by unfold maxLen;have:=HS.out.2.2.2.2;have:=HS2.out.2.2.2.2.2;have:=HS2.out.2.2.2.2.1;omega) (by have:=HS.out.2.2.2.2;have:=HS2.out.2.2.2.2.2;have:=HS2.out.2.2.2.2.1;omega) (by have:=HS2.out.1.size;simp;omega) ?_;intro x' w3 hown1 hgrow _)
  have Jz:Hid (w3.ownsRow w1.heap.size 4 1 x' (acc.length+1) (WG acc++[.bool ((R:Int)==49)])):=hown1;have Fx:Hid (Since w1 w3∧w3.heap[w1.heap.size]?=some (.stringIter s (pos+K))):=by
   refine⟨Below.grown (Since.alloc HS2.out.1 _) hgrow (by have:=HS2.out.1.size;simp;omega) (fun j hj=>(HX.out.lt j hj).1),?_⟩;have hlt1:w1.heap.size<V.heap.size:=(Array.getElem?_eq_some_iff.1 HS2.out.2.1).1;have e1:(V.alloc (.cells #[.bool ((R:Int)==49)] 4)).heap[w1.heap.size]?=V.heap[w1.heap.size]?:=((Since.refl V).alloc _).block _ hlt1;rw[hgrow.block w1.heap.size (Nat.lt_of_lt_of_le hlt1 ((Since.refl V).alloc _).size) (Go.Proofs.own_ne_iter HX.out HS2.out.2.1),e1];exact HS2.out.2.1
  clear hown1 hgrow;go_wp2_with fail
  go_roundg g'
  case measure=>omega
  case rel=>exact⟨pos+K,acc++[((R:Int)==49)],by rw[List.length_append];unfold WG at *;rw[List.map_append];exact Jz.out,Fx.out.2,Fx.out.1,by rw[List.append_assoc];exact HS2.out.2.2.1,HS2.out.2.2.2.1,HS2.out.2.2.2.2.1,by rw[List.length_append];exact HS2.out.2.2.2.2.2⟩
 have hnx:∀ty,(Instr.next (.pointer (some ⟨w1.heap.size,0,none⟩)) true ty).run Tryz.prog wr=_:=fun ty=>Lib.run_next_end_at wr w1.heap.size s pos ty hit hlt
 have hacc:acc=slots s:=by rw[←hsl,UV s _ _ hlt,List.append_nil]
 subst hacc;have hW3:Since W wr:=H2.out.1.trans hsn;have ZO:=HS.out.1.go hW3;have hfit:=ZO.fit;obtain⟨db,cb,fp,v,hS,hF⟩:=ZO;have hdl:db<W.heap.size:=HS.out.1.oU db hS.ps.2.1;have HCR:Hid (∀sv,wr.ownsRow w1.heap.size 4 1 sv (slots s).length (WG (slots s))→Calls Tryz.prog 26 #[.pointer (some ⟨db,0,none⟩),.slice (some ⟨g,0,none⟩) 8 8,sv] wr fun e w'=>e=.returned (.tuple #[])∧mf w0 w' P sb db cb Z.ay Z.im fp (iM Z.f.D m s) Z.f.c (.slice none 0 0)∧Fs P wr w'):=fun sv hsv=>(KP Z.f.D v db 8 (slots s).length _ sv (fun _=>m) (fun j=>(slots s).getD j false) wr hS.dc.dev ⟨_,_,rfl,fun _=>⟨g,0,rfl,fun e=>by have:=H2.out.2.2;omega,fun j hj=>by rw[Nat.zero_add];exact(hsn.cell (p:=⟨g,j,none⟩) (World.block_lt_of_cell? _ _ (H2.out.2.1 j hj))).trans (H2.out.2.1 j hj)⟩⟩ (by
  rcases hsv.2 with⟨h1,h2⟩ | ⟨g2,cap,cur,h1,hb,hg,hn,_⟩
  ·exact⟨none,0,by rw[h1,h2],fun hp=>by omega⟩
  ·refine⟨_,cap,h1,fun hp=>⟨g2,0,rfl,fun e=>by have:=H2.out.1.size;omega,fun j hj=>?_⟩⟩;rw[h1] at hsv;rw[Nat.zero_add,hsv.cellAt j (by omega)];unfold WG;rw[List.getElem?_map,List.getElem?_eq_getElem hj];show some (Value.bool (slots s)[j])=some (Value.bool ((slots s).getD j false))
   rw[List.getD_eq_getElem?_getD,List.getElem?_eq_getElem hj]
   rfl)).mono (by
  rintro e w' ⟨rfl,hd,hf⟩;obtain⟨h5,h6⟩:=hS.laid (im1:=sS) hd hf;exact⟨rfl,h5,h6⟩)
 have c0:=hS.cells.1;have Yj:Hid (∀V,mf w0 V P sb db cb Z.ay Z.im fp (iM Z.f.D m s) Z.f.c (.slice none 0 0)→Calls Tryz.prog 101 #[.pointer (some ⟨sb,0,none⟩),.string kG] V fun e w'=>∃f r,e=gV r (told kG f.count)∧dL Z.ay (iM Z.f.D m s) Z.f.c f r∧aG w0 V w' P sb ⟨Z.ay,Z.im,f⟩ (Z.f.c+1)):=fun V hV=>sF HS.out.2.2.1.tab HS.out.2.2.1.lb HS.out.2.2.1.et hV (EN _ _ _) ⟨hfit.1,by have:=hfit.2.1;have:=HS.out.2.2.2.1;omega⟩ kG (by decide)
 have HZ:Hid (Z.f.c≤n∧Since w wr):=⟨hfit.2.1,HS.out.2.1.trans hW3⟩
 have HOW:Hid (wr.ownsRow w1.heap.size 4 1 _ (slots s).length (WG (slots s))):=hown;unfold kG at Yj;clear hown hit hsn hsl hfu hps hal hlt hW3 hfit hS hF hdl;go_wp2_with fail
 refine(HCR.out _ HOW.out).mono ?_;rintro e w5 ⟨rfl,h5,h6⟩;have H5:Hid (mf w0 w5 P sb db cb Z.ay Z.im fp (iM Z.f.D m s) Z.f.c (.slice none 0 0)∧Fs P w w5):=⟨h5,(Fs.ah HZ.out.2).trans h6⟩
 clear h5 h6;go_wp2_with fail
 refine(Yj.out w5 H5.out.1).mono ?_;rintro e w6 ⟨f,r,he,h7,h8⟩;have HD:Hid (Does w0 P sb Z n (qF s m) w (gV r (told kG f.count)) w6):=⟨⟨Z.ay,Z.im,f⟩,(r,told kG f.count),rfl,⟨f,r,h7,rfl,rfl⟩,(aG.then H5.out.2 h8).le (by have:=HZ.out.1;omega)⟩
 unfold kG at HD;generalize told (⟨#[99,114,97,115,104]⟩:ByteArray) f.count=t at *;clear h7 h8;unfold gV at he HD;by_cases hr:r=0
 ·rw[if_pos hr] at he HD;subst he;go_wp2_with fail
  go_ret;exact HD.out
 rw[if_neg hr] at he HD;subst he;exact⟨rfl,HD.out⟩
end
end Dk
end Go.Proofs.YtmhcfaaggkidjaaGreatDoor
end
