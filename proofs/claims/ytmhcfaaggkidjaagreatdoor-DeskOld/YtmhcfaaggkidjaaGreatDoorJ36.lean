import Derived.Test.YtmhcfaaggkidjaaGreatDoorJ34
import Derived.Test.YtmhcfaaggkidjaaGreatDoorJ35
set_option linter.unusedSimpArgs false
set_option linter.unusedVariables false
section
namespace Go.Proofs.YtmhcfaaggkidjaaGreatDoor
set_option maxRecDepth 100000
namespace Fl
open Go.RowKit Go.Sort Go.Shelf
open En (Fi iX Ints fZ Row)
open Vl (Fs)
def xW (a b:ByteArray):Int:=if Op.bytesLess a.toList b.toList then -1 else if a.toList==b.toList then 0 else 1
theorem Ib (a b:ByteArray) (w:World):Calls Tryz.prog 126 #[.string a,.string b] w fun e w'=>e=.returned (.int .i64 (xW a b))∧w'=w:=by
 cases hl:Op.bytesLess a.toList b.toList with
 | true=>
  have hq:xW a b=-1:=by unfold xW;rw[hl];rfl
  rw[hq];clear hq;go_enter Tryz.func126,Tryz.ntmps126
  go_wp2_with fail
  refine(iG a w).mono ?_;rintro e w1 ⟨rfl,rfl⟩;go_wp2_with fail
  refine(iG b _).mono ?_;rintro e w1 ⟨rfl,rfl⟩;go_wp2_with fail
  go_ret;exact⟨rfl,rfl⟩
 | false=>
  cases he:(a.toList==b.toList) with
  | true=>
   have hq:xW a b=0:=by unfold xW;rw[hl,he];rfl
   rw[hq];clear hq;go_enter Tryz.func126,Tryz.ntmps126
   go_wp2_with fail
   refine(iG a w).mono ?_;rintro e w1 ⟨rfl,rfl⟩;go_wp2_with fail
   refine(iG b _).mono ?_;rintro e w1 ⟨rfl,rfl⟩;go_wp2_with fail
   go_ret;exact⟨rfl,rfl⟩
  | false=>
   have hq:xW a b=1:=by unfold xW;rw[hl,he];rfl
   rw[hq];clear hq;go_enter Tryz.func126,Tryz.ntmps126
   go_wp2_with fail
   refine(iG a w).mono ?_;rintro e w1 ⟨rfl,rfl⟩;go_wp2_with fail
   refine(iG b _).mono ?_;rintro e w1 ⟨rfl,rfl⟩;go_wp2_with fail
   go_ret;exact⟨rfl,rfl⟩
abbrev Fv:Type:=ByteArray × Int × Option Addr × Nat × Nat
def nN (x:Fv):List Value:=[.string x.1,.int .i64 x.2.1,.slice x.2.2.1 x.2.2.2.1 x.2.2.2.2]
def PY (x y:Fv):Int:=xW x.1 y.1
theorem Ic (x y:Fv) (W:World):Calls Tryz.prog 125 #[.agg (nN x).toArray,.agg (nN y).toArray] W fun e w'=>e=.returned (.int .i64 (PY x y))∧∃q os',w'=grow (W.drewN q) os':=by
 obtain⟨n1,s1,a1,l1,c1⟩:=x;obtain⟨n2,s2,a2,l2,c2⟩:=y;have hcon:=fun W'=>Ib n1 n2 W'
 have hq:PY (n1,s1,a1,l1,c1) (n2,s2,a2,l2,c2)=xW n1 n2:=rfl;rw[hq];clear hq;generalize xW n1 n2=r at hcon ⊢;unfold nN;go_enter Tryz.func125,Tryz.ntmps125
 go_wp2_with (go_at_call 126;refine(hcon _).mono ?_;rintro e w' ⟨rfl,rfl⟩)
 go_ret;exact⟨rfl,0,_,by rw[alloc_eq_grow,alloc_eq_grow,grow_grow];rfl⟩
theorem PZ (blk off size:Nat) (w:World):CmpLays Tryz.prog 125 #[] nN 3 PY blk off size w:=fun _ _ _ _ x y=>Ic x y _
theorem ltF (x y:Fv):ltOf PY x y=decide (x.1.toList<y.1.toList):=by
 have e:=bytesLess_eq x.1.toList y.1.toList;unfold ltOf PY xW;rw[e];by_cases h:x.1.toList<y.1.toList
 ·rw[decide_eq_true h];rfl
 rw[decide_eq_false h];cases (x.1.toList==y.1.toList)<;>rfl
theorem a3d:SWO (ltOf PY) where
 irrefl x:=by rw[ltF];exact decide_eq_false (List.lt_irrefl _)
 trans x y z h1 h2:=by rw[ltF] at *;simp only[decide_eq_true_eq] at *;exact List.lt_trans h1 h2
 ntrans x y z h1 h2:=by
  rw[ltF] at *;simp only[decide_eq_false_iff_not,List.not_lt] at *;exact List.le_trans h2 h1
theorem Uk (w:World) (blk off n:Nat) (d:Array Fv) (os:Array Obj):Fs (fun k=>k=blk) w (sortWorldK nN 3 w blk off n d os):=by
 refine⟨rfl,rfl,rfl,?_,fun k hk hne=>?_⟩
 ·simp[sortWorldK,putRowK,putRow,mapBlock,Sort.ahead,grow]
 unfold sortWorldK putRowK;rw[heap_grow_old _ _ (by simpa [putRow,mapBlock,Sort.ahead] using hk)];have:blk≠k:=fun e=>hne e.symm
 simp[putRow,mapBlock,Sort.ahead,Array.getElem?_modify,this]
theorem LW (blk off cap:Nat) (d:Array Fv) (w:World) (hH:HoldsK nN 3 w blk off d) (hblk:blk<w.heap.size) (h12:d.size≤12) :
  Calls Tryz.prog 124 #[.slice (some ⟨blk,off,none⟩) d.size cap,.func (.func 125) #[] #[]] w fun e w'=>e=.returned (.tuple #[])∧∃d':Array Fv,d'.size=d.size∧d'.toList.Perm d.toList∧SortedIn (ltOf PY) 0 d.size d'∧HoldsK nN 3 w' blk off d'∧Fs (fun k=>k=blk) w w':=by
 have hcon:=AnyQ.slices_SortFunc_small_sorted Tryz.a0o 3 Tryz.isAgg122 Tryz.sizeOf122 nN (fun _=>rfl) (fun x v hv=>by simp[nN] at hv;rcases hv with rfl | rfl | rfl<;>rfl) PY 125 #[] a3d blk off cap d w xV (PZ blk off d.size w) hH hblk h12 (fun n W h=>(Tryz.bits_Len n W (by omega) (by omega)).mono fun _ _ ⟨he,hw⟩=>⟨⟨_,he⟩,hw⟩);refine hcon.mono ?_;rintro e w' ⟨he,d',n,os,hp,hs,rfl⟩;refine⟨he,d',hp.1,?_,hs,?_,Uk w blk off n d' os⟩
 ·have:=hp.2.2;rw[←hp.1] at this;rw[Array.extract_size,hp.1,Array.extract_size] at this;exact this
 exact holdsK_grow nN 3 _ os blk off d' (by simpa [putRowK,putRow,mapBlock,Sort.ahead] using hblk) (holdsK_putRowK nN 3 _ blk off d d' (holdsK_ahead nN 3 w n blk off d hH) hp.1)
end Fl
end Go.Proofs.YtmhcfaaggkidjaaGreatDoor
end
section
namespace Go.Proofs.YtmhcfaaggkidjaaGreatDoor
set_option maxRecDepth 100000
namespace Fl
open Go.RowKit Go.Sort Go.Shelf
open En (Fi iX Ints fZ Row)
open Vl (Fs)
def aA:List Fv→List Value
 | []=>[]
 | x::r=>.string x.1::.int .i64 x.2.1::.slice x.2.2.1 x.2.2.2.1 x.2.2.2.2::aA r
theorem iH:∀d:List Fv,(aA d).length=d.length*3
 | []=>rfl
 | x::r=>by
  have ih:=iH r;simp only[aA,List.length_cons];omega
theorem xX:∀(d:List Fv),∀u ∈ aA d,u.oneCell'=true
 | [],u,h=>by cases h
 | x::r,u,h=>by
  simp only[aA,List.mem_cons] at h;rcases h with rfl | rfl | rfl | h
  ·rfl
  ·rfl
  ·rfl
  exact xX r u h
theorem jQ:∀(d:List Fv) (j:Nat) (x:Fv),d[j]?=some x→(aA d)[j*3]?=some (.string x.1)∧(aA d)[j*3+1]?=some (.int .i64 x.2.1)∧(aA d)[j*3+2]?=some (.slice x.2.2.1 x.2.2.2.1 x.2.2.2.2)
 | [],j,x,h=>by simp at h
 | y::r,0,x,h=>by
  simp at h;subst h;exact⟨rfl,rfl,rfl⟩
 | y::r,j+1,x,h=>by
  have ih:=jQ r j x (by simpa using h);have e:aA (y::r)=.string y.1::.int .i64 y.2.1::.slice y.2.2.1 y.2.2.2.1 y.2.2.2.2::aA r:=rfl;rw[e,show (j+1)*3=j*3+1+1+1 by omega];exact ih
theorem addr_add (k o j:Nat):(⟨k,o,none⟩:Addr).add j=⟨k,o+j,none⟩:=by
 unfold Addr.add;split
 ·next h=>subst h;rfl
 rfl
def Sr (w:World) (v:Value) (d:List Fv):Prop:=(d=[]∧∃c,v=.slice none 0 c)∨∃k o c,v=.slice (some ⟨k,o,none⟩) d.length c∧d.length≤c∧∀j u,(aA d)[j]?=some u→w.cell? ⟨k,o+j,none⟩=some u
set_option maxHeartbeats 2000000 in
theorem ed (v:Value) (d:List Fv) (w:World) (h:Sr w v d) (hn:d.length≤1000):Calls Tryz.prog 121 #[v] w fun e w'=>∃v',e=.returned v'∧w'.ownsRow w.heap.size 122 3 v' d.length (aA d)∧Since w w':=by
 rcases h with⟨rfl,c,rfl⟩ | ⟨k,o,c,rfl,hc,hcell⟩
 ·have hq:=fun w'=>Lib.run_eql_slice_nil (P:=Tryz.prog) w' 110 122 none 0 c 0 0 Tryz.underlying110
  go_enter Tryz.func121,Tryz.ntmps121
  go_wp2_with fail
  go_ret;exact⟨_,rfl,World.ownsRow_nil _ _ _ _,Since.refl _⟩
 obtain⟨i0,hi,hz0,hz1,hz2⟩:=info_parts En.JM;have HN:Hid (d.length≤1000):=hn;have HC:Hid (d.length≤c):=hc;have hown0:(w.alloc (.cells #[] 122)).ownsRow w.heap.size 122 3 (.slice (some ⟨w.heap.size,0,none⟩) 0 0) 0 []:=World.ownsRow_made w #[] 0 (Nat.le_refl _) (by simp[maxLen]) rfl;have hnews:∀j u,(aA d)[j]?=some u→(w.alloc (.cells #[] 122)).cell? ((⟨k,o,none⟩:Addr).add j)=some u:=fun j u hj=>((((Since.refl w).alloc (.cells #[] 122)).cell (p:=(⟨k,o,none⟩:Addr).add j) (by rw[addr_add];exact World.block_lt_of_cell? w _ (hcell j u hj))).trans (by rw[addr_add];exact hcell j u hj))
 have hl:=iH d;have h1:=xX d;have a0p:0+d.length≤maxLen:=by unfold maxLen;omega
 have hbb:(0+d.length)*48≤140737488355328:=by omega
 have hbase:w.heap.size≤(w.alloc (.cells #[] 122)).heap.size:=by simp
 have HH:Hid (_∧_∧_∧_∧_∧_∧_∧_∧_∧_∧_):=⟨hi,hz0,hz1,hz2,hown0,hl,hnews,h1,a0p,hbb,hbase⟩
 have hq:=fun w'=>Lib.run_eql_slice_nil (P:=Tryz.prog) w' 110 122 (some ⟨k,o,none⟩) d.length c 0 0 Tryz.underlying110
 clear hi hz0 hz1 hz2 hown0 hl hnews h1 a0p hbb hbase hn hc hcell;go_enter Tryz.func121,Tryz.ntmps121
 go_wp2_with (at_builtin;refine wpList_append_own _ (by rfl) _ _ 110 (by rfl) w.heap.size 122 i0 _ 3 48 Tryz.underlying110 HH.out.1 HH.out.2.1 HH.out.2.2.1 HH.out.2.2.2.1 (by rfl) (by decide) _ 0 [] (by rfl) HH.out.2.2.2.2.1 ⟨k,o,none⟩ d.length c (aA d) (by rfl) HH.out.2.2.2.2.2.1 HH.out.2.2.2.2.2.2.1 HH.out.2.2.2.2.2.2.2.1 HH.out.2.2.2.2.2.2.2.2.1 HH.out.2.2.2.2.2.2.2.2.2.1 HH.out.2.2.2.2.2.2.2.2.2.2 ?_;intro v' w' hown hgrow _)
 have HO:Hid (w'.ownsRow w.heap.size 122 3 v' (0+d.length) ([]++aA d)):=hown;have HS:Hid (Since w w'):=((Since.refl w).alloc _).grown hgrow (fun k hk=>by simp[Value.ownBlock] at hk;omega);clear hown hgrow;go_wp2_with fail
 go_ret;refine⟨_,rfl,?_,HS.out⟩;have:=HO.out;rw[Nat.zero_add,List.nil_append] at this;exact this
end Fl
end Go.Proofs.YtmhcfaaggkidjaaGreatDoor
end
section
namespace Go.Proofs.YtmhcfaaggkidjaaGreatDoor
set_option maxRecDepth 100000
namespace Fl
open Go.RowKit Go.Sort Go.Shelf
open En (Fi iX Ints fZ Row)
open Vl (Fs)
theorem Ew {base e size n cap g:Nat} {xs:List Value}:∀(vs:List Value) (w:World) (o:Nat),xs.length≤o→w.ownsRow base e size (.slice (some ⟨g,0,none⟩) n cap) n xs→(w.setCells g o vs).ownsRow base e size (.slice (some ⟨g,0,none⟩) n cap) n xs
 | [],w,o,_,h=>h
 | v::r,w,o,ho,h=>by
  have h1:=(h.stored o v).1;rw[List.set_eq_of_length_le ho] at h1;exact Ew r _ (o+1) (by omega) h1
theorem Ul {base e size n i cap g:Nat} {w:World} {xs:List Value} (h:w.ownsRow base e size (.slice (some ⟨g,0,none⟩) n cap) n xs) (hi:i≤n):w.ownsRow base e size (.slice (some ⟨g,0,none⟩) i cap) i (xs.take (i*size)):=by
 obtain⟨h1,h2⟩:=h;have hle:=Nat.mul_le_mul_right size hi;refine⟨by rw[List.length_take,h1];omega,?_⟩;rcases h2 with⟨h',_⟩ | ⟨g',cap',cur,h',hb,hg,hnc,hcm,hcs,htake⟩
 ·simp at h'
 simp only[Value.slice.injEq,Option.some.injEq,Addr.mk.injEq,and_true,true_and] at h';obtain⟨rfl,rfl⟩:=h';refine .inr ⟨g,cap,cur,rfl,hb,hg,by omega,hcm,hcs,?_⟩;rw[←htake,List.take_take,Nat.min_eq_left hle]
theorem xY {w0:World} {g:Nat} (hg:w0.heap.size≤g):∀(vs:List Value) (w:World) (o:Nat),Since w0 w→Since w0 (w.setCells g o vs)
 | [],w,o,h=>h
 | v::r,w,o,h=>xY hg r _ (o+1) (h.setCell (p:=⟨g,o,none⟩) hg v)
theorem xZ:∀(d:List Fv) (i:Nat) (x:Fv),aA (d.set i x)=(((aA d).set (i*3) (.string x.1)).set (i*3+1) (.int .i64 x.2.1)).set (i*3+2) (.slice x.2.2.1 x.2.2.2.1 x.2.2.2.2)
 | [],i,x=>by simp[aA]
 | y::r,0,x=>rfl
 | y::r,i+1,x=>by
  have ih:=xZ r i x;have e:aA (y::r)=.string y.1::.int .i64 y.2.1::.slice y.2.2.1 y.2.2.2.1 y.2.2.2.2::aA r:=rfl;have e2:aA ((y::r).set (i+1) x)=.string y.1::.int .i64 y.2.1::.slice y.2.2.1 y.2.2.2.1 y.2.2.2.2::aA (r.set i x):=rfl;rw[e,e2,ih,show (i+1)*3=i*3+1+1+1 by omega]
  rfl
theorem uQ:∀(d:List Fv) (i:Nat),(aA d).take (i*3)=aA (d.take i)
 | [],i=>by simp[aA]
 | y::r,0=>by simp[aA]
 | y::r,i+1=>by
  have ih:=uQ r i;have e:aA (y::r)=.string y.1::.int .i64 y.2.1::.slice y.2.2.1 y.2.2.2.1 y.2.2.2.2::aA r:=rfl;rw[e,show (i+1)*3=i*3+1+1+1 by omega,List.take_succ_cons,List.take_succ_cons,List.take_succ_cons,ih]
  rfl
theorem Um {w:World} {base g n cap:Nat} {d:List Fv} (h:w.ownsRow base 122 3 (.slice (some ⟨g,0,none⟩) n cap) n (aA d)) (i:Nat) (x:Fv) :
  (((w.setCell ⟨g,i*3,none⟩ (.string x.1)).setCell ⟨g,i*3+1,none⟩ (.int .i64 x.2.1)).setCell ⟨g,i*3+2,none⟩ (.slice x.2.2.1 x.2.2.2.1 x.2.2.2.2)).ownsRow base 122 3 (.slice (some ⟨g,0,none⟩) n cap) n (aA (d.set i x)):=by
 rw[xZ];exact((((h.stored (i*3) _).1.stored (i*3+1) _).1).stored (i*3+2) _).1
theorem a0q:∀w:World,(zeroValue 122).run Tryz.prog w=.ok (.agg #[.string ByteArray.empty,.int .i64 0,.slice none 0 0]) w:=by
 obtain⟨i0,hi,hz0,hz1,hz2⟩:=info_parts En.JM;intro w;simp[zeroValue,typeInfo,hi,hz0]
theorem LX (w:World) (ty:TypeId) (b o n c:Nat) (hc:∀j,j<n*3→(w.cell? ⟨b,o+j,none⟩).isSome=true) (hf:∀j,j<n*3→w.frozen? ⟨b,o+j,none⟩=false) :
  ∃Z:List Value,(Builtin.clear_ #[110] ty #[.slice (some ⟨b,o,none⟩) n c]).run Tryz.prog w=.ok (.tuple #[]) (w.setCells b o Z):=by
 rcases Nat.eq_zero_or_pos n with rfl | hn
 ·exact⟨[],by simp[Builtin.clear_,run_underlying Tryz.underlying110,World.setCells]⟩
 refine⟨(Builtin.zeroCells (Value.agg #[.string ByteArray.empty,.int .i64 0,.slice none 0 0]).cells n).toList,?_⟩;have hlen:(Builtin.zeroCells (Value.agg #[.string ByteArray.empty,.int .i64 0,.slice none 0 0]).cells n).toList.length=n*3:=by
  rw[Array.length_toList,size_zeroCells];rfl
 have hst:=run_storeCells_cells (P:=Tryz.prog) b o (Builtin.zeroCells (Value.agg #[.string ByteArray.empty,.int .i64 0,.slice none 0 0]).cells n).toList 0 w (by rw[hlen];simpa using hc) (by rw[hlen];simpa using hf) (by
  intro v hv;simp only[Builtin.zeroCells,Array.toList_map,List.mem_map] at hv;obtain⟨t,_,rfl⟩:=hv;have h3:t % 3=0∨t % 3=1∨t % 3=2:=by omega
  show ((#[Value.string ByteArray.empty,.int .i64 0,.slice none 0 0]:Array Value)[t % 3]!).oneCell'=true
  rcases h3 with h | h | h<;>rw[h]<;>rfl)
 simp only[Nat.add_zero] at hst;obtain⟨m,rfl⟩:∃m,n=m+1:=⟨n-1,by omega⟩
 have hz:=a0q;clear hlen;generalize (Value.agg #[.string ByteArray.empty,.int .i64 0,.slice none 0 0])=z at *;simp[Builtin.clear_,run_underlying Tryz.underlying110,hz,hst]
end Fl
end Go.Proofs.YtmhcfaaggkidjaaGreatDoor
end
section
namespace Go.Proofs.YtmhcfaaggkidjaaGreatDoor
set_option maxRecDepth 100000
namespace Fl
open Go.RowKit Go.Sort Go.Shelf
open En (Fi iX Ints fZ Row)
open Vl (Fs)
def aR (s:ByteArray) (x:Fv):Bool:=!decide (x.1=s)
structure XU (w0 wr:World) (d:List Fv) (g cap b:Nat) (s:ByteArray) (i j:Nat) (D:List Fv):Prop where
 lt:i<j
 le:j≤d.length
 len:D.length=d.length
 low:D.take i=(d.take j).filter (aR s)
 high:D.drop j=d.drop j
 own:wr.ownsRow w0.heap.size 122 3 (.slice (some ⟨g,0,none⟩) d.length cap) d.length (aA D)
 since:Since w0 wr
 box:wr.cell? ⟨b,0,none⟩=some (.string s)
theorem kY {w:World} {base g n cap:Nat} {D:List Fv} (h:w.ownsRow base 122 3 (.slice (some ⟨g,0,none⟩) n cap) n (aA D)) {j:Nat} {x:Fv} (hx:D[j]?=some x) (hj:j<n) :
  w.cell? ⟨g,j*3,none⟩=some (.string x.1)∧w.cell? ⟨g,j*3+1,none⟩=some (.int .i64 x.2.1)∧w.cell? ⟨g,j*3+2,none⟩=some (.slice x.2.2.1 x.2.2.2.1 x.2.2.2.2):=by
 obtain⟨e1,e2,e3⟩:=jQ D j x hx;have c:=fun i hi=>h.cellAt i hi
 exact⟨(c _ (by omega)).trans e1,(c _ (by omega)).trans e2,(c _ (by omega)).trans e3⟩
theorem iI (w:World) (g o:Nat) (v:Value) {b:Nat} (h:b≠g):(w.setCell ⟨g,o,none⟩ v).cell? ⟨b,0,none⟩=w.cell? ⟨b,0,none⟩:=
 World.cell?_of_block (heap_setCell_other w ⟨g,o,none⟩ b v (fun e=>h e))
theorem iJ {d:List Fv} {j:Nat} {x:Fv} {p:Fv→Bool} (h:d[j]?=some x):(d.take (j+1)).filter p=(d.take j).filter p++(if p x then [x] else []):=by
 rw[List.take_add_one,h,List.filter_append];cases hp:p x<;>simp[hp]
set_option maxHeartbeats 4000000 in
theorem Un (w0 w:World) (d:List Fv) (l:List Fi) (g cap:Nat) (s:ByteArray) (b:Nat)
  (hown:w.ownsRow w0.heap.size 122 3 (.slice (some ⟨g,0,none⟩) d.length cap) d.length (aA d))
  (hl:iX w (.slice (some ⟨g,0,none⟩) d.length cap) l) (hlen:l.length=d.length) (hnm:∀(j:Nat) (f:Fi) (x:Fv),l[j]?=some f→d[j]?=some x→f.nm=x.1)
  (hb:w.cell? ⟨b,0,none⟩=some (.string s)) (hbg:b≠g) (hS:Since w0 w) (hn:d.length≤1000) :
  Calls Tryz.prog 120 #[.slice (some ⟨g,0,none⟩) d.length cap,.func (.func 137) #[] #[.pointer (some ⟨b,0,none⟩)]] w fun e w'=>∃i,i=(d.filter (aR s)).length∧e=.returned (.slice (some ⟨g,0,none⟩) i cap)∧w'.ownsRow w0.heap.size 122 3 (.slice (some ⟨g,0,none⟩) i cap) i (aA (d.filter (aR s)))∧Since w0 w':=by
 have hidx:=vR l _ s b w hl hb (by omega);have hcap:d.length≤cap:=by
  rcases hown.2 with⟨h',_⟩ | ⟨g',cap',cur,h',_,_,hnc,_⟩
  ·simp at h'
  simp only[Value.slice.injEq,Option.some.injEq,Addr.mk.injEq,and_true,true_and] at h';obtain⟨_,rfl⟩:=h';exact hnc
 have hbase:w0.heap.size≤g:=(hown.lt g rfl).1;have HX:Hid (Calls Tryz.prog 85 #[.slice (some ⟨g,0,none⟩) d.length cap,.func (.func 137) #[] #[.pointer (some ⟨b,0,none⟩)]] w fun e w'=>(∃i:Int,e=.returned (.int .i64 i)∧((∃k:Nat,i=k∧k<l.length∧(∃f,l[k]?=some f∧f.nm=s)∧∀j f,j<k→l[j]?=some f→¬f.nm=s)∨(i=-1∧∀f ∈ l,¬f.nm=s)))∧Since w w'):=hidx;have HW:Hid (w.ownsRow w0.heap.size 122 3 (.slice (some ⟨g,0,none⟩) d.length cap) d.length (aA d)∧(l.length=d.length∧∀(j:Nat) (f:Fi) (x:Fv),l[j]?=some f→d[j]?=some x→f.nm=x.1)∧(w.cell? ⟨b,0,none⟩=some (.string s)∧b≠g)∧Since w0 w):=⟨hown,⟨hlen,hnm⟩,⟨hb,hbg⟩,hS⟩
 have Zo:=nM;clear hidx hown hl hnm hb hS;go_enter Tryz.func120,Tryz.ntmps120
 go_wp2_with fail
 refine HX.out.mono ?_;rintro e w1 ⟨⟨i,rfl,hi⟩,h1⟩;have Jz:Hid (w1.ownsRow w0.heap.size 122 3 (.slice (some ⟨g,0,none⟩) d.length cap) d.length (aA d)):=En.bi HW.out.1 h1;have bY:Hid (Since w0 w1):=HW.out.2.2.2.trans h1;have HB1:Hid (w1.cell? ⟨b,0,none⟩=some (.string s)):=(h1.cell (p:=⟨b,0,none⟩) (World.block_lt_of_cell? w _ HW.out.2.2.1.1)).trans HW.out.2.2.1.1;clear h1;rcases hi with⟨k,rfl,hk,⟨f,hf,hfs⟩,hno⟩ | ⟨rfl,hno⟩
 ·have hne:((k:Int)==-1)=false:=beq_false_of_ne (by omega);have HST:Hid (XU w0 w1 d g cap b s k (k+1) d):=by
   refine⟨by omega,by omega,rfl,?_,rfl,Jz.out,bY.out,HB1.out⟩;have hkd:k<d.length:=by omega
   have hx:d[k]?=some d[k]:=List.getElem?_eq_getElem hkd;have hkk:aR s d[k]=false:=by
    unfold aR;rw[←HW.out.2.1.2 k f _ hf hx,hfs];simp
   rw[iJ hx,hkk];have hall:(d.take k).filter (aR s)=d.take k:=by
    refine List.filter_eq_self.2 fun y hy=>?_
    obtain⟨t,ht,rfl⟩:=List.getElem_of_mem hy;have htk:t<k:=by rw[List.length_take] at ht;omega
    have hlt:t<l.length:=by omega
    have h1:=hno t l[t] htk (List.getElem?_eq_getElem hlt);have h2:=HW.out.2.1.2 t l[t] d[t] (List.getElem?_eq_getElem hlt) (List.getElem?_eq_getElem (by omega));unfold aR;rw[List.getElem_take,←h2];simp[h1]
   rw[hall];simp
  clear hf hfs hno;go_wp2_with fail
  go_loopw [5,6] (fun iv jv wr=>∃(i j:Nat) (D:List Fv),iv=.int .i64 i∧jv=.int .i64 j∧XU w0 wr d g cap b s i j D) (fun _ jv _=>d.length-(intOf jv).toNat)
  case atStart=>exact⟨k,k+1,d,rfl,by go_num,HST.out⟩
  obtain⟨i,j,D,rfl,rfl,hD⟩:=hrel;have HD:Hid (XU w0 wr d g cap b s i j D):=hD;have hij:=hD.lt;have hjn:=hD.le;clear hD hne HST;by_cases hlt:j<d.length
  ·have hlt2:(j:Int)<d.length:=by omega
   have hxe:D[j]?=some d[j]:=by
    have h1:(D.drop j)[0]?=(d.drop j)[0]?:=by rw[HD.out.high]
    rw[List.getElem?_drop,List.getElem?_drop,Nat.add_zero] at h1;rw[h1];exact List.getElem?_eq_getElem hlt
   have hde:Hid (d[j]?=some d[j]):=List.getElem?_eq_getElem hlt;generalize d[j]=x at *;have HXE:Hid (D[j]?=some x):=hxe;obtain⟨nm,sz,a,n1,c1⟩:=x;obtain⟨p0,p1,p2⟩:=kY HD.out.own hxe hlt;clear hxe;simp only at p0 p1 p2;have hcl:=uP ⟨nm,sz,[]⟩ a n1 c1 s b (wr.alloc (.cells #[.string nm,.int .i64 sz,.slice a n1 c1] 122)) ((((Since.refl wr).alloc _).cell (p:=⟨b,0,none⟩) (World.block_lt_of_cell? wr _ HD.out.box)).trans HD.out.box);have Ug:Hid (Calls Tryz.prog 137 #[.agg #[.string nm,.int .i64 sz,.slice a n1 c1],.pointer (some ⟨b,0,none⟩)] (wr.alloc (.cells #[.string nm,.int .i64 sz,.slice a n1 c1] 122)) fun e w'=>e=.returned (.bool (decide (nm=s)))∧Since (wr.alloc (.cells #[.string nm,.int .i64 sz,.slice a n1 c1] 122)) w'):=hcl;clear hcl;go_wp2_with fail
   refine Ug.out.mono ?_;rintro e w2 ⟨rfl,h2⟩;have hs2:Since wr w2:=((Since.refl wr).alloc _).trans h2;have Nz:Hid (w2.ownsRow w0.heap.size 122 3 (.slice (some ⟨g,0,none⟩) d.length cap) d.length (aA D)):=En.bi HD.out.own hs2;have HS2:Hid (Since w0 w2):=HD.out.since.trans hs2;have HB2:Hid (w2.cell? ⟨b,0,none⟩=some (.string s)):=(hs2.cell (p:=⟨b,0,none⟩) (World.block_lt_of_cell? wr _ HD.out.box)).trans HD.out.box;have nb:=heap_alloc_new wr (.cells #[.string nm,.int .i64 sz,.slice a n1 c1] 122);have nb2:w2.heap[wr.heap.size]?=some (.cells #[.string nm,.int .i64 sz,.slice a n1 c1] 122):=(h2.block _ (by simp)).trans nb;have q0:w2.cell? ⟨wr.heap.size,0,none⟩=some (.string nm):=by simp[World.cell?,nb2]
   have q1:w2.cell? ⟨wr.heap.size,1,none⟩=some (.int .i64 sz):=by simp[World.cell?,nb2]
   have q2:w2.cell? ⟨wr.heap.size,2,none⟩=some (.slice a n1 c1):=by simp[World.cell?,nb2]
   have hgl:g<wr.heap.size:=(HD.out.own.lt g rfl).2;clear nb nb2 hs2 h2 p0 p1 p2;by_cases e:nm=s
   ·have hd:decide (nm=s)=true:=decide_eq_true e;have hke:aR s (nm,sz,a,n1,c1)=false:=by unfold aR;simp[e]
    have XQ:Hid (aR s (nm,sz,a,n1,c1)=false):=hke;clear hke;rw[hd];clear e hd;go_wp2_with fail
    go_roundw
    case rel=>
     refine⟨i,j+1,D,rfl,by go_num,⟨by omega,by omega,HD.out.len,?_,?_,Nz.out,HS2.out,HB2.out⟩⟩
     ·rw[HD.out.low,iJ hde.out,XQ.out];simp
     rw[←List.drop_drop,HD.out.high,List.drop_drop]
    case measure=>simp[intOf];omega
   have hd:decide (nm=s)=false:=decide_eq_false e;have hke:aR s (nm,sz,a,n1,c1)=true:=by unfold aR;simp[e]
   have XQ:Hid (aR s (nm,sz,a,n1,c1)=true):=hke;clear hke;rw[hd];clear e hd;have hil:i<D.length:=by rw[HD.out.len];omega
   obtain⟨r0,r1,r2⟩:=kY Nz.out (List.getElem?_eq_getElem hil) (by omega);have f0:=Nz.out.frozenAt (i*3);have f1:=Nz.out.frozenAt (i*3+1);have f2:=Nz.out.frozenAt (i*3+2);have HP:Hid ((((w2.setCell ⟨g,i*3,none⟩ (.string nm)).setCell ⟨g,i*3+1,none⟩ (.int .i64 sz)).setCell ⟨g,i*3+2,none⟩ (.slice a n1 c1)).ownsRow w0.heap.size 122 3 (.slice (some ⟨g,0,none⟩) d.length cap) d.length (aA (D.set i (nm,sz,a,n1,c1)))):=Um Nz.out i (nm,sz,a,n1,c1);have HPS:Hid (Since w0 (((w2.setCell ⟨g,i*3,none⟩ (.string nm)).setCell ⟨g,i*3+1,none⟩ (.int .i64 sz)).setCell ⟨g,i*3+2,none⟩ (.slice a n1 c1))):=((HS2.out.setCell (p:=⟨g,i*3,none⟩) hbase _).setCell (p:=⟨g,i*3+1,none⟩) hbase _).setCell (p:=⟨g,i*3+2,none⟩) hbase _;have HPB:Hid ((((w2.setCell ⟨g,i*3,none⟩ (.string nm)).setCell ⟨g,i*3+1,none⟩ (.int .i64 sz)).setCell ⟨g,i*3+2,none⟩ (.slice a n1 c1)).cell? ⟨b,0,none⟩=some (.string s)):=by
    rw[iI _ _ _ _ hbg,iI _ _ _ _ hbg,iI _ _ _ _ hbg];exact HB2.out
   go_wp2_with fail
   refine⟨⟨i+1,j+1,D.set i (nm,sz,a,n1,c1),by go_num,by go_num,⟨by omega,by omega,by rw[List.length_set];exact HD.out.len,?_,?_,HP.out,HPS.out,HPB.out⟩⟩,by simp[intOf];omega⟩
   ·rw[iJ hde.out,XQ.out,←HD.out.low,List.take_add_one,List.take_set_of_le (Nat.le_refl i),List.getElem?_set_self hil];simp
   rw[List.drop_set_of_lt (by omega),←List.drop_drop,HD.out.high,List.drop_drop]
  have Wv:j=d.length:=by omega
  subst Wv;obtain⟨Z,hZ⟩:=LX wr 0 g (i*3) (d.length-i) (cap-i) (fun t ht=>by
   rw[HD.out.own.cellAt (i*3+t) (by omega),Option.isSome_iff_exists];exact⟨_,List.getElem?_eq_getElem (by rw[iH,HD.out.len];omega)⟩) (fun t ht=>HD.out.own.frozenAt (i*3+t))
  have hDi:(D.take i).length=i:=by rw[List.length_take,HD.out.len];omega
  have hlow:D.take i=d.filter (aR s):=by rw[HD.out.low,List.take_length]
  have hfin:(wr.setCells g (i*3) Z).ownsRow w0.heap.size 122 3 (.slice (some ⟨g,0,none⟩) i cap) i (aA (d.filter (aR s))):=by
   have h1:=Ul HD.out.own (i:=i) (by omega);rw[uQ,hlow] at h1;exact Ew Z wr (i*3) (by rw[iH,←hlow,hDi];exact Nat.le_refl _) h1
  have HF:Hid ((wr.setCells g (i*3) Z).ownsRow w0.heap.size 122 3 (.slice (some ⟨g,0,none⟩) i cap) i (aA (d.filter (aR s)))∧Since w0 (wr.setCells g (i*3) Z)∧i=(d.filter (aR s)).length):=⟨hfin,xY hbase Z wr (i*3) HD.out.since,by rw[←hlow,hDi]⟩
  clear hfin hlow hDi;have hic:i≤cap:=by omega
  generalize wr.setCells g (i*3) Z=w5 at *;go_wp2_with fail
  go_ret;exact⟨i,HF.out.2.2,rfl,HF.out.1,HF.out.2.1⟩
 have hne:((-1:Int)==-1)=true:=rfl;have hall:d.filter (aR s)=d:=by
  refine List.filter_eq_self.2 fun y hy=>?_
  obtain⟨t,ht,rfl⟩:=List.getElem_of_mem hy;have hlt:t<l.length:=by omega
  have h1:=hno l[t] (List.getElem_mem hlt);have h2:=HW.out.2.1.2 t l[t] d[t] (List.getElem?_eq_getElem hlt) (List.getElem?_eq_getElem ht);unfold aR;rw[←h2];simp[h1]
 have Uo:Hid (d.filter (aR s)=d):=hall;clear hall hno;go_wp2_with fail
 go_ret;refine⟨d.length,by rw[Uo.out],rfl,?_,bY.out⟩;rw[Uo.out];exact Jz.out
end Fl
end Go.Proofs.YtmhcfaaggkidjaaGreatDoor
end
section
namespace Go.Proofs.YtmhcfaaggkidjaaGreatDoor
set_option maxRecDepth 100000
namespace Fl
open Go.RowKit Go.Sort Go.Shelf
open En (Fi iX Ints fZ Row)
open Vl (Fs VP bg bF Vs)
structure Each (P:Nat→Prop) (w:World) (d:List Fv) (l:List Fi):Prop where
 len:l.length=d.length
 each:∀(j:Nat) (f:Fi) (x:Fv),l[j]?=some f→d[j]?=some x→f.nm=x.1∧f.sz=x.2.1∧Ints w (.slice x.2.2.1 x.2.2.2.1 x.2.2.2.2) f.cs∧∀k o,x.2.2.1=some ⟨k,o,none⟩→k<w.heap.size∧¬P k
theorem rY {P:Nat→Prop} {w w':World} {a:Option Addr} {n c:Nat} {cs:List Int} (h:Ints w (.slice a n c) cs) (hf:Fs P w w') (hp:∀k o,a=some ⟨k,o,none⟩→k<w.heap.size∧¬P k):Ints w' (.slice a n c) cs:=by
 obtain⟨a1,c1,hv,hc,h⟩:=h;refine⟨a1,c1,hv,hc,fun hn=>?_⟩;obtain⟨k,o,ha,hk,hcell⟩:=h hn;injection hv with e1 e2 e3
 have hk2:=hp k o (e1.trans ha);exact⟨k,o,ha,Nat.lt_of_lt_of_le hk hf.size,fun j x hj=>(hf.cell (p:=⟨k,o+j,none⟩) hk hk2.2).trans (hcell j x hj)⟩
theorem Each.fs {P P':Nat→Prop} {w w':World} {d:List Fv} {l:List Fi} (h:Each P w d l) (hf:Fs P w w') (hp:∀k,k<w.heap.size→¬P k→¬P' k):Each P' w' d l:=by
 refine⟨h.len,fun j f x hj hx=>?_⟩;obtain⟨h1,h2,h3,h4⟩:=h.each j f x hj hx;exact⟨h1,h2,rY h3 hf h4,fun k o e=>⟨Nat.lt_of_lt_of_le (h4 k o e).1 hf.size,hp k (h4 k o e).1 (h4 k o e).2⟩⟩
theorem Each.since {P:Nat→Prop} {w w':World} {d:List Fv} {l:List Fi} (h:Each P w d l) (hs:Since w w'):Each P w' d l:=h.fs (Fs.ah hs) (fun _ _ h=>h)
theorem Each.LP {P:Nat→Prop} {w:World} {d:List Fv} {l:List Fi} {base g cap:Nat} (h:Each P w d l) (ho:w.ownsRow base 122 3 (.slice (some ⟨g,0,none⟩) d.length cap) d.length (aA d)):iX w (.slice (some ⟨g,0,none⟩) d.length cap) l:=by
 have hcap:d.length≤cap:=by
  rcases ho.2 with⟨h',_⟩ | ⟨g',cap',cur,h',_,_,hnc,_⟩
  ·simp at h'
  simp only[Value.slice.injEq,Option.some.injEq,Addr.mk.injEq,and_true,true_and] at h';obtain⟨_,rfl⟩:=h';exact hnc
 refine⟨some ⟨g,0,none⟩,cap,by rw[h.len],by rw[h.len];exact hcap,fun _=>⟨g,0,rfl,(ho.lt g rfl).2,fun j f hj=>?_⟩⟩;have hjl:j<d.length:=by rw[←h.len];exact(List.getElem?_eq_some_iff.1 hj).1
 obtain⟨h1,h2,h3,h4⟩:=h.each j f d[j] hj (List.getElem?_eq_getElem hjl);obtain⟨c0,c1,c2⟩:=kY ho (List.getElem?_eq_getElem hjl) hjl;refine⟨_,h3,?_,?_,?_⟩
 ·rw[Nat.zero_add,c0,h1]
 ·rw[Nat.zero_add,c1,h2]
 rw[Nat.zero_add,c2]
theorem XV {w:World} {base:Nat} {v:Value} {d:List Fv} (ho:w.ownsRow base 122 3 v d.length (aA d)):Sr w v d:=by
 rcases ho.2 with⟨h',h0⟩ | ⟨g',cap',cur,h',hb,hg,hnc,_⟩
 ·exact .inl ⟨List.length_eq_zero_iff.1 h0,0,h'⟩
 subst h';refine .inr ⟨g',0,cap',rfl,hnc,fun j u hj=>?_⟩;rw[Nat.zero_add,ho.cellAt j (by rw[←iH];exact(List.getElem?_eq_some_iff.1 hj).1)];exact hj
theorem Each.filter {P:Nat→Prop} {w:World} (s:ByteArray):∀{d:List Fv} {l:List Fi},Each P w d l→Each P w (d.filter (aR s)) (l.filter (fun f=>!decide (f.nm=s)))
 | [],l,h=>by
  have:l=[]:=List.length_eq_zero_iff.1 h.len;subst this;exact h
 | x::r,[],h=>by have:=h.len;simp at this
 | x::r,f::q,h=>by
  have hr:Each P w r q:=⟨by have:=h.len;simpa using this,fun j g y hj hy=>h.each (j+1) g y (by simpa using hj) (by simpa using hy)⟩
  have ih:=Each.filter s hr;have h0:=h.each 0 f x rfl rfl;have e:(!decide (f.nm=s))=aR s x:=by unfold aR;rw[h0.1]
  cases hk:aR s x with
  | false=>
   rw[hk] at e;rw[List.filter_cons_of_neg (by rw[hk];decide),List.filter_cons_of_neg (by rw[e];decide)];exact ih
  | true=>
   rw[hk] at e;rw[List.filter_cons_of_pos (by rw[hk]),List.filter_cons_of_pos (by rw[e])];refine⟨by simp[ih.len],fun j g y hj hy=>?_⟩;cases j with
   | zero=>
    simp at hj hy;subst hj hy;exact h0
   | succ j=>exact ih.each j g y (by simpa using hj) (by simpa using hy)
theorem Uq (w:World) (s:ByteArray) (b:Nat) (hb:w.cell? ⟨b,0,none⟩=some (.string s)):Calls Tryz.prog 120 #[.slice none 0 0,.func (.func 137) #[] #[.pointer (some ⟨b,0,none⟩)]] w fun e w'=>e=.returned (.slice none 0 0)∧Since w w':=by
 have hidx:=vR [] (.slice none 0 0) s b w ⟨none,0,rfl,Nat.le_refl _,fun h=>by simp at h⟩ hb (by simp);have HX:Hid (Calls Tryz.prog 85 #[.slice none 0 0,.func (.func 137) #[] #[.pointer (some ⟨b,0,none⟩)]] w fun e w'=>(∃i:Int,e=.returned (.int .i64 i)∧((∃k:Nat,i=k∧k<([]:List Fi).length∧(∃f,([]:List Fi)[k]?=some f∧f.nm=s)∧∀j f,j<k→([]:List Fi)[j]?=some f→¬f.nm=s)∨(i=-1∧∀f ∈ ([]:List Fi),¬f.nm=s)))∧Since w w'):=hidx;clear hidx hb;go_enter Tryz.func120,Tryz.ntmps120
 go_wp2_with fail
 refine HX.out.mono ?_;rintro e w1 ⟨⟨i,rfl,hi⟩,h1⟩;rcases hi with⟨k,rfl,hk,_⟩ | ⟨rfl,hno⟩
 ·simp at hk
 have HS:Hid (Since w w1):=h1;clear h1 hno;go_wp2_with fail
 go_ret;exact⟨rfl,HS.out⟩
set_option maxHeartbeats 2000000 in
theorem uR (P:Nat→Prop) (w:World) (fb:Nat) (lv:Value) (d:List Fv) (l:List Fi) (s:ByteArray) (h1:w.cell? ⟨fb,1,none⟩=some lv) (hs:Sr w lv d) (he:Each P w d l) (hn:d.length≤1000) :
  Calls Tryz.prog 67 #[.pointer (some ⟨fb,0,none⟩),.string s] w fun e w'=>∃v',e=.returned v'∧w'.ownsRow w.heap.size 122 3 v' (d.filter (aR s)).length (aA (d.filter (aR s)))∧Since w w'∧(v'=.slice none 0 0→d=[]):=by
 have HC:Hid (Calls Tryz.prog 121 #[lv] w fun e w'=>∃v',e=.returned v'∧w'.ownsRow w.heap.size 122 3 v' d.length (aA d)∧Since w w'):=ed lv d w hs hn;have HE:Hid (Each P w d l):=he;have HN:Hid (d.length≤1000):=hn;obtain⟨la,ln,lc,rfl⟩:∃a n c,lv=.slice a n c:=by
  rcases hs with⟨_,c,rfl⟩ | ⟨k,o,c,rfl,_⟩
  ·exact⟨_,_,_,rfl⟩
  exact⟨_,_,_,rfl⟩
 clear hs he hn;go_enter Tryz.func67,Tryz.ntmps67
 go_wp2_with fail
 refine HC.out.mono ?_;rintro e w1 ⟨v1,rfl,ho,hs1⟩;have hbx:(w1.alloc (.cells #[.string s] 9)).cell? ⟨w1.heap.size,0,none⟩=some (.string s):=by
  have Qa:∀W:World,W.heap[w1.heap.size]?=some (.cells #[.string s] 9)→W.cell? ⟨w1.heap.size,0,none⟩=some (.string s):=fun W hW=>by simp[World.cell?,hW]
  exact Qa _ (heap_alloc_new w1 _)
 have hs2:Since w1 (w1.alloc (.cells #[.string s] 9)):=(Since.refl w1).alloc _;rcases ho.2 with⟨h',h0⟩ | ⟨g,cap,cur,h',hb,hg,hnc,_⟩
 ·subst h';have hd0:=List.length_eq_zero_iff.1 h0;have HD0:Hid (d=[]):=hd0;have HDL:Hid (Calls Tryz.prog 120 #[.slice none 0 0,.func (.func 137) #[] #[.pointer (some ⟨w1.heap.size,0,none⟩)]] (w1.alloc (.cells #[.string s] 9)) fun e w'=>e=.returned (.slice none 0 0)∧Since (w1.alloc (.cells #[.string s] 9)) w'):=Uq _ s w1.heap.size hbx;have HS2:Hid (Since w (w1.alloc (.cells #[.string s] 9))):=hs1.trans hs2;clear ho h0 hd0 hbx hs1 hs2;go_wp2_with fail
  refine(lW s w1).mono ?_;rintro e w2 ⟨rfl,rfl⟩;go_wp2_with fail
  refine HDL.out.mono ?_;rintro e w3 ⟨rfl,hs3⟩;have iw:Hid (Since w w3):=HS2.out.trans hs3;clear hs3;go_wp2_with fail
  go_ret;refine⟨_,rfl,?_,iw.out,fun _=>HD0.out⟩;rw[HD0.out];exact World.ownsRow_nil _ _ _ _
 subst h';have hgl:g<w1.heap.size:=(ho.lt g rfl).2;have ho2:=En.bi ho hs2;have he2:=(HE.out.since hs1).since hs2;have HDL:Hid (Calls Tryz.prog 120 #[.slice (some ⟨g,0,none⟩) d.length cap,.func (.func 137) #[] #[.pointer (some ⟨w1.heap.size,0,none⟩)]] (w1.alloc (.cells #[.string s] 9)) fun e w'=>∃i,i=(d.filter (aR s)).length∧e=.returned (.slice (some ⟨g,0,none⟩) i cap)∧w'.ownsRow w.heap.size 122 3 (.slice (some ⟨g,0,none⟩) i cap) i (aA (d.filter (aR s)))∧Since w w'):=
  Un w _ d l g cap s w1.heap.size ho2 (he2.LP ho2) HE.out.len (fun j f x hj hx=>(HE.out.each j f x hj hx).1) hbx (by omega) (hs1.trans hs2) HN.out
 clear ho hbx hs1 hs2 he2 ho2 hb hg hnc hgl;go_wp2_with fail
 refine(lW s w1).mono ?_;rintro e w2 ⟨rfl,rfl⟩;go_wp2_with fail
 refine HDL.out.mono ?_;rintro e w3 ⟨i,hi,rfl,ho3,hs3⟩;have HF:Hid (i=(d.filter (aR s)).length∧w3.ownsRow w.heap.size 122 3 (.slice (some ⟨g,0,none⟩) i cap) i (aA (d.filter (aR s)))∧Since w w3):=⟨hi,ho3,hs3⟩
 clear hi ho3 hs3;go_wp2_with fail
 go_ret;refine⟨_,rfl,?_,HF.out.2.2,fun e=>by simp at e⟩;have:=HF.out.2.1;rw[HF.out.1] at this ⊢;exact this
end Fl
end Go.Proofs.YtmhcfaaggkidjaaGreatDoor
end
section
namespace Go.Proofs.YtmhcfaaggkidjaaGreatDoor
set_option maxRecDepth 100000
namespace Fl
open Go.RowKit Go.Sort Go.Shelf
open En (Fi iX Ints fZ Row)
open Vl
theorem BO {P:Nat→Prop} {w0 w w':World} {vb db cb:Nat} {kb kt:ByteArray} {S:Vs} {v:Value} (h:bg w0 w vb db cb kb kt S v) (hf:Fs P w w') (hP:∀k,P k→w0.heap.size≤k) (hn:∀k,VP vb db cb v k→¬P k):bg w0 w' vb db cb kb kt S v:=
 ⟨iT h.bL hf (hn _ (.inl rfl)),Cu h.dev hf (hn _ (.inr (.inl rfl))) (fun k hk=>hn k (.inr (.inr (.inr hk)))),iT h.sQ hf (hn _ (.inr (.inr (.inl rfl)))),h.ne,h.own,h.ty.blk (hf.block vb h.ty.lt (hn _ (.inl rfl))),hf.since h.since hP,h.lo⟩
theorem Each.cons {P:Nat→Prop} {w:World} {x:Fv} {d:List Fv} {f:Fi} {l:List Fi} (h0:f.nm=x.1∧f.sz=x.2.1∧Ints w (.slice x.2.2.1 x.2.2.2.1 x.2.2.2.2) f.cs∧∀k o,x.2.2.1=some ⟨k,o,none⟩→k<w.heap.size∧¬P k) (h:Each P w d l):Each P w (x::d) (f::l):=by
 refine⟨by simp[h.len],fun j g y hj hy=>?_⟩;cases j with
 | zero=>
  simp at hj hy;subst hj hy;exact h0
 | succ j=>exact h.each j g y (by simpa using hj) (by simpa using hy)
theorem Each.tail {P:Nat→Prop} {w:World} {x:Fv} {d:List Fv} {f:Fi} {l:List Fi} (h:Each P w (x::d) (f::l)):Each P w d l:=⟨by have:=h.len;simpa using this,fun j g y hj hy=>h.each (j+1) g y (by simpa using hj) (by simpa using hy)⟩
theorem Each.head {P:Nat→Prop} {w:World} {x:Fv} {d:List Fv} {f:Fi} {l:List Fi} (h:Each P w (x::d) (f::l)):f.nm=x.1∧f.sz=x.2.1∧Ints w (.slice x.2.2.1 x.2.2.2.1 x.2.2.2.2) f.cs∧∀k o,x.2.2.1=some ⟨k,o,none⟩→k<w.heap.size∧¬P k:=h.each 0 f x rfl rfl
theorem Each.more {P:Nat→Prop} {w:World} {x:Fv} {d:List Fv} {l:List Fi} (h:Each P w (x::d) l):∃f q,l=f::q:=by
 cases l with
 | nil=>have:=h.len;simp at this
 | cons f q=>exact⟨f,q,rfl⟩
theorem Each.perm {P:Nat→Prop} {w:World} {d d':List Fv} (hp:d.Perm d'):∀{l:List Fi},Each P w d l→∃l',l.Perm l'∧Each P w d' l':=by
 induction hp with
 | nil=>exact fun h=>⟨_,List.Perm.refl _,h⟩
 | cons x _ ih=>
  intro l h;obtain⟨f,q,rfl⟩:=h.more;obtain⟨q',h1,h2⟩:=ih h.tail;exact⟨f::q',h1.cons f,h2.cons h.head⟩
 | swap x y r=>
  intro l h;obtain⟨f,q,rfl⟩:=h.more;obtain⟨g,q,rfl⟩:=h.tail.more;exact⟨g::f::q,List.Perm.swap g f q,(h.tail.tail.cons h.head).cons h.tail.head⟩
 | trans _ _ ih1 ih2=>
  intro l h;obtain⟨l1,p1,h1⟩:=ih1 h;obtain⟨l2,p2,h2⟩:=ih2 h1;exact⟨l2,p1.trans p2,h2⟩
theorem Each.append {P:Nat→Prop} {w:World} {x:Fv} {f:Fi} (h0:f.nm=x.1∧f.sz=x.2.1∧Ints w (.slice x.2.2.1 x.2.2.2.1 x.2.2.2.2) f.cs∧∀k o,x.2.2.1=some ⟨k,o,none⟩→k<w.heap.size∧¬P k):∀{d:List Fv} {l:List Fi},Each P w d l→Each P w (d++[x]) (l++[f])
 | [],[],h=>h.cons h0
 | [],g::q,h=>by have:=h.len;simp at this
 | y::r,[],h=>by have:=h.len;simp at this
 | y::r,g::q,h=>(Each.append h0 h.tail).cons h.head
def gH (l:List Fi):Prop:=l.Pairwise (fun f g=>Op.bytesLess g.nm.toList f.nm.toList=false)
theorem Ur {P:Nat→Prop} {w:World} {d:Array Fv} {l:List Fi} (hs:SortedIn (ltOf PY) 0 d.size d) (he:Each P w d.toList l):gH l:=by
 refine List.pairwise_iff_getElem.2 fun i j hi hj hij=>?_
 have hl:l.length=d.size:=by rw[he.len,Array.length_toList]
 have h:=hs i j (Nat.zero_le _) hij (by omega);have ei:=(he.each i l[i] d[i] (List.getElem?_eq_getElem hi) (by rw[Array.getElem?_toList];exact Array.getElem?_eq_getElem (by omega))).1;have ej:=(he.each j l[j] d[j] (List.getElem?_eq_getElem hj) (by rw[Array.getElem?_toList];exact Array.getElem?_eq_getElem (by omega))).1;rw[getElem!_pos d i (by omega),getElem!_pos d j (by omega),ltF] at h;rw[ei,ej,bytesLess_eq];exact h
structure Fm (w0 w:World) (fb vb db cb:Nat) (kb kt:ByteArray) (S:Vs) (v lv:Value) (d:List Fv) (l:List Fi):Prop where
 rZ:bg w0 w vb db cb kb kt S v
 c0:w.cell? ⟨fb,0,none⟩=some (.pointer (some ⟨vb,0,none⟩))
 c1:w.cell? ⟨fb,1,none⟩=some lv
 fz:w.frozen? ⟨fb,1,none⟩=false
 lo:w0.heap.size≤fb
 NA:¬VP vb db cb v fb
 sr:Sr w lv d
 blk:∀k o n c,lv=.slice (some ⟨k,o,none⟩) n c→k<w.heap.size∧¬(k=fb∨VP vb db cb v k)
 each:Each (fun k=>k=fb∨VP vb db cb v k) w d l
 ty:Ty w fb 114
theorem Sr.fs {P:Nat→Prop} {w w':World} {v:Value} {d:List Fv} (h:Sr w v d) (hf:Fs P w w') (hb:∀k o n c,v=.slice (some ⟨k,o,none⟩) n c→k<w.heap.size∧¬P k):Sr w' v d:=by
 rcases h with h | ⟨k,o,c,rfl,hc,hcell⟩
 ·exact .inl h
 exact .inr ⟨k,o,c,rfl,hc,fun j u hj=>(hf.cell (p:=⟨k,o+j,none⟩) (hb k o _ _ rfl).1 (hb k o _ _ rfl).2).trans (hcell j u hj)⟩
section
variable {w0 w w':World} {fb vb db cb:Nat} {kb kt:ByteArray} {S:Vs} {v lv:Value} {d:List Fv} {l:List Fi}
theorem Fm.fs {P:Nat→Prop} (h:Fm w0 w fb vb db cb kb kt S v lv d l) (hf:Fs P w w') (hP:∀k,P k→w0.heap.size≤k) (hn:∀k,k<w.heap.size→P k→k≠fb∧¬VP vb db cb v k) (hb:∀k o n c,lv=.slice (some ⟨k,o,none⟩) n c→¬P k) (he:∀(j:Nat) (x:Fv),d[j]?=some x→∀k o,x.2.2.1=some ⟨k,o,none⟩→¬P k):Fm w0 w' fb vb db cb kb kt S v lv d l:=by
 have hfl:fb<w.heap.size:=World.block_lt_of_cell? w _ h.c0;have hfp:¬P fb:=fun hp=>(hn fb hfl hp).1 rfl
 have hvl:∀k,VP vb db cb v k→k<w.heap.size:=fun k hk=>by
  rcases Nat.lt_or_ge k w.heap.size with h1 | h1
  ·exact h1
  exact absurd hk (h.rZ.rH h1)
 have hvp:∀k,VP vb db cb v k→¬P k:=fun k hk hp=>(hn k (hvl k hk) hp).2 hk
 refine⟨BO h.rZ hf hP hvp,(hf.cell hfl hfp).trans h.c0,(hf.cell hfl hfp).trans h.c1,(hf.frozen hfl hfp).trans h.fz,h.lo,h.NA,h.sr.fs hf (fun k o n c e=>⟨(h.blk k o n c e).1,hb k o n c e⟩),fun k o n c e=>⟨Nat.lt_of_lt_of_le (h.blk k o n c e).1 hf.size,(h.blk k o n c e).2⟩,⟨h.each.len,fun j f x hj hx=>?_⟩,h.ty.blk (hf.block fb hfl hfp)⟩;obtain⟨h1,h2,h3,h4⟩:=h.each.each j f x hj hx;exact⟨h1,h2,rY h3 hf (fun k o e=>⟨(h4 k o e).1,he j x hx k o e⟩),fun k o e=>⟨Nat.lt_of_lt_of_le (h4 k o e).1 hf.size,(h4 k o e).2⟩⟩
theorem Fm.since (h:Fm w0 w fb vb db cb kb kt S v lv d l) (hs:Since w w'):Fm w0 w' fb vb db cb kb kt S v lv d l:=
 h.fs (P:=fun _=>False) (Fs.ah hs) (fun _ h=>h.elim) (fun _ _ h=>h.elim) (fun _ _ _ _ _ h=>h) (fun _ _ _ _ _ _ h=>h)
theorem Fm.XW {S':Vs} (h:Fm w0 w fb vb db cb kb kt S v lv d l) (ht:bF w0 w w' vb db cb kb kt S' v):∃v',Fm w0 w' fb vb db cb kb kt S' v' lv d l∧Fs (VP vb db cb v) w w'∧∀k,k<w.heap.size→¬VP vb db cb v k→¬VP vb db cb v' k:=by
 obtain⟨v',hv,hf,hx⟩:=ht;have hfl:fb<w.heap.size:=World.block_lt_of_cell? w _ h.c0;have hnx:∀k,k<w.heap.size→¬VP vb db cb v k→¬VP vb db cb v' k:=fun k hk hn h'=>by
  rcases VP.nx hx k h' with h1 | h1
  ·exact hn h1
  omega
 refine⟨v',⟨hv,(hf.cell hfl h.NA).trans h.c0,(hf.cell hfl h.NA).trans h.c1,(hf.frozen hfl h.NA).trans h.fz,h.lo,hnx fb hfl h.NA,h.sr.fs hf (fun k o n c e=>⟨(h.blk k o n c e).1,fun hp=>(h.blk k o n c e).2 (.inr hp)⟩),fun k o n c e=>⟨Nat.lt_of_lt_of_le (h.blk k o n c e).1 hf.size,?_⟩,⟨h.each.len,fun j f x hj hx=>?_⟩,h.ty.blk (hf.block fb hfl h.NA)⟩,hf,hnx⟩
 ·obtain⟨h1,h2⟩:=h.blk k o n c e;exact fun hp=>hp.elim (fun e=>h2 (.inl e)) (hnx k h1 (fun h'=>h2 (.inr h')))
 obtain⟨h1,h2,h3,h4⟩:=h.each.each j f x hj hx;exact⟨h1,h2,rY h3 hf (fun k o e=>⟨(h4 k o e).1,fun hp=>(h4 k o e).2 (.inr hp)⟩),fun k o e=>⟨Nat.lt_of_lt_of_le (h4 k o e).1 hf.size,fun hp=>hp.elim (fun e'=>(h4 k o e).2 (.inl e')) (hnx k (h4 k o e).1 (fun h'=>(h4 k o e).2 (.inr h')))⟩⟩
end
end Fl
end Go.Proofs.YtmhcfaaggkidjaaGreatDoor
end
section
namespace Go.Proofs.YtmhcfaaggkidjaaGreatDoor
set_option maxRecDepth 100000
namespace Fl
open Go.RowKit Go.Sort Go.Shelf
open En (Fi iX Ints fZ Row)
open Vl
theorem Ag (d:List Fv) (t:Nat) (ht:t<d.length*3):(aA d)[t]?=some ((nN d.toArray[t / 3]!)[t % 3]!):=by
 have hj:t / 3<d.length:=by omega
 have hx:d[t / 3]?=some d[t / 3]:=List.getElem?_eq_getElem hj;have ea:d.toArray[t / 3]! = d[t / 3]:=by rw[getElem!_pos d.toArray (t / 3) (by simpa using hj)];simp
 rw[ea];generalize d[t / 3]=x at *;obtain⟨e0,e1,e2⟩:=jQ d (t / 3) x hx;have h3:t % 3=0∨t % 3=1∨t % 3=2:=by omega
 rcases h3 with h | h | h
 ·rw[show (aA d)[t]?=(aA d)[t / 3*3]? by congr 1;omega,e0,h]
  rfl
 ·rw[show (aA d)[t]?=(aA d)[t / 3*3+1]? by congr 1;omega,e1,h]
  rfl
 rw[show (aA d)[t]?=(aA d)[t / 3*3+2]? by congr 1;omega,e2,h]
 rfl
theorem LY {w:World} {base g cap:Nat} {d:List Fv} (ho:w.ownsRow base 122 3 (.slice (some ⟨g,0,none⟩) d.length cap) d.length (aA d)):HoldsK nN 3 w g 0 d.toArray:=by
 intro t ht;rw[size_flatK] at ht;have ht':t<d.length*3:=by simpa using ht
 rw[get_flatK _ _ _ _ ht,Nat.zero_add];exact⟨(ho.cellAt t ht').trans (Ag d t ht'),ho.frozenAt t⟩
theorem Qb {w:World} {g cap:Nat} {d:Array Fv} (h:HoldsK nN 3 w g 0 d) (hc:d.size≤cap):Sr w (.slice (some ⟨g,0,none⟩) d.size cap) d.toList:=by
 refine .inr ⟨g,0,cap,by rw[Array.length_toList],by rw[Array.length_toList];exact hc,fun j u hj=>?_⟩;have hjl:j<d.toList.length*3:=by rw[←iH];exact(List.getElem?_eq_some_iff.1 hj).1
 have hjs:j<d.size*3:=by simpa using hjl
 have h1:=(h j (by rw[size_flatK];exact hjs)).1;rw[get_flatK _ _ _ _ hjs] at h1;rw[Ag d.toList j hjl] at hj;rw[h1,←hj]
 rfl
theorem Each.a3g {P:Nat→Prop} {w:World} {d:List Fv} {l:List Fi} {g cap:Nat} (h:Each P w d l) (ho:Sr w (.slice (some ⟨g,0,none⟩) d.length cap) d) (hg:g<w.heap.size):iX w (.slice (some ⟨g,0,none⟩) d.length cap) l:=by
 rcases ho with⟨_,c,hv⟩ | ⟨k,o,c,hv,hc,hcell⟩
 ·simp at hv
 simp only[Value.slice.injEq,Option.some.injEq,Addr.mk.injEq,and_true,true_and] at hv;obtain⟨⟨rfl,rfl⟩,rfl⟩:=hv;refine⟨some ⟨g,0,none⟩,cap,by rw[h.len],by rw[h.len];exact hc,fun _=>⟨g,0,rfl,hg,fun j f hj=>?_⟩⟩;have hjl:j<d.length:=by rw[←h.len];exact(List.getElem?_eq_some_iff.1 hj).1
 obtain⟨h1,h2,h3,h4⟩:=h.each j f d[j] hj (List.getElem?_eq_getElem hjl);obtain⟨e0,e1,e2⟩:=jQ d j d[j] (List.getElem?_eq_getElem hjl);refine⟨_,h3,?_,?_,?_⟩
 ·rw[hcell _ _ e0,h1]
 ·rw[Nat.add_assoc,hcell _ _ e1,h2]
 rw[Nat.add_assoc,hcell _ _ e2]
theorem gU {S S':Nat→Prop} {w w':World} (h:Fs S w w') (hs:∀k,S k→S' k):Fs S' w w':=⟨h.os,h.tape,h.output,h.size,fun k hk hn=>h.block k hk (fun e=>hn (hs k e))⟩
theorem Each.wider {P P':Nat→Prop} {w:World} {d:List Fv} {l:List Fi} (h:Each P w d l) (hp:∀k,k<w.heap.size→P' k→P k):Each P' w d l:=
 ⟨h.len,fun j f x hj hx=>by
  obtain⟨h1,h2,h3,h4⟩:=h.each j f x hj hx;exact⟨h1,h2,h3,fun k o e=>⟨(h4 k o e).1,fun hk=>(h4 k o e).2 (hp k (h4 k o e).1 hk)⟩⟩⟩
section
variable {w0 w w':World} {fb vb db cb:Nat} {kb kt:ByteArray} {S:Vs} {v lv:Value} {d d0:List Fv} {l l0:List Fi}
theorem Fm.store {g cap:Nat} {d':List Fv} {l':List Fi} (h:Fm w0 w fb vb db cb kb kt S v lv d l) (hs:Sr w (.slice (some ⟨g,0,none⟩) d'.length cap) d') (hg:g<w.heap.size∧¬(g=fb∨VP vb db cb v g)) (he:Each (fun k=>k=fb∨VP vb db cb v k) w d' l') :
  Fm w0 (w.setCell ⟨fb,1,none⟩ (.slice (some ⟨g,0,none⟩) d'.length cap)) fb vb db cb kb kt S v (.slice (some ⟨g,0,none⟩) d'.length cap) d' l'∧Fs (fun k=>k=fb) w (w.setCell ⟨fb,1,none⟩ (.slice (some ⟨g,0,none⟩) d'.length cap)):=by
 have hf:Fs (fun k=>k=fb) w (w.setCell ⟨fb,1,none⟩ (.slice (some ⟨g,0,none⟩) d'.length cap)):=⟨rfl,rfl,rfl,by simp,fun k _ hk=>heap_setCell_other w ⟨fb,1,none⟩ k _ (fun e=>hk e)⟩
 refine⟨⟨BO h.rZ hf (fun k hk=>by subst hk;exact h.lo) (fun k hk e=>by subst e;exact h.NA hk),(World.cell?_setCell_other _ _ _ _ (by simp)).trans h.c0,World.cell?_setCell_same _ _ _ h.c1,by rw[World.frozen?_setCell];exact h.fz,h.lo,h.NA,hs.fs hf (fun k o n c e=>?_),fun k o n c e=>?_,he.fs (gU hf (fun k e=>.inl e)) (fun _ _ h=>h),h.ty.setCell _ _⟩,hf⟩
 ·simp only[Value.slice.injEq,Option.some.injEq,Addr.mk.injEq,and_true,true_and] at e;obtain⟨⟨rfl,_⟩,_⟩:=e;exact⟨hg.1,fun e=>hg.2 (.inl e)⟩
 simp only[Value.slice.injEq,Option.some.injEq,Addr.mk.injEq,and_true,true_and] at e;obtain⟨⟨rfl,_⟩,_⟩:=e;exact⟨by simpa using hg.1,hg.2⟩
end
end Fl
end Go.Proofs.YtmhcfaaggkidjaaGreatDoor
end
section
namespace Go.Proofs.YtmhcfaaggkidjaaGreatDoor
set_option maxRecDepth 100000
namespace Fl
open Go.RowKit Go.Sort Go.Shelf
open En (Fi iX Ints fZ Row)
open Vl
section
variable {w0 w w':World} {fb vb db cb:Nat} {kb kt:ByteArray} {S:Vs} {v lv:Value} {d d0:List Fv} {l l0:List Fi}
def Nl (w:World) (lv:Value) (d:List Fv) (Ah:Value) (d':List Fv):Prop:=
 (∀k o n c,Ah=.slice (some ⟨k,o,none⟩) n c→w.heap.size≤k∨∃o' n' c',lv=.slice (some ⟨k,o',none⟩) n' c')∧(∀x ∈ d',∀k o,x.2.2.1=some ⟨k,o,none⟩→w.heap.size≤k∨∃y ∈ d,∃o',y.2.2.1=some ⟨k,o',none⟩)
def bC (kb kt:ByteArray) (l:List Fi) (S:Vs):Int × Vs:=eZ kb kt [0,1,2] ⟨(En.print l).toArray⟩ S
set_option maxHeartbeats 8000000 in
theorem yf (B:Base w0 kb kt) (LB:En.Lb w0) (n:Int) (ho:S.ok n) (hn:n+1000<900000000) (h:Fm w0 w fb vb db cb kb kt S v lv d0 l0)
  {g cap base:Nat} (own:w.ownsRow base 122 3 (.slice (some ⟨g,0,none⟩) d.length cap) d.length (aA d)) (hg0:w0.heap.size≤g) (hgf:g≠fb) (hgv:¬VP vb db cb v g)
  (hgl:∀k o n c,lv=.slice (some ⟨k,o,none⟩) n c→k≠g) (hge:∀(j:Nat) (x:Fv),d0[j]?=some x→∀k o,x.2.2.1=some ⟨k,o,none⟩→k≠g)
  (he:Each (fun k=>k=g∨k=fb∨VP vb db cb v k) w d l) (h12:d.length≤12) (hz:En.pz l) (hr:∀l',l.Perm l'→gH l'→En.right l'=true) :
  Calls Tryz.prog 71 #[.pointer (some ⟨fb,0,none⟩),.slice (some ⟨g,0,none⟩) d.length cap] w fun e w'=>∃d' l' v',l.Perm l'∧gH l'∧e=.returned (ev (bC kb kt l' S).1)∧(bC kb kt l' S).2.ok (n+3)∧
   ((bC kb kt l' S).1=0→Fm w0 w' fb vb db cb kb kt (bC kb kt l' S).2 v' (.slice (some ⟨g,0,none⟩) d.length cap) d' l')∧((bC kb kt l' S).1≠0→Fm w0 w' fb vb db cb kb kt (bC kb kt l' S).2 v' lv d0 l0)∧Fs (fun k=>k=g∨k=fb∨VP vb db cb v k) w w'∧(∀k,k<w.heap.size→¬VP vb db cb v k→¬VP vb db cb v' k)∧d'.Perm d:=by
 have hgw:g<w.heap.size:=(own.lt g rfl).2;have hcap:d.length≤cap:=by
  rcases own.2 with⟨h',_⟩ | ⟨g',cap',cur,h',_,_,hnc,_⟩
  ·simp at h'
  simp only[Value.slice.injEq,Option.some.injEq,Addr.mk.injEq,and_true,true_and] at h';obtain⟨_,rfl⟩:=h';exact hnc
 have hso:=LW g 0 cap d.toArray w (LY own) hgw (by simpa using h12);have a0r:Calls Tryz.prog 124 #[.slice (some ⟨g,0,none⟩) d.length cap,.func (.func 125) #[] #[]] w fun e w'=>e=.returned (.tuple #[])∧∃d':Array Fv,d'.size=d.length∧d'.toList.Perm d∧SortedIn (ltOf PY) 0 d.length d'∧HoldsK nN 3 w' g 0 d'∧Fs (fun k=>k=g) w w':=by
  simpa using hso
 have HSO:Hid (Calls Tryz.prog 124 #[.slice (some ⟨g,0,none⟩) d.length cap,.func (.func 125) #[] #[]] w fun e w'=>e=.returned (.tuple #[])∧∃d':Array Fv,d'.size=d.length∧d'.toList.Perm d∧SortedIn (ltOf PY) 0 d.length d'∧HoldsK nN 3 w' g 0 d'∧Fs (fun k=>k=g) w w'):=a0r;clear a0r;have HF:Hid (Fm w0 w fb vb db cb kb kt S v lv d0 l0):=h;have HE:Hid (Each (fun k=>k=g∨k=fb∨VP vb db cb v k) w d l):=he;have HG:Hid ((w0.heap.size≤g∧g≠fb∧¬VP vb db cb v g)∧(∀k o n c,lv=.slice (some ⟨k,o,none⟩) n c→k≠g)∧(∀(j:Nat) (x:Fv),d0[j]?=some x→∀k o,x.2.2.1=some ⟨k,o,none⟩→k≠g)∧g<w.heap.size∧d.length≤cap):=⟨⟨hg0,hgf,hgv⟩,hgl,hge,hgw,hcap⟩
 have HR:Hid ((∀l',l.Perm l'→gH l'→En.right l'=true)∧En.pz l):=⟨hr,hz⟩
 have HO:Hid (S.ok n∧n+1000<900000000):=⟨ho,hn⟩
 clear hso h he own hg0 hgf hgv hgl hge hr hz ho hn h12 hgw hcap;go_enter Tryz.func71,Tryz.ntmps71
 go_wp2_with fail
 refine HSO.out.mono ?_;rintro e w1 ⟨rfl,da,hsz,hp,hst,hH,hf⟩;have hF1:Fm w0 w1 fb vb db cb kb kt S v lv d0 l0:=HF.out.fs hf (fun k e=>by subst e;exact HG.out.1.1) (fun k _ e=>by subst e;exact HG.out.1.2) HG.out.2.1 HG.out.2.2.1;have hg1:g<w1.heap.size:=Nat.lt_of_lt_of_le HG.out.2.2.2.1 hf.size;obtain⟨l',hpl,he1⟩:=(HE.out.fs (P':=fun k=>k=g∨k=fb∨VP vb db cb v k) (gU hf (fun k e=>.inl e)) (fun _ _ h=>h)).perm hp.symm;have hrise:gH l':=Ur (by rw[hsz];exact hst) he1;have yX:=Qb hH (cap:=cap) (by rw[hsz];exact HG.out.2.2.2.2);have hdl:da.toList.length=d.length:=by rw[Array.length_toList];exact hsz
 rw[hsz] at yX;have Ex:iX w1 (.slice (some ⟨g,0,none⟩) d.length cap) l':=by
  have:=he1.a3g (g:=g) (cap:=cap) (by rw[hdl];exact yX) hg1;rw[hdl] at this;exact this
 have Qc:En.pz l':=fun f hf=>HR.out.2 f (hpl.mem_iff.2 hf)
 have HPR:Hid (Calls Tryz.prog 119 #[.slice (some ⟨g,0,none⟩) d.length cap] w1 fun e w'=>e=.returned (.tuple #[.string ⟨(En.print l').toArray⟩,.nilIface])∧Since w1 w'):=En.Ad l' _ w1 Ex Qc (LB.since hF1.rZ.since) (HR.out.1 l' hpl hrise);have H1:Hid (Fm w0 w1 fb vb db cb kb kt S v lv d0 l0∧Each (fun k=>k=g∨k=fb∨VP vb db cb v k) w1 da.toList l'∧Sr w1 (.slice (some ⟨g,0,none⟩) d.length cap) da.toList∧da.toList.length=d.length∧(l.Perm l'∧gH l')∧Fs (fun k=>k=g) w w1∧g<w1.heap.size):=⟨hF1,he1,yX,hdl,⟨hpl,hrise⟩,hf,hg1⟩
 have HPD:Hid (da.toList.Perm d):=hp;clear hF1 he1 yX hdl hpl hrise hf hg1 Ex Qc hH hst hp hsz;go_wp2_with fail
 refine HPR.out.mono ?_;rintro e w2 ⟨rfl,hs2⟩;have HS2:Hid (Since w1 w2):=hs2;clear hs2;go_wp2_with fail
 refine(pF w2).mono ?_;rintro e w3 ⟨rfl,ho3,hs3⟩;have yg:=HS2.out.trans hs3;have hF3:=H1.out.1.since yg;have hints:Ints w3 (.slice (some ⟨w2.heap.size,0,none⟩) 3 3) [0,1,2]:=by
  refine⟨_,3,rfl,Nat.le_refl _,fun _=>⟨w2.heap.size,0,rfl,(ho3.lt _ rfl).2,fun j x hj=>?_⟩⟩;rw[Nat.zero_add,ho3.cellAt j (by have:=(List.getElem?_eq_some_iff.1 hj).1;simpa using this)]
  match j,hj with
  | 0,hj=>simp at hj;subst hj;rfl
  | 1,hj=>simp at hj;subst hj;rfl
  | 2,hj=>simp at hj;subst hj;rfl
  | j+3,hj=>simp at hj
 have Zy:¬VP vb db cb v w2.heap.size:=(H1.out.1.rZ.go HS2.out).rH (Nat.le_refl _);have HW:Hid (Calls Tryz.prog 70 #[.pointer (some ⟨fb,0,none⟩),.slice (some ⟨w2.heap.size,0,none⟩) 3 3,.string ⟨(En.print l').toArray⟩] w3 fun e w'=>e=.returned (ev (bC kb kt l' S).1)∧bF w0 w3 w' vb db cb kb kt (bC kb kt l' S).2 v∧(bC kb kt l' S).2.ok (n+3)):=
  xU B n HO.out.1 HO.out.2 hF3.rZ hF3.c0 hF3.NA [0,1,2] _ hints (fun k o m c e=>by simp at e;rw[←e.1.1];exact Zy) (by simp) _
 have H3:Hid (Fm w0 w3 fb vb db cb kb kt S v lv d0 l0∧Since w1 w3):=⟨hF3,yg⟩
 clear yg hF3 hints Zy ho3 hs3;obtain⟨R,hR⟩:∃R,bC kb kt l' S=R:=⟨_,rfl⟩
 obtain⟨rn,S'⟩:=R;rw[hR] at HW;have HRR:Hid (bC kb kt l' S=(rn,S')):=hR;clear hR;go_wp2_with fail
 refine HW.out.mono ?_;rintro e w4 ⟨rfl,hvt,hok⟩;obtain⟨v',hF4,zQ,hnx⟩:=H3.out.1.XW hvt;have a3h:w.heap.size≤w3.heap.size:=Nat.le_trans H1.out.2.2.2.2.2.1.size H3.out.2.size;have hnx2:∀k,k<w.heap.size→¬VP vb db cb v k→¬VP vb db cb v' k:=fun k hk=>hnx k (by omega)
 have hfw:Fs (fun k=>k=g∨k=fb∨VP vb db cb v k) w w4:=((gU H1.out.2.2.2.2.2.1 (fun k e=>.inl e)).trans (Fs.ah H3.out.2)).trans (gU zQ (fun k e=>.inr (.inr e)));have hg3:g<w3.heap.size:=Nat.lt_of_lt_of_le H1.out.2.2.2.2.2.2 H3.out.2.size;have a0v:Sr w4 (.slice (some ⟨g,0,none⟩) d.length cap) da.toList:=(H1.out.2.2.1.fs (P:=fun _=>False) (Fs.ah H3.out.2) (fun k o n c e=>by simp at e;rw[←e.1.1];exact⟨H1.out.2.2.2.2.2.2,fun h=>h⟩)).fs zQ (fun k o n c e=>by simp at e;rw[←e.1.1];exact⟨hg3,HG.out.1.2.2⟩);have Us:Each (fun k=>k=fb∨VP vb db cb v' k) w4 da.toList l':=(H1.out.2.1.since H3.out.2).fs (gU zQ (fun k e=>.inr (.inr e))) (fun k hk hn h'=>h'.elim (fun e=>hn (.inr (.inl e))) (hnx k hk (fun hv=>hn (.inr (.inr hv)))))
 have hg4:g<w4.heap.size∧¬(g=fb∨VP vb db cb v' g):=⟨Nat.lt_of_lt_of_le hg3 zQ.size,fun h'=>h'.elim (fun e=>HG.out.1.2.1 e) (hnx g hg3 HG.out.1.2.2)⟩
 have H4:Hid (Fm w0 w4 fb vb db cb kb kt S' v' lv d0 l0∧S'.ok (n+3)∧Fs (fun k=>k=g∨k=fb∨VP vb db cb v k) w w4∧(∀k,k<w.heap.size→¬VP vb db cb v k→¬VP vb db cb v' k)):=⟨hF4,hok,hfw,hnx2⟩
 have hdl:=H1.out.2.2.2.1;have Ie:=hF4.store (g:=g) (cap:=cap) (d':=da.toList) (l':=l') (by rw[hdl];exact a0v) hg4 Us;rw[hdl] at Ie;have H5:Hid (Fm w0 (w4.setCell ⟨fb,1,none⟩ (.slice (some ⟨g,0,none⟩) d.length cap)) fb vb db cb kb kt S' v' (.slice (some ⟨g,0,none⟩) d.length cap) da.toList l'∧Fs (fun k=>k=fb) w4 (w4.setCell ⟨fb,1,none⟩ (.slice (some ⟨g,0,none⟩) d.length cap))):=Ie;have p1:=hF4.c1;have p2:=hF4.fz;clear hvt hok zQ hnx a3h hnx2 hfw hg3 a0v Us hg4 hdl Ie hF4;by_cases e0:rn=0
 ·subst e0;rw[BN];go_wp2_with fail
  go_ret;refine⟨da.toList,l',v',H1.out.2.2.2.2.1.1,H1.out.2.2.2.2.1.2,by rw[HRR.out];rfl,by rw[HRR.out];exact H4.out.2.1,fun _=>by rw[HRR.out];exact H5.out.1,fun hne=>absurd (by rw[HRR.out]) hne,H4.out.2.2.1.trans (gU H5.out.2 (fun k e=>.inr (.inl e))),H4.out.2.2.2,HPD.out⟩
 have hev:=Af e0;have HE0:Hid (¬rn=0):=e0;have HEV:Hid (ev rn=.iface 32 (.int .i64 rn)):=hev;rw[hev];clear e0 hev;go_wp2_with fail
 go_ret;refine⟨da.toList,l',v',H1.out.2.2.2.2.1.1,H1.out.2.2.2.2.1.2,by rw[HRR.out,HEV.out];rfl,by rw[HRR.out];exact H4.out.2.1,fun h0=>absurd (by rw[HRR.out] at h0;exact h0) HE0.out,fun _=>by rw[HRR.out];exact H4.out.1,H4.out.2.2.1,H4.out.2.2.2,HPD.out⟩
end
end Fl
end Go.Proofs.YtmhcfaaggkidjaaGreatDoor
end
section
namespace Go.Proofs.YtmhcfaaggkidjaaGreatDoor
set_option maxRecDepth 100000
namespace Fl
open En (Fi qm aP filled takeB kZ rightFrom right bu bS need)
def Gd (f:Fi):Prop:=aP f.nm.data.toList=true∧filled f=true
theorem qw (a b:ByteArray):qm a b=true↔b.toList<a.toList:=by
 unfold qm;rw[bytesLess_eq,Bool.not_eq_true',Bool.or_eq_false_iff,decide_eq_false_iff_not];constructor
 ·rintro ⟨h1,h2⟩;by_cases h:b.toList<a.toList
  ·exact h
  exact absurd (List.le_antisymm (List.not_lt.1 h) (List.not_lt.1 h1)) (by simpa using h2)
 intro h;refine⟨fun h'=>List.lt_irrefl _ (List.lt_trans h h'),?_⟩;have:a.toList≠b.toList:=fun e=>by rw[e] at h;exact List.lt_irrefl _ h
 simpa using this
theorem Qd {a b c:ByteArray} (h1:qm a b=true) (h2:qm b c=true):qm a c=true:=(qw a c).2 (List.lt_trans ((qw b c).1 h2) ((qw a b).1 h1))
theorem Ut {f:Fi} (h:Gd f):qm f.nm ⟨#[]⟩=true:=by
 refine(qw _ _).2 ?_;have h1:=h.1;rw[Lib.toList_data,Lib.toList_data];cases e:f.nm.data.toList with
 | nil=>rw[e] at h1;cases h1
 | cons c r=>exact List.Lex.nil
theorem pG:∀(l:List Fi) (b:ByteArray) (L:List Int),rightFrom b L l=true↔(∀f ∈ l,qm f.nm b=true)∧(∀f ∈ l,Gd f)∧l.Pairwise (fun f g=>qm g.nm f.nm=true)∧(∀c ∈ bu l,3≤c∧c<24)∧(bu l).Nodup∧∀c ∈ bu l,c ∉ L
 | [],b,L=>by simp[rightFrom,bu]
 | f::r,b,L=>by
  have ih:=pG r f.nm (L++f.cs);have e:bu (f::r)=f.cs++bu r:=by simp[bu]
  rw[rightFrom,Bool.and_eq_true,Bool.and_eq_true,Bool.and_eq_true,Bool.and_eq_true,ih,kZ,e];constructor
  ·rintro ⟨⟨⟨⟨h1,h2⟩,h3⟩,h4,h5,h6⟩,g1,g2,g3,g4,g5,g6⟩;refine⟨fun x hx=>?_,fun x hx=>?_,List.pairwise_cons.2 ⟨g1,g3⟩,fun c hc=>?_,?_,fun c hc=>?_⟩
   ·rcases List.mem_cons.1 hx with rfl | hx
    ·exact h1
    exact Qd (g1 x hx) h1
   ·rcases List.mem_cons.1 hx with rfl | hx
    ·exact⟨h2,h3⟩
    exact g2 x hx
   ·exact(List.mem_append.1 hc).elim (h4 c) (g4 c)
   ·rw[List.nodup_append];exact⟨h5,g5,fun x hx y hy e=>by subst e;exact g6 x hy (by simp[hx])⟩
   exact(List.mem_append.1 hc).elim (h6 c) (fun h hl=>g6 c h (by simp[hl]))
  rintro ⟨h1,h2,h3,h4,h5,h6⟩;obtain⟨h31,h32⟩:=List.pairwise_cons.1 h3;obtain⟨h51,h52,h53⟩:=List.nodup_append.1 h5;refine⟨⟨⟨⟨h1 f (by simp),(h2 f (by simp)).1⟩,(h2 f (by simp)).2⟩,fun c hc=>h4 c (by simp[hc]),h51,fun c hc=>h6 c (by simp[hc])⟩,h31,fun x hx=>h2 x (by simp[hx]),h32,fun c hc=>h4 c (by simp[hc]),h52,fun c hc hl=>?_⟩;rcases List.mem_append.1 hl with hl | hl
  ·exact h6 c (by simp[hc]) hl
  exact h53 c hl c hc rfl
structure Fit (l:List Fi):Prop where
 len:l.length≤8
 good:∀f ∈ l,Gd f
 names:l.Pairwise (fun f g=>f.nm≠g.nm)
 cells:∀c ∈ bu l,3≤c∧c<24
 once:(bu l).Nodup
theorem aX (l:List Fi):right l=true↔Fit l∧l.Pairwise (fun f g=>qm g.nm f.nm=true):=by
 rw[right,Bool.and_eq_true,decide_eq_true_eq,pG];constructor
 ·rintro ⟨h0,h1,h2,h3,h4,h5,h6⟩;exact⟨⟨h0,h2,h3.imp (fun {f g} h e=>by rw[e] at h;exact List.lt_irrefl _ ((qw _ _).1 h)),h4,h5⟩,h3⟩
 rintro ⟨h,h3⟩;exact⟨h.len,fun f hf=>Ut (h.good f hf),h.good,h3,h.cells,h.once,fun c hc=>by simp⟩
theorem Ai {l l':List Fi} (h:l.Perm l'):(bu l).Perm (bu l'):=(h.map Fi.cs).flatten
theorem Fit.perm {l l':List Fi} (h:Fit l) (hp:l.Perm l'):Fit l':=
 ⟨by rw[←hp.length_eq];exact h.len,fun f hf=>h.good f (hp.mem_iff.2 hf),hp.pairwise h.names (fun {a b} e=>Ne.symm e),fun c hc=>h.cells c ((Ai hp).mem_iff.2 hc),(Ai hp).nodup_iff.1 h.once⟩
theorem Fit.right {l l':List Fi} (h:Fit l) (hp:l.Perm l') (hr:gH l'):right l'=true:=by
 have h':=h.perm hp;refine(aX l').2 ⟨h',(h'.names.and hr).imp (fun {f g} hh=>(qw _ _).2 ?_)⟩;obtain⟨hne,hb⟩:=hh;rw[bytesLess_eq,decide_eq_false_iff_not] at hb;by_cases hlt:f.nm.toList<g.nm.toList
 ·exact hlt
 have:=List.le_antisymm (List.not_lt.1 hb) (List.not_lt.1 hlt);rw[Lib.toList_data,Lib.toList_data] at this;exact absurd (ByteArray.ext (Array.toList_inj.1 this)) hne
theorem Qe {a b:List (List Int)} (h:a.Sublist b):a.flatten.Sublist b.flatten:=by
 induction h with
 | slnil=>exact List.Sublist.refl _
 | cons x _ ih=>rw[List.flatten_cons];exact ih.trans (List.sublist_append_right _ _)
 | cons_cons x _ ih=>rw[List.flatten_cons,List.flatten_cons];exact(List.Sublist.refl x).append ih
theorem Fit.filter {l:List Fi} (h:Fit l) (p:Fi→Bool):Fit (l.filter p):=by
 have hs:(l.filter p).Sublist l:=List.filter_sublist;have hc:(bu (l.filter p)).Sublist (bu l):=Qe (hs.map Fi.cs);exact⟨Nat.le_trans hs.length_le h.len,fun f hf=>h.good f (hs.subset hf),h.names.sublist hs,fun c hc'=>h.cells c (hc.subset hc'),h.once.sublist hc⟩
theorem Fit.uniq {l l1 l2:List Fi} (h:Fit l) (h1:l.Perm l1) (h2:l.Perm l2) (r1:gH l1) (r2:gH l2):l1=l2:=by
 refine List.Perm.eq_of_pairwise (le:=fun (f g:Fi)=>Op.bytesLess g.nm.toList f.nm.toList=false) ?_ r1 r2 (h1.symm.trans h2);intro a b ha hb e1 e2;have ha':=h1.mem_iff.2 ha;have hb':=h2.mem_iff.2 hb;rw[bytesLess_eq,decide_eq_false_iff_not] at e1 e2;have e:=List.le_antisymm (List.not_lt.1 e1) (List.not_lt.1 e2);rw[Lib.toList_data,Lib.toList_data] at e;have en:a.nm=b.nm:=ByteArray.ext (Array.toList_inj.1 e);obtain⟨i,hi,rfl⟩:=List.getElem_of_mem ha';obtain⟨j,hj,rfl⟩:=List.getElem_of_mem hb';have hpw:=List.pairwise_iff_getElem.1 h.names;rcases Nat.lt_trichotomy i j with hlt | rfl | hlt
 ·exact absurd en (hpw i j hi hj hlt)
 ·rfl
 exact absurd en.symm (hpw j i hj hi hlt)
end Fl
end Go.Proofs.YtmhcfaaggkidjaaGreatDoor
end
