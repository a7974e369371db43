import Derived.Test.YtlgbfkcpdelcbaaGreatDoorJ35
import Derived.Test.YtlgbfkcpdelcbaaGreatDoorJ36
set_option linter.unusedSimpArgs false
set_option linter.unusedVariables false
set_option maxHeartbeats 8000000
set_option maxRecDepth 100000
namespace Go.Proofs.YtlgbfkcpdelcbaaGreatDoor
section
namespace Fl
open Go.RowKit Go.Sort Go.Shelf
open En (Fi fA Ints dF Row)
open Vl (Fs)
def yD (a b:ByteArray):Int:=if Op.bytesLess a.toList b.toList then -1 else if a.toList==b.toList then 0 else 1
theorem JG (a b:ByteArray)(w:World):Calls Tryz.prog 108 #[.string a,.string b] w fun e w'=>e=.returned (.int .i64 (yD a b))∧w'=w:=by
 cases hl:Op.bytesLess a.toList b.toList with
 | true=>
  have hq:yD a b=-1:=by unfold yD;rw[hl];rfl
  rw[hq];clear hq;go_enter Tryz.func108,Tryz.ntmps108
  go_wp2_with fail
  refine(jo a w).mono ?_;rintro e w1 ⟨rfl,rfl⟩;go_wp2_with fail
  refine(jo b _).mono ?_;rintro e w1 ⟨rfl,rfl⟩;go_wp2_with fail
  go_ret;exact⟨rfl,rfl⟩
 | false=>
  cases he:(a.toList==b.toList) with
  | true=>
   have hq:yD a b=0:=by unfold yD;rw[hl,he];rfl
   rw[hq];clear hq;go_enter Tryz.func108,Tryz.ntmps108
   go_wp2_with fail
   refine(jo a w).mono ?_;rintro e w1 ⟨rfl,rfl⟩;go_wp2_with fail
   refine(jo b _).mono ?_;rintro e w1 ⟨rfl,rfl⟩;go_wp2_with fail
   go_ret;exact⟨rfl,rfl⟩
  | false=>
   have hq:yD a b=1:=by unfold yD;rw[hl,he];rfl
   rw[hq];clear hq;go_enter Tryz.func108,Tryz.ntmps108
   go_wp2_with fail
   refine(jo a w).mono ?_;rintro e w1 ⟨rfl,rfl⟩;go_wp2_with fail
   refine(jo b _).mono ?_;rintro e w1 ⟨rfl,rfl⟩;go_wp2_with fail
   go_ret;exact⟨rfl,rfl⟩
abbrev Fv:Type:=ByteArray × Int × Option Addr × Nat × Nat
def gz (x:Fv):List Value:=[.string x.1,.int .i64 x.2.1,.slice x.2.2.1 x.2.2.2.1 x.2.2.2.2]
def JH (x y:Fv):Int:=yD x.1 y.1
theorem JI (x y:Fv)(W:World):Calls Tryz.prog 107 #[.agg (gz x).toArray,.agg (gz y).toArray] W fun e w'=>e=.returned (.int .i64 (JH x y))∧∃q os',w'=grow (W.drewN q) os':=by
 obtain⟨n1,s1,a1,l1,c1⟩:=x;obtain⟨n2,s2,a2,l2,c2⟩:=y;have hcon:=fun W'=>JG n1 n2 W'
 have hq:JH (n1,s1,a1,l1,c1) (n2,s2,a2,l2,c2)=yD n1 n2:=rfl;rw[hq];clear hq;generalize yD n1 n2=r at hcon ⊢;unfold gz;go_enter Tryz.func107,Tryz.ntmps107
 go_wp2_with (go_at_call 108;refine(hcon _).mono ?_;rintro e w' ⟨rfl,rfl⟩)
 go_ret;exact⟨rfl,0,_,by rw[alloc_eq_grow,alloc_eq_grow,grow_grow];rfl⟩
theorem TV (blk off size:Nat)(w:World):CmpLays Tryz.prog 107 #[] gz 3 JH blk off size w:=fun _ _ _ _ x y=>JI x y _
theorem ltF (x y:Fv):ltOf JH x y=decide (x.1.toList<y.1.toList):=by
 have e:=bytesLess_eq x.1.toList y.1.toList;unfold ltOf JH yD;rw[e];by_cases h:x.1.toList<y.1.toList
 ·rw[decide_eq_true h];rfl
 rw[decide_eq_false h];cases (x.1.toList==y.1.toList)<;>rfl
theorem a4M:SWO (ltOf JH) where
 irrefl x:=by rw[ltF];exact decide_eq_false (List.lt_irrefl _)
 trans x y z h1 h2:=by rw[ltF] at *;simp only[decide_eq_true_eq] at *;exact List.lt_trans h1 h2
 ntrans x y z h1 h2:=by
  rw[ltF] at *;simp only[decide_eq_false_iff_not,List.not_lt] at *;exact List.le_trans h2 h1
theorem MX (w:World)(blk off n:Nat)(d:Array Fv)(os:Array Obj):Fs (fun k=>k=blk) w (sortWorldK gz 3 w blk off n d os):=by
 refine⟨rfl,rfl,rfl,?_,fun k hk hne=>?_⟩
 ·simp[sortWorldK,putRowK,putRow,mapBlock,Sort.ahead,grow]
 unfold sortWorldK putRowK;rw[heap_grow_old _ _ (by simpa [putRow,mapBlock,Sort.ahead] using hk)];have:blk≠k:=fun e=>hne e.symm
 simp[putRow,mapBlock,Sort.ahead,Array.getElem?_modify,this]
theorem Pz (blk off cap:Nat)(d:Array Fv)(w:World)(hH:HoldsK gz 3 w blk off d)(hblk:blk<w.heap.size)(h12:d.size≤12) :
  Calls Tryz.prog 106 #[.slice (some ⟨blk,off,none⟩) d.size cap,.func (.func 107) #[] #[]] w fun e w'=>e=.returned (.tuple #[])∧∃d':Array Fv,d'.size=d.size∧d'.toList.Perm d.toList∧SortedIn (ltOf JH) 0 d.size d'∧HoldsK gz 3 w' blk off d'∧Fs (fun k=>k=blk) w w':=by
 have hcon:=AnyQ.slices_SortFunc_small_sorted Tryz.a4K 3 Tryz.isAgg129 Tryz.sizeOf129 gz (fun _=>rfl) (fun x v hv=>by simp[gz] at hv;rcases hv with rfl | rfl | rfl<;>rfl) JH 107 #[] a4M blk off cap d w yC (TV blk off d.size w) hH hblk h12 (fun n W h=>(Tryz.bits_Len n W (by omega) (by omega)).mono fun _ _ ⟨he,hw⟩=>⟨⟨_,he⟩,hw⟩);refine hcon.mono ?_;rintro e w' ⟨he,d',n,os,hp,hs,rfl⟩;refine⟨he,d',hp.1,?_,hs,?_,MX w blk off n d' os⟩
 ·have:=hp.2.2;rw[←hp.1] at this;rw[Array.extract_size,hp.1,Array.extract_size] at this;exact this
 exact holdsK_grow gz 3 _ os blk off d' (by simpa [putRowK,putRow,mapBlock,Sort.ahead] using hblk) (holdsK_putRowK gz 3 _ blk off d d' (holdsK_ahead gz 3 w n blk off d hH) hp.1)
end Fl
end
section
namespace Fl
open Go.RowKit Go.Sort Go.Shelf
open En (Fi fA Ints dF Row)
open Vl (Fs)
def aD:List Fv→List Value
 | []=>[]
 | x::r=>.string x.1::.int .i64 x.2.1::.slice x.2.2.1 x.2.2.2.1 x.2.2.2.2::aD r
theorem iq:∀d:List Fv,(aD d).length=d.length*3
 | []=>rfl
 | x::r=>by
  have ih:=iq r;simp only[aD,List.length_cons];omega
theorem yE:∀(d:List Fv),∀u ∈ aD d,u.oneCell'=true
 | [],u,h=>by cases h
 | x::r,u,h=>by
  simp only[aD,List.mem_cons] at h;rcases h with rfl | rfl | rfl | h
  ·rfl
  ·rfl
  ·rfl
  exact yE r u h
theorem iw:∀(d:List Fv) (j:Nat) (x:Fv),d[j]?=some x→(aD d)[j*3]?=some (.string x.1)∧(aD d)[j*3+1]?=some (.int .i64 x.2.1)∧(aD d)[j*3+2]?=some (.slice x.2.2.1 x.2.2.2.1 x.2.2.2.2)
 | [],j,x,h=>by simp at h
 | y::r,0,x,h=>by
  simp at h;subst h;exact⟨rfl,rfl,rfl⟩
 | y::r,j+1,x,h=>by
  have ih:=iw r j x (by simpa using h);have e:aD (y::r)=.string y.1::.int .i64 y.2.1::.slice y.2.2.1 y.2.2.2.1 y.2.2.2.2::aD r:=rfl;rw[e,show (j+1)*3=j*3+1+1+1 by omega];exact ih
theorem addr_add (k o j:Nat):(⟨k,o,none⟩:Addr).add j=⟨k,o+j,none⟩:=by
 unfold Addr.add;split
 ·next h=>subst h;rfl
 rfl
def Sr (w:World)(v:Value)(d:List Fv):Prop:=(d=[]∧∃c,v=.slice none 0 c)∨∃k o c,v=.slice (some ⟨k,o,none⟩) d.length c∧d.length≤c∧∀j u,(aD d)[j]?=some u→w.cell? ⟨k,o+j,none⟩=some u
theorem fI (v:Value)(d:List Fv)(w:World)(h:Sr w v d)(hn:d.length≤1000):Calls Tryz.prog 103 #[v] w fun e w'=>∃v',e=.returned v'∧w'.ownsRow w.heap.size 129 3 v' d.length (aD d)∧Since w w':=by
 rcases h with⟨rfl,c,rfl⟩ | ⟨k,o,c,rfl,hc,hcell⟩
 ·have hq:=fun w'=>Lib.run_eql_slice_nil (P:=Tryz.prog) w' 52 129 none 0 c 0 0 Tryz.underlying52
  go_enter Tryz.func103,Tryz.ntmps103
  go_wp2_with fail
  go_ret;exact⟨_,rfl,World.ownsRow_nil _ _ _ _,Since.refl _⟩
 obtain⟨i0,hi,hz0,hz1,hz2⟩:=info_parts En.yz;have HN:=hid hn;have HC:=hid hc;have hown0:(w.alloc (.cells #[] 129)).ownsRow w.heap.size 129 3 (.slice (some ⟨w.heap.size,0,none⟩) 0 0) 0 []:=World.ownsRow_made w #[] 0 (Nat.le_refl _) (by simp[maxLen]) rfl;have hnews:∀j u,(aD d)[j]?=some u→(w.alloc (.cells #[] 129)).cell? ((⟨k,o,none⟩:Addr).add j)=some u:=fun j u hj=>((((Since.refl w).alloc (.cells #[] 129)).cell (p:=(⟨k,o,none⟩:Addr).add j) (by rw[addr_add];exact World.block_lt_of_cell? w _ (hcell j u hj))).trans (by rw[addr_add];exact hcell j u hj))
 have hl:=iq d;have h1:=yE d;have il:0+d.length≤maxLen:=by unfold maxLen;omega
 have hbb:(0+d.length)*48≤140737488355328:=by omega
 have hbase:w.heap.size≤(w.alloc (.cells #[] 129)).heap.size:=by simp
 have HH:=hid (an hi (an hz0 (an hz1 (an hz2 (an hown0 (an hl (an hnews (an h1 (an il (an hbb hbase))))))))));have hq:=fun w'=>Lib.run_eql_slice_nil (P:=Tryz.prog) w' 52 129 (some ⟨k,o,none⟩) d.length c 0 0 Tryz.underlying52
 clear hi hz0 hz1 hz2 hown0 hl hnews h1 il hbb hbase hn hc hcell;go_enter Tryz.func103,Tryz.ntmps103
 go_wp2_with (at_builtin;refine wpList_append_own _ (by rfl) _ _ 52 (by rfl) w.heap.size 129 i0 _ 3 48 Tryz.underlying52 HH.o.1 HH.o.2.1 HH.o.2.2.1 HH.o.2.2.2.1 (by rfl) (by decide) _ 0 [] (by rfl) HH.o.2.2.2.2.1 ⟨k,o,none⟩ d.length c (aD d) (by rfl) HH.o.2.2.2.2.2.1 HH.o.2.2.2.2.2.2.1 HH.o.2.2.2.2.2.2.2.1 HH.o.2.2.2.2.2.2.2.2.1 HH.o.2.2.2.2.2.2.2.2.2.1 HH.o.2.2.2.2.2.2.2.2.2.2 ?_;intro v' w' hown hgrow _)
 have HO:=hid hown;have HS:Hid (Since w w'):=((Since.refl w).alloc _).grown hgrow (fun k hk=>by simp[Value.ownBlock] at hk;omega);clear hown hgrow;go_wp2_with fail
 go_ret;refine⟨_,rfl,?_,HS.o⟩;have:=HO.o;rw[Nat.zero_add,List.nil_append] at this;exact this
end Fl
end
section
namespace Fl
open Go.RowKit Go.Sort Go.Shelf
open En (Fi fA Ints dF Row)
open Vl (Fs)
theorem EP {base e size n cap g:Nat}{xs:List Value}:∀(vs:List Value) (w:World) (o:Nat),xs.length≤o→w.ownsRow base e size (.slice (some ⟨g,0,none⟩) n cap) n xs→(w.setCells g o vs).ownsRow base e size (.slice (some ⟨g,0,none⟩) n cap) n xs
 | [],w,o,_,h=>h
 | v::r,w,o,ho,h=>by
  have h1:=(h.stored o v).1;rw[List.set_eq_of_length_le ho] at h1;exact EP r _ (o+1) (by omega) h1
theorem XA {base e size n i cap g:Nat}{w:World}{xs:List Value}(h:w.ownsRow base e size (.slice (some ⟨g,0,none⟩) n cap) n xs)(hi:i≤n):w.ownsRow base e size (.slice (some ⟨g,0,none⟩) i cap) i (xs.take (i*size)):=by
 obtain⟨h1,h2⟩:=h;have hle:=Nat.mul_le_mul_right size hi;refine⟨by rw[List.length_take,h1];omega,?_⟩;rcases h2 with⟨h',_⟩ | ⟨g',cap',cur,h',hb,hg,hnc,hcm,hcs,htake⟩
 ·simp at h'
 simp only[Value.slice.injEq,Option.some.injEq,Addr.mk.injEq,and_true,true_and] at h';obtain⟨rfl,rfl⟩:=h';refine .inr ⟨g,cap,cur,rfl,hb,hg,by omega,hcm,hcs,?_⟩;rw[←htake,List.take_take,Nat.min_eq_left hle]
theorem yF {w0:World}{g:Nat}(hg:w0.heap.size≤g):∀(vs:List Value) (w:World) (o:Nat),Since w0 w→Since w0 (w.setCells g o vs)
 | [],w,o,h=>h
 | v::r,w,o,h=>yF hg r _ (o+1) (h.setCell (p:=⟨g,o,none⟩) hg v)
theorem yG:∀(d:List Fv) (i:Nat) (x:Fv),aD (d.set i x)=(((aD d).set (i*3) (.string x.1)).set (i*3+1) (.int .i64 x.2.1)).set (i*3+2) (.slice x.2.2.1 x.2.2.2.1 x.2.2.2.2)
 | [],i,x=>by simp[aD]
 | y::r,0,x=>rfl
 | y::r,i+1,x=>by
  have ih:=yG r i x;have e:aD (y::r)=.string y.1::.int .i64 y.2.1::.slice y.2.2.1 y.2.2.2.1 y.2.2.2.2::aD r:=rfl;have e2:aD ((y::r).set (i+1) x)=.string y.1::.int .i64 y.2.1::.slice y.2.2.1 y.2.2.2.1 y.2.2.2.2::aD (r.set i x):=rfl;rw[e,e2,ih,show (i+1)*3=i*3+1+1+1 by omega]
  rfl
theorem uW:∀(d:List Fv) (i:Nat),(aD d).take (i*3)=aD (d.take i)
 | [],i=>by simp[aD]
 | y::r,0=>by simp[aD]
 | y::r,i+1=>by
  have ih:=uW r i;have e:aD (y::r)=.string y.1::.int .i64 y.2.1::.slice y.2.2.1 y.2.2.2.1 y.2.2.2.2::aD r:=rfl;rw[e,show (i+1)*3=i*3+1+1+1 by omega,List.take_succ_cons,List.take_succ_cons,List.take_succ_cons,ih]
  rfl
theorem XB {w:World}{base g n cap:Nat}{d:List Fv}(h:w.ownsRow base 129 3 (.slice (some ⟨g,0,none⟩) n cap) n (aD d))(i:Nat)(x:Fv) :
  (((w.setCell ⟨g,i*3,none⟩ (.string x.1)).setCell ⟨g,i*3+1,none⟩ (.int .i64 x.2.1)).setCell ⟨g,i*3+2,none⟩ (.slice x.2.2.1 x.2.2.2.1 x.2.2.2.2)).ownsRow base 129 3 (.slice (some ⟨g,0,none⟩) n cap) n (aD (d.set i x)):=by
 rw[yG];exact((((h.stored (i*3) _).1.stored (i*3+1) _).1).stored (i*3+2) _).1
theorem a4N:∀w:World,(zeroValue 129).run Tryz.prog w=.ok (.agg #[.string ByteArray.empty,.int .i64 0,.slice none 0 0]) w:=by
 obtain⟨i0,hi,hz0,hz1,hz2⟩:=info_parts En.yz;intro w;simp[zeroValue,typeInfo,hi,hz0]
theorem PD (w:World)(ty:TypeId)(b o n c:Nat)(hc:∀j,j<n*3→(w.cell? ⟨b,o+j,none⟩).isSome=true)(hf:∀j,j<n*3→w.frozen? ⟨b,o+j,none⟩=false) :
  ∃Z:List Value,(Builtin.clear_ #[52] ty #[.slice (some ⟨b,o,none⟩) n c]).run Tryz.prog w=.ok (.tuple #[]) (w.setCells b o Z):=by
 rcases Nat.eq_zero_or_pos n with rfl | hn
 ·exact⟨[],by simp[Builtin.clear_,run_underlying Tryz.underlying52,World.setCells]⟩
 refine⟨(Builtin.zeroCells (Value.agg #[.string ByteArray.empty,.int .i64 0,.slice none 0 0]).cells n).toList,?_⟩;have hlen:(Builtin.zeroCells (Value.agg #[.string ByteArray.empty,.int .i64 0,.slice none 0 0]).cells n).toList.length=n*3:=by
  rw[Array.length_toList,size_zeroCells];rfl
 have hst:=run_storeCells_cells (P:=Tryz.prog) b o (Builtin.zeroCells (Value.agg #[.string ByteArray.empty,.int .i64 0,.slice none 0 0]).cells n).toList 0 w (by rw[hlen];simpa using hc) (by rw[hlen];simpa using hf) (by
  intro v hv;simp only[Builtin.zeroCells,Array.toList_map,List.mem_map] at hv;obtain⟨t,_,rfl⟩:=hv;have h3:t % 3=0∨t % 3=1∨t % 3=2:=by omega
  show ((#[Value.string ByteArray.empty,.int .i64 0,.slice none 0 0]:Array Value)[t % 3]!).oneCell'=true
  rcases h3 with h | h | h<;>rw[h]<;>rfl)
 simp only[Nat.add_zero] at hst;obtain⟨m,rfl⟩:∃m,n=m+1:=⟨n-1,by omega⟩
 have hz:=a4N;clear hlen;generalize (Value.agg #[.string ByteArray.empty,.int .i64 0,.slice none 0 0])=z at *;simp[Builtin.clear_,run_underlying Tryz.underlying52,hz,hst]
end Fl
end
section
namespace Fl
open Go.RowKit Go.Sort Go.Shelf
open En (Fi fA Ints dF Row)
open Vl (Fs)
def ay (s:ByteArray)(x:Fv):Bool:=!decide (x.1=s)
structure a4O (w0 wr:World)(d:List Fv)(g cap b:Nat)(s:ByteArray)(i j:Nat)(D:List Fv):Prop where
 lt:i<j
 le:j≤d.length
 len:D.length=d.length
 low:D.take i=(d.take j).filter (ay s)
 high:D.drop j=d.drop j
 own:wr.ownsRow w0.heap.size 129 3 (.slice (some ⟨g,0,none⟩) d.length cap) d.length (aD D)
 since:Since w0 wr
 box:wr.cell? ⟨b,0,none⟩=some (.string s)
theorem eO {w:World}{base g n cap:Nat}{D:List Fv}(h:w.ownsRow base 129 3 (.slice (some ⟨g,0,none⟩) n cap) n (aD D)){j:Nat}{x:Fv}(hx:D[j]?=some x)(hj:j<n) :
  w.cell? ⟨g,j*3,none⟩=some (.string x.1)∧w.cell? ⟨g,j*3+1,none⟩=some (.int .i64 x.2.1)∧w.cell? ⟨g,j*3+2,none⟩=some (.slice x.2.2.1 x.2.2.2.1 x.2.2.2.2):=by
 obtain⟨e1,e2,e3⟩:=iw D j x hx;have c:=fun i hi=>h.cellAt i hi
 exact⟨(c _ (by omega)).trans e1,(c _ (by omega)).trans e2,(c _ (by omega)).trans e3⟩
theorem jq (w:World)(g o:Nat)(v:Value){b:Nat}(h:b≠g):(w.setCell ⟨g,o,none⟩ v).cell? ⟨b,0,none⟩=w.cell? ⟨b,0,none⟩:=
 World.cell?_of_block (heap_setCell_other w ⟨g,o,none⟩ b v (fun e=>h e))
theorem jr {d:List Fv}{j:Nat}{x:Fv}{p:Fv→Bool}(h:d[j]?=some x):(d.take (j+1)).filter p=(d.take j).filter p++(if p x then [x] else []):=by
 rw[List.take_add_one,h,List.filter_append];cases hp:p x<;>simp[hp]
theorem XC (w0 w:World)(d:List Fv)(l:List Fi)(g cap:Nat)(s:ByteArray)(b:Nat)(hown:w.ownsRow w0.heap.size 129 3 (.slice (some ⟨g,0,none⟩) d.length cap) d.length (aD d))(hl:fA w (.slice (some ⟨g,0,none⟩) d.length cap) l)(hlen:l.length=d.length)(hnm:∀(j:Nat) (f:Fi) (x:Fv),l[j]?=some f→d[j]?=some x→f.nm=x.1)(hb:w.cell? ⟨b,0,none⟩=some (.string s))(hbg:b≠g)(hS:Since w0 w)(hn:d.length≤1000) :
  Calls Tryz.prog 102 #[.slice (some ⟨g,0,none⟩) d.length cap,.func (.func 117) #[] #[.pointer (some ⟨b,0,none⟩)]] w fun e w'=>∃i,i=(d.filter (ay s)).length∧e=.returned (.slice (some ⟨g,0,none⟩) i cap)∧w'.ownsRow w0.heap.size 129 3 (.slice (some ⟨g,0,none⟩) i cap) i (aD (d.filter (ay s)))∧Since w0 w':=by
 have hidx:=vW l _ s b w hl hb (by omega);have hcap:d.length≤cap:=by
  rcases hown.2 with⟨h',_⟩ | ⟨g',cap',cur,h',_,_,hnc,_⟩
  ·simp at h'
  simp only[Value.slice.injEq,Option.some.injEq,Addr.mk.injEq,and_true,true_and] at h';obtain⟨_,rfl⟩:=h';exact hnc
 have hbase:w0.heap.size≤g:=(hown.lt g rfl).1;have HX:=hid hidx;have HW:Hid (w.ownsRow w0.heap.size 129 3 (.slice (some ⟨g,0,none⟩) d.length cap) d.length (aD d)∧(l.length=d.length∧∀(j:Nat) (f:Fi) (x:Fv),l[j]?=some f→d[j]?=some x→f.nm=x.1)∧(w.cell? ⟨b,0,none⟩=some (.string s)∧b≠g)∧Since w0 w):=⟨hown,⟨hlen,hnm⟩,⟨hb,hbg⟩,hS⟩
 have heg:=oN;clear hidx hown hl hnm hb hS;go_enter Tryz.func102,Tryz.ntmps102
 go_wp2_with fail
 refine HX.o.mono ?_;rintro e w1 ⟨⟨i,rfl,hi⟩,h1⟩;have pK:=hid (En.bf HW.o.1 h1);have cK:=hid (HW.o.2.2.2.trans h1);have HB1:Hid (w1.cell? ⟨b,0,none⟩=some (.string s)):=(h1.cell (p:=⟨b,0,none⟩) (World.block_lt_of_cell? w _ HW.o.2.2.1.1)).trans HW.o.2.2.1.1;clear h1;rcases hi with⟨k,rfl,hk,⟨f,hf,hfs⟩,hno⟩ | ⟨rfl,hno⟩
 ·have hne:((k:Int)==-1)=false:=beq_false_of_ne (by omega);have HST:Hid (a4O w0 w1 d g cap b s k (k+1) d):=by
   refine⟨by omega,by omega,rfl,?_,rfl,pK.o,cK.o,HB1.o⟩;have hkd:k<d.length:=by omega
   have hx:d[k]?=some d[k]:=List.getElem?_eq_getElem hkd;have hkk:ay s d[k]=false:=by
    unfold ay;rw[←HW.o.2.1.2 k f _ hf hx,hfs];simp
   rw[jr hx,hkk];have hall:(d.take k).filter (ay s)=d.take k:=by
    refine List.filter_eq_self.2 fun y hy=>?_
    obtain⟨t,ht,rfl⟩:=List.getElem_of_mem hy;have htk:t<k:=by rw[List.length_take] at ht;omega
    have hlt:t<l.length:=by omega
    have h1:=hno t l[t] htk (List.getElem?_eq_getElem hlt);have h2:=HW.o.2.1.2 t l[t] d[t] (List.getElem?_eq_getElem hlt) (List.getElem?_eq_getElem (by omega));unfold ay;rw[List.getElem_take,←h2];simp[h1]
   rw[hall];simp
  clear hf hfs hno;go_wp2_with fail
  go_loopw [5,6] (fun iv jv wr=>∃(i j:Nat) (D:List Fv),iv=.int .i64 i∧jv=.int .i64 j∧a4O w0 wr d g cap b s i j D) (fun _ jv _=>d.length-(intOf jv).toNat)
  case atStart=>exact⟨k,k+1,d,rfl,by go_num,HST.o⟩
  obtain⟨i,j,D,rfl,rfl,hD⟩:=hrel;have HD:=hid hD;have hij:=hD.lt;have hjn:=hD.le;clear hD hne HST;by_cases hlt:j<d.length
  ·have hlt2:(j:Int)<d.length:=by omega
   have hxe:D[j]?=some d[j]:=by
    have h1:(D.drop j)[0]?=(d.drop j)[0]?:=by rw[HD.o.high]
    rw[List.getElem?_drop,List.getElem?_drop,Nat.add_zero] at h1;rw[h1];exact List.getElem?_eq_getElem hlt
   have hde:Hid (d[j]?=some d[j]):=List.getElem?_eq_getElem hlt;generalize d[j]=x at *;have HXE:=hid hxe;obtain⟨nm,sz,a,n1,c1⟩:=x;obtain⟨p0,p1,p2⟩:=eO HD.o.own hxe hlt;clear hxe;simp only at p0 p1 p2;have hcl:=uV ⟨nm,sz,[]⟩ a n1 c1 s b (wr.alloc (.cells #[.string nm,.int .i64 sz,.slice a n1 c1] 129)) ((((Since.refl wr).alloc _).cell (p:=⟨b,0,none⟩) (World.block_lt_of_cell? wr _ HD.o.box)).trans HD.o.box);have TF:=hid hcl;clear hcl;go_wp2_with fail
   refine TF.o.mono ?_;rintro e w2 ⟨rfl,h2⟩;have hs2:Since wr w2:=((Since.refl wr).alloc _).trans h2;have Cb:=hid (En.bf HD.o.own hs2);have HS2:=hid (HD.o.since.trans hs2);have HB2:Hid (w2.cell? ⟨b,0,none⟩=some (.string s)):=(hs2.cell (p:=⟨b,0,none⟩) (World.block_lt_of_cell? wr _ HD.o.box)).trans HD.o.box;have nb:=heap_alloc_new wr (.cells #[.string nm,.int .i64 sz,.slice a n1 c1] 129);have nb2:w2.heap[wr.heap.size]?=some (.cells #[.string nm,.int .i64 sz,.slice a n1 c1] 129):=(h2.block _ (by simp)).trans nb;have q0:w2.cell? ⟨wr.heap.size,0,none⟩=some (.string nm):=by simp[World.cell?,nb2]
   have q1:w2.cell? ⟨wr.heap.size,1,none⟩=some (.int .i64 sz):=by simp[World.cell?,nb2]
   have q2:w2.cell? ⟨wr.heap.size,2,none⟩=some (.slice a n1 c1):=by simp[World.cell?,nb2]
   have hgl:g<wr.heap.size:=(HD.o.own.lt g rfl).2;clear nb nb2 hs2 h2 p0 p1 p2;by_cases e:nm=s
   ·have hd:decide (nm=s)=true:=decide_eq_true e;have hke:ay s (nm,sz,a,n1,c1)=false:=by unfold ay;simp[e]
    have HEE:=hid hke;clear hke;rw[hd];clear e hd;go_wp2_with fail
    go_roundw
    case rel=>
     refine⟨i,j+1,D,rfl,by go_num,⟨by omega,by omega,HD.o.len,?_,?_,Cb.o,HS2.o,HB2.o⟩⟩
     ·rw[HD.o.low,jr hde.out,HEE.o];simp
     rw[←List.drop_drop,HD.o.high,List.drop_drop]
    case measure=>simp[intOf];omega
   have hd:decide (nm=s)=false:=decide_eq_false e;have hke:ay s (nm,sz,a,n1,c1)=true:=by unfold ay;simp[e]
   have HEE:=hid hke;clear hke;rw[hd];clear e hd;have hil:i<D.length:=by rw[HD.o.len];omega
   obtain⟨r0,r1,r2⟩:=eO Cb.o (List.getElem?_eq_getElem hil) (by omega);have f0:=Cb.o.frozenAt (i*3);have f1:=Cb.o.frozenAt (i*3+1);have f2:=Cb.o.frozenAt (i*3+2);have HP:=hid (XB Cb.o i (nm,sz,a,n1,c1));have HPS:Hid (Since w0 (((w2.setCell ⟨g,i*3,none⟩ (.string nm)).setCell ⟨g,i*3+1,none⟩ (.int .i64 sz)).setCell ⟨g,i*3+2,none⟩ (.slice a n1 c1))):=((HS2.o.setCell (p:=⟨g,i*3,none⟩) hbase _).setCell (p:=⟨g,i*3+1,none⟩) hbase _).setCell (p:=⟨g,i*3+2,none⟩) hbase _;have HPB:Hid ((((w2.setCell ⟨g,i*3,none⟩ (.string nm)).setCell ⟨g,i*3+1,none⟩ (.int .i64 sz)).setCell ⟨g,i*3+2,none⟩ (.slice a n1 c1)).cell? ⟨b,0,none⟩=some (.string s)):=by
    rw[jq _ _ _ _ hbg,jq _ _ _ _ hbg,jq _ _ _ _ hbg];exact HB2.o
   go_wp2_with fail
   refine⟨⟨i+1,j+1,D.set i (nm,sz,a,n1,c1),by go_num,by go_num,⟨by omega,by omega,by rw[List.length_set];exact HD.o.len,?_,?_,HP.o,HPS.o,HPB.o⟩⟩,by simp[intOf];omega⟩
   ·rw[jr hde.out,HEE.o,←HD.o.low,List.take_add_one,List.take_set_of_le (Nat.le_refl i),List.getElem?_set_self hil];simp
   rw[List.drop_set_of_lt (by omega),←List.drop_drop,HD.o.high,List.drop_drop]
  have JB:j=d.length:=by omega
  subst JB;obtain⟨Z,hZ⟩:=PD wr 0 g (i*3) (d.length-i) (cap-i) (fun t ht=>by
   rw[HD.o.own.cellAt (i*3+t) (by omega),Option.isSome_iff_exists];exact⟨_,List.getElem?_eq_getElem (by rw[iq,HD.o.len];omega)⟩) (fun t ht=>HD.o.own.frozenAt (i*3+t))
  have hDi:(D.take i).length=i:=by rw[List.length_take,HD.o.len];omega
  have hlow:D.take i=d.filter (ay s):=by rw[HD.o.low,List.take_length]
  have hfin:(wr.setCells g (i*3) Z).ownsRow w0.heap.size 129 3 (.slice (some ⟨g,0,none⟩) i cap) i (aD (d.filter (ay s))):=by
   have h1:=XA HD.o.own (i:=i) (by omega);rw[uW,hlow] at h1;exact EP Z wr (i*3) (by rw[iq,←hlow,hDi];exact Nat.le_refl _) h1
  have HF:Hid ((wr.setCells g (i*3) Z).ownsRow w0.heap.size 129 3 (.slice (some ⟨g,0,none⟩) i cap) i (aD (d.filter (ay s)))∧Since w0 (wr.setCells g (i*3) Z)∧i=(d.filter (ay s)).length):=⟨hfin,yF hbase Z wr (i*3) HD.o.since,by rw[←hlow,hDi]⟩
  clear hfin hlow hDi;have hic:i≤cap:=by omega
  generalize wr.setCells g (i*3) Z=w5 at *;go_wp2_with fail
  go_ret;exact⟨i,HF.o.2.2,rfl,HF.o.1,HF.o.2.1⟩
 have hne:((-1:Int)==-1)=true:=rfl;have hall:d.filter (ay s)=d:=by
  refine List.filter_eq_self.2 fun y hy=>?_
  obtain⟨t,ht,rfl⟩:=List.getElem_of_mem hy;have hlt:t<l.length:=by omega
  have h1:=hno l[t] (List.getElem_mem hlt);have h2:=HW.o.2.1.2 t l[t] d[t] (List.getElem?_eq_getElem hlt) (List.getElem?_eq_getElem ht);unfold ay;rw[←h2];simp[h1]
 have Pq:=hid hall;clear hall hno;go_wp2_with fail
 go_ret;refine⟨d.length,by rw[Pq.o],rfl,?_,cK.o⟩;rw[Pq.o];exact pK.o
end Fl
end
section
namespace Fl
open Go.RowKit Go.Sort Go.Shelf
open En (Fi fA Ints dF Row)
open Vl (Fs VP dL dB Vs)
structure Each (P:Nat→Prop)(w:World)(d:List Fv)(l:List Fi):Prop where
 len:l.length=d.length
 each:∀(j:Nat) (f:Fi) (x:Fv),l[j]?=some f→d[j]?=some x→f.nm=x.1∧f.sz=x.2.1∧Ints w (.slice x.2.2.1 x.2.2.2.1 x.2.2.2.2) f.cs∧∀k o,x.2.2.1=some ⟨k,o,none⟩→k<w.heap.size∧¬P k
theorem iV {P:Nat→Prop}{w w':World}{a:Option Addr}{n c:Nat}{cs:List Int}(h:Ints w (.slice a n c) cs)(hf:Fs P w w')(hp:∀k o,a=some ⟨k,o,none⟩→k<w.heap.size∧¬P k):Ints w' (.slice a n c) cs:=by
 obtain⟨a1,c1,hv,hc,h⟩:=h;refine⟨a1,c1,hv,hc,fun hn=>?_⟩;obtain⟨k,o,ha,hk,hcell⟩:=h hn;injection hv with e1 e2 e3
 have hk2:=hp k o (e1.trans ha);exact⟨k,o,ha,Nat.lt_of_lt_of_le hk hf.size,fun j x hj=>(hf.cell (p:=⟨k,o+j,none⟩) hk hk2.2).trans (hcell j x hj)⟩
theorem Each.fs {P P':Nat→Prop}{w w':World}{d:List Fv}{l:List Fi}(h:Each P w d l)(hf:Fs P w w')(hp:∀k,k<w.heap.size→¬P k→¬P' k):Each P' w' d l:=by
 refine⟨h.len,fun j f x hj hx=>?_⟩;obtain⟨h1,h2,h3,h4⟩:=h.each j f x hj hx;exact⟨h1,h2,iV h3 hf h4,fun k o e=>⟨Nat.lt_of_lt_of_le (h4 k o e).1 hf.size,hp k (h4 k o e).1 (h4 k o e).2⟩⟩
theorem Each.since {P:Nat→Prop}{w w':World}{d:List Fv}{l:List Fi}(h:Each P w d l)(hs:Since w w'):Each P w' d l:=h.fs (Fs.ag hs) (fun _ _ h=>h)
theorem Each.AB {P:Nat→Prop}{w:World}{d:List Fv}{l:List Fi}{base g cap:Nat}(h:Each P w d l)(ho:w.ownsRow base 129 3 (.slice (some ⟨g,0,none⟩) d.length cap) d.length (aD d)):fA w (.slice (some ⟨g,0,none⟩) d.length cap) l:=by
 have hcap:d.length≤cap:=by
  rcases ho.2 with⟨h',_⟩ | ⟨g',cap',cur,h',_,_,hnc,_⟩
  ·simp at h'
  simp only[Value.slice.injEq,Option.some.injEq,Addr.mk.injEq,and_true,true_and] at h';obtain⟨_,rfl⟩:=h';exact hnc
 refine⟨some ⟨g,0,none⟩,cap,by rw[h.len],by rw[h.len];exact hcap,fun _=>⟨g,0,rfl,(ho.lt g rfl).2,fun j f hj=>?_⟩⟩;have hjl:j<d.length:=by rw[←h.len];exact(List.getElem?_eq_some_iff.1 hj).1
 obtain⟨h1,h2,h3,h4⟩:=h.each j f d[j] hj (List.getElem?_eq_getElem hjl);obtain⟨c0,c1,c2⟩:=eO ho (List.getElem?_eq_getElem hjl) hjl;refine⟨_,h3,?_,?_,?_⟩
 ·rw[Nat.zero_add,c0,h1]
 ·rw[Nat.zero_add,c1,h2]
 rw[Nat.zero_add,c2]
theorem TW {w:World}{base:Nat}{v:Value}{d:List Fv}(ho:w.ownsRow base 129 3 v d.length (aD d)):Sr w v d:=by
 rcases ho.2 with⟨h',h0⟩ | ⟨g',cap',cur,h',hb,hg,hnc,_⟩
 ·exact .inl ⟨List.length_eq_zero_iff.1 h0,0,h'⟩
 subst h';refine .inr ⟨g',0,cap',rfl,hnc,fun j u hj=>?_⟩;rw[Nat.zero_add,ho.cellAt j (by rw[←iq];exact(List.getElem?_eq_some_iff.1 hj).1)];exact hj
theorem Each.filter {P:Nat→Prop}{w:World}(s:ByteArray):∀{d:List Fv} {l:List Fi},Each P w d l→Each P w (d.filter (ay s)) (l.filter (fun f=>!decide (f.nm=s)))
 | [],l,h=>by
  have:l=[]:=List.length_eq_zero_iff.1 h.len;subst this;exact h
 | x::r,[],h=>by have:=h.len;simp at this
 | x::r,f::q,h=>by
  have hr:Each P w r q:=⟨by have:=h.len;simpa using this,fun j g y hj hy=>h.each (j+1) g y (by simpa using hj) (by simpa using hy)⟩
  have ih:=Each.filter s hr;have h0:=h.each 0 f x rfl rfl;have e:(!decide (f.nm=s))=ay s x:=by unfold ay;rw[h0.1]
  cases hk:ay s x with
  | false=>
   rw[hk] at e;rw[List.filter_cons_of_neg (by rw[hk];decide),List.filter_cons_of_neg (by rw[e];decide)];exact ih
  | true=>
   rw[hk] at e;rw[List.filter_cons_of_pos (by rw[hk]),List.filter_cons_of_pos (by rw[e])];refine⟨by simp[ih.len],fun j g y hj hy=>?_⟩;cases j with
   | zero=>
    simp at hj hy;subst hj hy;exact h0
   | succ j=>exact ih.each j g y (by simpa using hj) (by simpa using hy)
theorem XD (w:World)(s:ByteArray)(b:Nat)(hb:w.cell? ⟨b,0,none⟩=some (.string s)):Calls Tryz.prog 102 #[.slice none 0 0,.func (.func 117) #[] #[.pointer (some ⟨b,0,none⟩)]] w fun e w'=>e=.returned (.slice none 0 0)∧Since w w':=by
 have hidx:=vW [] (.slice none 0 0) s b w ⟨none,0,rfl,Nat.le_refl _,fun h=>by simp at h⟩ hb (by simp);have HX:=hid hidx;clear hidx hb;go_enter Tryz.func102,Tryz.ntmps102
 go_wp2_with fail
 refine HX.o.mono ?_;rintro e w1 ⟨⟨i,rfl,hi⟩,h1⟩;rcases hi with⟨k,rfl,hk,_⟩ | ⟨rfl,hno⟩
 ·simp at hk
 have HS:=hid h1;clear h1 hno;go_wp2_with fail
 go_ret;exact⟨rfl,HS.o⟩
theorem uX (P:Nat→Prop)(w:World)(fb:Nat)(lv:Value)(d:List Fv)(l:List Fi)(s:ByteArray)(h1:w.cell? ⟨fb,1,none⟩=some lv)(hs:Sr w lv d)(he:Each P w d l)(hn:d.length≤1000) :
  Calls Tryz.prog 44 #[.pointer (some ⟨fb,0,none⟩),.string s] w fun e w'=>∃v',e=.returned v'∧w'.ownsRow w.heap.size 129 3 v' (d.filter (ay s)).length (aD (d.filter (ay s)))∧Since w w'∧(v'=.slice none 0 0→d=[]):=by
 have HC:=hid (fI lv d w hs hn);have HE:=hid he;have HN:=hid hn;obtain⟨la,ln,lc,rfl⟩:∃a n c,lv=.slice a n c:=by
  rcases hs with⟨_,c,rfl⟩ | ⟨k,o,c,rfl,_⟩
  ·exact⟨_,_,_,rfl⟩
  exact⟨_,_,_,rfl⟩
 clear hs he hn;go_enter Tryz.func44,Tryz.ntmps44
 go_wp2_with fail
 refine HC.o.mono ?_;rintro e w1 ⟨v1,rfl,ho,hs1⟩;have hbx:(w1.alloc (.cells #[.string s] 9)).cell? ⟨w1.heap.size,0,none⟩=some (.string s):=by
  have TY:∀W:World,W.heap[w1.heap.size]?=some (.cells #[.string s] 9)→W.cell? ⟨w1.heap.size,0,none⟩=some (.string s):=fun W hW=>by simp[World.cell?,hW]
  exact TY _ (heap_alloc_new w1 _)
 have hs2:Since w1 (w1.alloc (.cells #[.string s] 9)):=(Since.refl w1).alloc _;rcases ho.2 with⟨h',h0⟩ | ⟨g,cap,cur,h',hb,hg,hnc,_⟩
 ·subst h';have hd0:=List.length_eq_zero_iff.1 h0;have HD0:=hid hd0;have HDL:Hid (Calls Tryz.prog 102 #[.slice none 0 0,.func (.func 117) #[] #[.pointer (some ⟨w1.heap.size,0,none⟩)]] (w1.alloc (.cells #[.string s] 9)) fun e w'=>e=.returned (.slice none 0 0)∧Since (w1.alloc (.cells #[.string s] 9)) w'):=XD _ s w1.heap.size hbx;have HS2:=hid (hs1.trans hs2);clear ho h0 hd0 hbx hs1 hs2;go_wp2_with fail
  refine(ni s w1).mono ?_;rintro e w2 ⟨rfl,rfl⟩;go_wp2_with fail
  refine HDL.o.mono ?_;rintro e w3 ⟨rfl,hs3⟩;have dZ:=hid (HS2.o.trans hs3);clear hs3;go_wp2_with fail
  go_ret;refine⟨_,rfl,?_,dZ.o,fun _=>HD0.o⟩;rw[HD0.o];exact World.ownsRow_nil _ _ _ _
 subst h';have hgl:g<w1.heap.size:=(ho.lt g rfl).2;have ho2:=En.bf ho hs2;have he2:=(HE.o.since hs1).since hs2;have HDL:Hid (Calls Tryz.prog 102 #[.slice (some ⟨g,0,none⟩) d.length cap,.func (.func 117) #[] #[.pointer (some ⟨w1.heap.size,0,none⟩)]] (w1.alloc (.cells #[.string s] 9)) fun e w'=>∃i,i=(d.filter (ay s)).length∧e=.returned (.slice (some ⟨g,0,none⟩) i cap)∧w'.ownsRow w.heap.size 129 3 (.slice (some ⟨g,0,none⟩) i cap) i (aD (d.filter (ay s)))∧Since w w'):=
  XC w _ d l g cap s w1.heap.size ho2 (he2.AB ho2) HE.o.len (fun j f x hj hx=>(HE.o.each j f x hj hx).1) hbx (by omega) (hs1.trans hs2) HN.o
 clear ho hbx hs1 hs2 he2 ho2 hb hg hnc hgl;go_wp2_with fail
 refine(ni s w1).mono ?_;rintro e w2 ⟨rfl,rfl⟩;go_wp2_with fail
 refine HDL.o.mono ?_;rintro e w3 ⟨i,hi,rfl,ho3,hs3⟩;have HF:=hid (an hi (an ho3 hs3));clear hi ho3 hs3;go_wp2_with fail
 go_ret;refine⟨_,rfl,?_,HF.o.2.2,fun e=>by simp at e⟩;have:=HF.o.2.1;rw[HF.o.1] at this ⊢;exact this
end Fl
end
section
namespace Fl
open Go.RowKit Go.Sort Go.Shelf
open En (Fi fA Ints dF Row)
open Vl
theorem TZ {P:Nat→Prop}{w0 w w':World}{vb db cb:Nat}{kb kt:ByteArray}{S:Vs}{v:Value}(h:dL w0 w vb db cb kb kt S v)(hf:Fs P w w')(hP:∀k,P k→w0.heap.size≤k)(hn:∀k,VP vb db cb v k→¬P k):dL w0 w' vb db cb kb kt S v:=
 ⟨rY h.aQ hf (hn _ (.inl rfl)),SK h.dev hf (hn _ (.inr (.inl rfl))) (fun k hk=>hn k (.inr (.inr (.inr hk)))),rY h.iN hf (hn _ (.inr (.inr (.inl rfl)))),h.ne,h.own,h.ty.blk (hf.block vb h.ty.lt (hn _ (.inl rfl))),hf.since h.since hP,h.lo⟩
theorem Each.cons {P:Nat→Prop}{w:World}{x:Fv}{d:List Fv}{f:Fi}{l:List Fi}(h0:f.nm=x.1∧f.sz=x.2.1∧Ints w (.slice x.2.2.1 x.2.2.2.1 x.2.2.2.2) f.cs∧∀k o,x.2.2.1=some ⟨k,o,none⟩→k<w.heap.size∧¬P k)(h:Each P w d l):Each P w (x::d) (f::l):=by
 refine⟨by simp[h.len],fun j g y hj hy=>?_⟩;cases j with
 | zero=>
  simp at hj hy;subst hj hy;exact h0
 | succ j=>exact h.each j g y (by simpa using hj) (by simpa using hy)
theorem Each.tail {P:Nat→Prop}{w:World}{x:Fv}{d:List Fv}{f:Fi}{l:List Fi}(h:Each P w (x::d) (f::l)):Each P w d l:=⟨by have:=h.len;simpa using this,fun j g y hj hy=>h.each (j+1) g y (by simpa using hj) (by simpa using hy)⟩
theorem Each.head {P:Nat→Prop}{w:World}{x:Fv}{d:List Fv}{f:Fi}{l:List Fi}(h:Each P w (x::d) (f::l)):f.nm=x.1∧f.sz=x.2.1∧Ints w (.slice x.2.2.1 x.2.2.2.1 x.2.2.2.2) f.cs∧∀k o,x.2.2.1=some ⟨k,o,none⟩→k<w.heap.size∧¬P k:=h.each 0 f x rfl rfl
theorem Each.more {P:Nat→Prop}{w:World}{x:Fv}{d:List Fv}{l:List Fi}(h:Each P w (x::d) l):∃f q,l=f::q:=by
 cases l with
 | nil=>have:=h.len;simp at this
 | cons f q=>exact⟨f,q,rfl⟩
theorem Each.perm {P:Nat→Prop}{w:World}{d d':List Fv}(hp:d.Perm d'):∀{l:List Fi},Each P w d l→∃l',l.Perm l'∧Each P w d' l':=by
 induction hp with
 | nil=>exact fun h=>⟨_,List.Perm.refl _,h⟩
 | cons x _ ih=>
  intro l h;obtain⟨f,q,rfl⟩:=h.more;obtain⟨q',h1,h2⟩:=ih h.tail;exact⟨f::q',h1.cons f,h2.cons h.head⟩
 | swap x y r=>
  intro l h;obtain⟨f,q,rfl⟩:=h.more;obtain⟨g,q,rfl⟩:=h.tail.more;exact⟨g::f::q,List.Perm.swap g f q,(h.tail.tail.cons h.head).cons h.tail.head⟩
 | trans _ _ ih1 ih2=>
  intro l h;obtain⟨l1,p1,h1⟩:=ih1 h;obtain⟨l2,p2,h2⟩:=ih2 h1;exact⟨l2,p1.trans p2,h2⟩
theorem Each.append {P:Nat→Prop}{w:World}{x:Fv}{f:Fi}(h0:f.nm=x.1∧f.sz=x.2.1∧Ints w (.slice x.2.2.1 x.2.2.2.1 x.2.2.2.2) f.cs∧∀k o,x.2.2.1=some ⟨k,o,none⟩→k<w.heap.size∧¬P k):∀{d:List Fv} {l:List Fi},Each P w d l→Each P w (d++[x]) (l++[f])
 | [],[],h=>h.cons h0
 | [],g::q,h=>by have:=h.len;simp at this
 | y::r,[],h=>by have:=h.len;simp at this
 | y::r,g::q,h=>(Each.append h0 h.tail).cons h.head
def pY (l:List Fi):Prop:=l.Pairwise (fun f g=>Op.bytesLess g.nm.toList f.nm.toList=false)
theorem MZ {P:Nat→Prop}{w:World}{d:Array Fv}{l:List Fi}(hs:SortedIn (ltOf JH) 0 d.size d)(he:Each P w d.toList l):pY l:=by
 refine List.pairwise_iff_getElem.2 fun i j hi hj hij=>?_
 have hl:l.length=d.size:=by rw[he.len,Array.length_toList]
 have h:=hs i j (Nat.zero_le _) hij (by omega);have ei:=(he.each i l[i] d[i] (List.getElem?_eq_getElem hi) (by rw[Array.getElem?_toList];exact Array.getElem?_eq_getElem (by omega))).1;have ej:=(he.each j l[j] d[j] (List.getElem?_eq_getElem hj) (by rw[Array.getElem?_toList];exact Array.getElem?_eq_getElem (by omega))).1;rw[getElem!_pos d i (by omega),getElem!_pos d j (by omega),ltF] at h;rw[ei,ej,bytesLess_eq];exact h
structure Fm (w0 w:World)(fb vb db cb:Nat)(kb kt:ByteArray)(S:Vs)(v lv:Value)(d:List Fv)(l:List Fi):Prop where
 dO:dL w0 w vb db cb kb kt S v
 c0:w.cell? ⟨fb,0,none⟩=some (.pointer (some ⟨vb,0,none⟩))
 c1:w.cell? ⟨fb,1,none⟩=some lv
 fz:w.frozen? ⟨fb,1,none⟩=false
 lo:w0.heap.size≤fb
 VJ:¬VP vb db cb v fb
 sr:Sr w lv d
 blk:∀k o n c,lv=.slice (some ⟨k,o,none⟩) n c→k<w.heap.size∧¬(k=fb∨VP vb db cb v k)
 each:Each (fun k=>k=fb∨VP vb db cb v k) w d l
 ty:Ty w fb 118
theorem Sr.fs {P:Nat→Prop}{w w':World}{v:Value}{d:List Fv}(h:Sr w v d)(hf:Fs P w w')(hb:∀k o n c,v=.slice (some ⟨k,o,none⟩) n c→k<w.heap.size∧¬P k):Sr w' v d:=by
 rcases h with h | ⟨k,o,c,rfl,hc,hcell⟩
 ·exact .inl h
 exact .inr ⟨k,o,c,rfl,hc,fun j u hj=>(hf.cell (p:=⟨k,o+j,none⟩) (hb k o _ _ rfl).1 (hb k o _ _ rfl).2).trans (hcell j u hj)⟩
section
variable {w0 w w':World} {fb vb db cb:Nat} {kb kt:ByteArray} {S:Vs} {v lv:Value} {d:List Fv} {l:List Fi}
theorem Fm.fs {P:Nat→Prop}(h:Fm w0 w fb vb db cb kb kt S v lv d l)(hf:Fs P w w')(hP:∀k,P k→w0.heap.size≤k)(hn:∀k,k<w.heap.size→P k→k≠fb∧¬VP vb db cb v k)(hb:∀k o n c,lv=.slice (some ⟨k,o,none⟩) n c→¬P k)(he:∀(j:Nat) (x:Fv),d[j]?=some x→∀k o,x.2.2.1=some ⟨k,o,none⟩→¬P k):Fm w0 w' fb vb db cb kb kt S v lv d l:=by
 have hfl:fb<w.heap.size:=World.block_lt_of_cell? w _ h.c0;have hfp:¬P fb:=fun hp=>(hn fb hfl hp).1 rfl
 have hvl:∀k,VP vb db cb v k→k<w.heap.size:=fun k hk=>by
  rcases Nat.lt_or_ge k w.heap.size with h1 | h1
  ·exact h1
  exact absurd hk (h.dO.qi h1)
 have hvp:∀k,VP vb db cb v k→¬P k:=fun k hk hp=>(hn k (hvl k hk) hp).2 hk
 refine⟨TZ h.dO hf hP hvp,(hf.cell hfl hfp).trans h.c0,(hf.cell hfl hfp).trans h.c1,(hf.frozen hfl hfp).trans h.fz,h.lo,h.VJ,h.sr.fs hf (fun k o n c e=>⟨(h.blk k o n c e).1,hb k o n c e⟩),fun k o n c e=>⟨Nat.lt_of_lt_of_le (h.blk k o n c e).1 hf.size,(h.blk k o n c e).2⟩,⟨h.each.len,fun j f x hj hx=>?_⟩,h.ty.blk (hf.block fb hfl hfp)⟩;obtain⟨h1,h2,h3,h4⟩:=h.each.each j f x hj hx;exact⟨h1,h2,iV h3 hf (fun k o e=>⟨(h4 k o e).1,he j x hx k o e⟩),fun k o e=>⟨Nat.lt_of_lt_of_le (h4 k o e).1 hf.size,(h4 k o e).2⟩⟩
theorem Fm.since (h:Fm w0 w fb vb db cb kb kt S v lv d l)(hs:Since w w'):Fm w0 w' fb vb db cb kb kt S v lv d l:=
 h.fs (P:=fun _=>False) (Fs.ag hs) (fun _ h=>h.elim) (fun _ _ h=>h.elim) (fun _ _ _ _ _ h=>h) (fun _ _ _ _ _ _ h=>h)
theorem Fm.vto {S':Vs}(h:Fm w0 w fb vb db cb kb kt S v lv d l)(ht:dB w0 w w' vb db cb kb kt S' v):∃v',Fm w0 w' fb vb db cb kb kt S' v' lv d l∧Fs (VP vb db cb v) w w'∧∀k,k<w.heap.size→¬VP vb db cb v k→¬VP vb db cb v' k:=by
 obtain⟨v',hv,hf,hx⟩:=ht;have hfl:fb<w.heap.size:=World.block_lt_of_cell? w _ h.c0;have hnx:∀k,k<w.heap.size→¬VP vb db cb v k→¬VP vb db cb v' k:=fun k hk hn h'=>by
  rcases VP.nx hx k h' with h1 | h1
  ·exact hn h1
  omega
 refine⟨v',⟨hv,(hf.cell hfl h.VJ).trans h.c0,(hf.cell hfl h.VJ).trans h.c1,(hf.frozen hfl h.VJ).trans h.fz,h.lo,hnx fb hfl h.VJ,h.sr.fs hf (fun k o n c e=>⟨(h.blk k o n c e).1,fun hp=>(h.blk k o n c e).2 (.inr hp)⟩),fun k o n c e=>⟨Nat.lt_of_lt_of_le (h.blk k o n c e).1 hf.size,?_⟩,⟨h.each.len,fun j f x hj hx=>?_⟩,h.ty.blk (hf.block fb hfl h.VJ)⟩,hf,hnx⟩
 ·obtain⟨h1,h2⟩:=h.blk k o n c e;exact fun hp=>hp.elim (fun e=>h2 (.inl e)) (hnx k h1 (fun h'=>h2 (.inr h')))
 obtain⟨h1,h2,h3,h4⟩:=h.each.each j f x hj hx;exact⟨h1,h2,iV h3 hf (fun k o e=>⟨(h4 k o e).1,fun hp=>(h4 k o e).2 (.inr hp)⟩),fun k o e=>⟨Nat.lt_of_lt_of_le (h4 k o e).1 hf.size,fun hp=>hp.elim (fun e'=>(h4 k o e).2 (.inl e')) (hnx k (h4 k o e).1 (fun h'=>(h4 k o e).2 (.inr h')))⟩⟩
end
end Fl
end
section
namespace Fl
open Go.RowKit Go.Sort Go.Shelf
open En (Fi fA Ints dF Row)
open Vl
theorem AO (d:List Fv)(t:Nat)(ht:t<d.length*3):(aD d)[t]?=some ((gz d.toArray[t / 3]!)[t % 3]!):=by
 have hj:t / 3<d.length:=by omega
 have hx:d[t / 3]?=some d[t / 3]:=List.getElem?_eq_getElem hj;have ea:d.toArray[t / 3]! = d[t / 3]:=by rw[getElem!_pos d.toArray (t / 3) (by simpa using hj)];simp
 rw[ea];generalize d[t / 3]=x at *;obtain⟨e0,e1,e2⟩:=iw d (t / 3) x hx;have h3:t % 3=0∨t % 3=1∨t % 3=2:=by omega
 rcases h3 with h | h | h
 ·rw[show (aD d)[t]?=(aD d)[t / 3*3]? by congr 1;omega,e0,h]
  rfl
 ·rw[show (aD d)[t]?=(aD d)[t / 3*3+1]? by congr 1;omega,e1,h]
  rfl
 rw[show (aD d)[t]?=(aD d)[t / 3*3+2]? by congr 1;omega,e2,h]
 rfl
theorem AP {w:World}{base g cap:Nat}{d:List Fv}(ho:w.ownsRow base 129 3 (.slice (some ⟨g,0,none⟩) d.length cap) d.length (aD d)):HoldsK gz 3 w g 0 d.toArray:=by
 intro t ht;rw[size_flatK] at ht;have ht':t<d.length*3:=by simpa using ht
 rw[get_flatK _ _ _ _ ht,Nat.zero_add];exact⟨(ho.cellAt t ht').trans (AO d t ht'),ho.frozenAt t⟩
theorem EQ {w:World}{g cap:Nat}{d:Array Fv}(h:HoldsK gz 3 w g 0 d)(hc:d.size≤cap):Sr w (.slice (some ⟨g,0,none⟩) d.size cap) d.toList:=by
 refine .inr ⟨g,0,cap,by rw[Array.length_toList],by rw[Array.length_toList];exact hc,fun j u hj=>?_⟩;have hjl:j<d.toList.length*3:=by rw[←iq];exact(List.getElem?_eq_some_iff.1 hj).1
 have hjs:j<d.size*3:=by simpa using hjl
 have h1:=(h j (by rw[size_flatK];exact hjs)).1;rw[get_flatK _ _ _ _ hjs] at h1;rw[AO d.toList j hjl] at hj;rw[h1,←hj]
 rfl
theorem Each.a7S {P:Nat→Prop}{w:World}{d:List Fv}{l:List Fi}{g cap:Nat}(h:Each P w d l)(ho:Sr w (.slice (some ⟨g,0,none⟩) d.length cap) d)(hg:g<w.heap.size):fA w (.slice (some ⟨g,0,none⟩) d.length cap) l:=by
 rcases ho with⟨_,c,hv⟩ | ⟨k,o,c,hv,hc,hcell⟩
 ·simp at hv
 simp only[Value.slice.injEq,Option.some.injEq,Addr.mk.injEq,and_true,true_and] at hv;obtain⟨⟨rfl,rfl⟩,rfl⟩:=hv;refine⟨some ⟨g,0,none⟩,cap,by rw[h.len],by rw[h.len];exact hc,fun _=>⟨g,0,rfl,hg,fun j f hj=>?_⟩⟩;have hjl:j<d.length:=by rw[←h.len];exact(List.getElem?_eq_some_iff.1 hj).1
 obtain⟨h1,h2,h3,h4⟩:=h.each j f d[j] hj (List.getElem?_eq_getElem hjl);obtain⟨e0,e1,e2⟩:=iw d j d[j] (List.getElem?_eq_getElem hjl);refine⟨_,h3,?_,?_,?_⟩
 ·rw[hcell _ _ e0,h1]
 ·rw[Nat.add_assoc,hcell _ _ e1,h2]
 rw[Nat.add_assoc,hcell _ _ e2]
theorem bH {S S':Nat→Prop}{w w':World}(h:Fs S w w')(hs:∀k,S k→S' k):Fs S' w w':=⟨h.os,h.tape,h.output,h.size,fun k hk hn=>h.block k hk (fun e=>hn (hs k e))⟩
theorem Each.wider {P P':Nat→Prop}{w:World}{d:List Fv}{l:List Fi}(h:Each P w d l)(hp:∀k,k<w.heap.size→P' k→P k):Each P' w d l:=
 ⟨h.len,fun j f x hj hx=>by
  obtain⟨h1,h2,h3,h4⟩:=h.each j f x hj hx;exact⟨h1,h2,h3,fun k o e=>⟨(h4 k o e).1,fun hk=>(h4 k o e).2 (hp k (h4 k o e).1 hk)⟩⟩⟩
section
variable {w0 w w':World} {fb vb db cb:Nat} {kb kt:ByteArray} {S:Vs} {v lv:Value} {d d0:List Fv} {l l0:List Fi}
theorem Fm.store {g cap:Nat}{d':List Fv}{l':List Fi}(h:Fm w0 w fb vb db cb kb kt S v lv d l)(hs:Sr w (.slice (some ⟨g,0,none⟩) d'.length cap) d')(hg:g<w.heap.size∧¬(g=fb∨VP vb db cb v g))(he:Each (fun k=>k=fb∨VP vb db cb v k) w d' l') :
  Fm w0 (w.setCell ⟨fb,1,none⟩ (.slice (some ⟨g,0,none⟩) d'.length cap)) fb vb db cb kb kt S v (.slice (some ⟨g,0,none⟩) d'.length cap) d' l'∧Fs (fun k=>k=fb) w (w.setCell ⟨fb,1,none⟩ (.slice (some ⟨g,0,none⟩) d'.length cap)):=by
 have hf:Fs (fun k=>k=fb) w (w.setCell ⟨fb,1,none⟩ (.slice (some ⟨g,0,none⟩) d'.length cap)):=⟨rfl,rfl,rfl,by simp,fun k _ hk=>heap_setCell_other w ⟨fb,1,none⟩ k _ (fun e=>hk e)⟩
 refine⟨⟨TZ h.dO hf (fun k hk=>by subst hk;exact h.lo) (fun k hk e=>by subst e;exact h.VJ hk),(World.cell?_setCell_other _ _ _ _ (by simp)).trans h.c0,World.cell?_setCell_same _ _ _ h.c1,by rw[World.frozen?_setCell];exact h.fz,h.lo,h.VJ,hs.fs hf (fun k o n c e=>?_),fun k o n c e=>?_,he.fs (bH hf (fun k e=>.inl e)) (fun _ _ h=>h),h.ty.setCell _ _⟩,hf⟩
 ·simp only[Value.slice.injEq,Option.some.injEq,Addr.mk.injEq,and_true,true_and] at e;obtain⟨⟨rfl,_⟩,_⟩:=e;exact⟨hg.1,fun e=>hg.2 (.inl e)⟩
 simp only[Value.slice.injEq,Option.some.injEq,Addr.mk.injEq,and_true,true_and] at e;obtain⟨⟨rfl,_⟩,_⟩:=e;exact⟨by simpa using hg.1,hg.2⟩
end
end Fl
end
section
namespace Fl
open Go.RowKit Go.Sort Go.Shelf
open En (Fi fA Ints dF Row)
open Vl
section
variable {w0 w w':World} {fb vb db cb:Nat} {kb kt:ByteArray} {S:Vs} {v lv:Value} {d d0:List Fv} {l l0:List Fi}
def Nl (w:World)(lv:Value)(d:List Fv)(dK:Value)(d':List Fv):Prop:=
 (∀k o n c,dK=.slice (some ⟨k,o,none⟩) n c→w.heap.size≤k∨∃o' n' c',lv=.slice (some ⟨k,o',none⟩) n' c')∧(∀x ∈ d',∀k o,x.2.2.1=some ⟨k,o,none⟩→w.heap.size≤k∨∃y ∈ d,∃o',y.2.2.1=some ⟨k,o',none⟩)
def bq (kb kt:ByteArray)(l:List Fi)(S:Vs):Int × Vs:=iO kb kt [0,1,2] ⟨(En.print l).toArray⟩ S
theorem yH (B:Base w0 kb kt)(LB:En.Lb w0)(n:Int)(ho:S.ok n)(hn:n+1000<900000000)(h:Fm w0 w fb vb db cb kb kt S v lv d0 l0){g cap base:Nat}(own:w.ownsRow base 129 3 (.slice (some ⟨g,0,none⟩) d.length cap) d.length (aD d))(hg0:w0.heap.size≤g)(hgf:g≠fb)(hgv:¬VP vb db cb v g)(hgl:∀k o n c,lv=.slice (some ⟨k,o,none⟩) n c→k≠g)(hge:∀(j:Nat) (x:Fv),d0[j]?=some x→∀k o,x.2.2.1=some ⟨k,o,none⟩→k≠g)(he:Each (fun k=>k=g∨k=fb∨VP vb db cb v k) w d l)(h12:d.length≤12)(hz:En.lV l)(hr:∀l',l.Perm l'→pY l'→En.right l'=true) :
  Calls Tryz.prog 48 #[.pointer (some ⟨fb,0,none⟩),.slice (some ⟨g,0,none⟩) d.length cap] w fun e w'=>∃d' l' v',l.Perm l'∧pY l'∧e=.returned (ev (bq kb kt l' S).1)∧(bq kb kt l' S).2.ok (n+3)∧
   ((bq kb kt l' S).1=0→Fm w0 w' fb vb db cb kb kt (bq kb kt l' S).2 v' (.slice (some ⟨g,0,none⟩) d.length cap) d' l')∧((bq kb kt l' S).1≠0→Fm w0 w' fb vb db cb kb kt (bq kb kt l' S).2 v' lv d0 l0)∧Fs (fun k=>k=g∨k=fb∨VP vb db cb v k) w w'∧(∀k,k<w.heap.size→¬VP vb db cb v k→¬VP vb db cb v' k)∧d'.Perm d:=by
 have hgw:g<w.heap.size:=(own.lt g rfl).2;have hcap:d.length≤cap:=by
  rcases own.2 with⟨h',_⟩ | ⟨g',cap',cur,h',_,_,hnc,_⟩
  ·simp at h'
  simp only[Value.slice.injEq,Option.some.injEq,Addr.mk.injEq,and_true,true_and] at h';obtain⟨_,rfl⟩:=h';exact hnc
 have hso:=Pz g 0 cap d.toArray w (AP own) hgw (by simpa using h12);have a4P:Calls Tryz.prog 106 #[.slice (some ⟨g,0,none⟩) d.length cap,.func (.func 107) #[] #[]] w fun e w'=>e=.returned (.tuple #[])∧∃d':Array Fv,d'.size=d.length∧d'.toList.Perm d∧SortedIn (ltOf JH) 0 d.length d'∧HoldsK gz 3 w' g 0 d'∧Fs (fun k=>k=g) w w':=by
  simpa using hso
 have HSO:=hid a4P;clear a4P;have HF:=hid h;have HE:=hid he;have HG:Hid ((w0.heap.size≤g∧g≠fb∧¬VP vb db cb v g)∧(∀k o n c,lv=.slice (some ⟨k,o,none⟩) n c→k≠g)∧(∀(j:Nat) (x:Fv),d0[j]?=some x→∀k o,x.2.2.1=some ⟨k,o,none⟩→k≠g)∧g<w.heap.size∧d.length≤cap):=⟨⟨hg0,hgf,hgv⟩,hgl,hge,hgw,hcap⟩
 have HR:=hid (an hr hz);have HO:=hid (an ho hn);clear hso h he own hg0 hgf hgv hgl hge hr hz ho hn h12 hgw hcap;go_enter Tryz.func48,Tryz.ntmps48
 go_wp2_with fail
 refine HSO.o.mono ?_;rintro e w1 ⟨rfl,da,hsz,hp,hst,hH,hf⟩;have hF1:Fm w0 w1 fb vb db cb kb kt S v lv d0 l0:=HF.o.fs hf (fun k e=>by subst e;exact HG.o.1.1) (fun k _ e=>by subst e;exact HG.o.1.2) HG.o.2.1 HG.o.2.2.1;have hg1:g<w1.heap.size:=Nat.lt_of_lt_of_le HG.o.2.2.2.1 hf.size;obtain⟨l',hpl,he1⟩:=(HE.o.fs (P':=fun k=>k=g∨k=fb∨VP vb db cb v k) (bH hf (fun k e=>.inl e)) (fun _ _ h=>h)).perm hp.symm;have hrise:pY l':=MZ (by rw[hsz];exact hst) he1;have kK:=EQ hH (cap:=cap) (by rw[hsz];exact HG.o.2.2.2.2);have hdl:da.toList.length=d.length:=by rw[Array.length_toList];exact hsz
 rw[hsz] at kK;have sJ:fA w1 (.slice (some ⟨g,0,none⟩) d.length cap) l':=by
  have:=he1.a7S (g:=g) (cap:=cap) (by rw[hdl];exact kK) hg1;rw[hdl] at this;exact this
 have Ua:En.lV l':=fun f hf=>HR.o.2 f (hpl.mem_iff.2 hf)
 have Xw:Hid (Calls Tryz.prog 98 #[.slice (some ⟨g,0,none⟩) d.length cap] w1 fun e w'=>e=.returned (.tuple #[.string ⟨(En.print l').toArray⟩,.nilIface])∧Since w1 w'):=En.Aq l' _ w1 sJ Ua (LB.since hF1.dO.since) (HR.o.1 l' hpl hrise);have H1:Hid (Fm w0 w1 fb vb db cb kb kt S v lv d0 l0∧Each (fun k=>k=g∨k=fb∨VP vb db cb v k) w1 da.toList l'∧Sr w1 (.slice (some ⟨g,0,none⟩) d.length cap) da.toList∧da.toList.length=d.length∧(l.Perm l'∧pY l')∧Fs (fun k=>k=g) w w1∧g<w1.heap.size):=⟨hF1,he1,kK,hdl,⟨hpl,hrise⟩,hf,hg1⟩
 have HPD:=hid hp;clear hF1 he1 kK hdl hpl hrise hf hg1 sJ Ua hH hst hp hsz;go_wp2_with fail
 refine Xw.o.mono ?_;rintro e w2 ⟨rfl,hs2⟩;have HS2:=hid hs2;clear hs2;go_wp2_with fail
 refine(qp w2).mono ?_;rintro e w3 ⟨rfl,ho3,hs3⟩;have yI:=HS2.o.trans hs3;have hF3:=H1.o.1.since yI;have hints:Ints w3 (.slice (some ⟨w2.heap.size,0,none⟩) 3 3) [0,1,2]:=by
  refine⟨_,3,rfl,Nat.le_refl _,fun _=>⟨w2.heap.size,0,rfl,(ho3.lt _ rfl).2,fun j x hj=>?_⟩⟩;rw[Nat.zero_add,ho3.cellAt j (by have:=(List.getElem?_eq_some_iff.1 hj).1;simpa using this)]
  match j,hj with
  | 0,hj=>simp at hj;subst hj;rfl
  | 1,hj=>simp at hj;subst hj;rfl
  | 2,hj=>simp at hj;subst hj;rfl
  | j+3,hj=>simp at hj
 have Qx:¬VP vb db cb v w2.heap.size:=(H1.o.1.dO.go HS2.o).qi (Nat.le_refl _);have HW:Hid (Calls Tryz.prog 47 #[.pointer (some ⟨fb,0,none⟩),.slice (some ⟨w2.heap.size,0,none⟩) 3 3,.string ⟨(En.print l').toArray⟩] w3 fun e w'=>e=.returned (ev (bq kb kt l' S).1)∧dB w0 w3 w' vb db cb kb kt (bq kb kt l' S).2 v∧(bq kb kt l' S).2.ok (n+3)):=
  yB B n HO.o.1 HO.o.2 hF3.dO hF3.c0 hF3.VJ [0,1,2] _ hints (fun k o m c e=>by simp at e;rw[←e.1.1];exact Qx) (by simp) _
 have H3:=hid (an hF3 yI);clear yI hF3 hints Qx ho3 hs3;obtain⟨R,hR⟩:∃R,bq kb kt l' S=R:=⟨_,rfl⟩
 obtain⟨rn,S'⟩:=R;rw[hR] at HW;have HRR:=hid hR;clear hR;go_wp2_with fail
 refine HW.o.mono ?_;rintro e w4 ⟨rfl,Na,hok⟩;obtain⟨v',hF4,Hf,hnx⟩:=H3.o.1.vto Na;have a7U:w.heap.size≤w3.heap.size:=Nat.le_trans H1.o.2.2.2.2.2.1.size H3.o.2.size;have hnx2:∀k,k<w.heap.size→¬VP vb db cb v k→¬VP vb db cb v' k:=fun k hk=>hnx k (by omega)
 have hfw:Fs (fun k=>k=g∨k=fb∨VP vb db cb v k) w w4:=((bH H1.o.2.2.2.2.2.1 (fun k e=>.inl e)).trans (Fs.ag H3.o.2)).trans (bH Hf (fun k e=>.inr (.inr e)));have hg3:g<w3.heap.size:=Nat.lt_of_lt_of_le H1.o.2.2.2.2.2.2 H3.o.2.size;have a4S:Sr w4 (.slice (some ⟨g,0,none⟩) d.length cap) da.toList:=(H1.o.2.2.1.fs (P:=fun _=>False) (Fs.ag H3.o.2) (fun k o n c e=>by simp at e;rw[←e.1.1];exact⟨H1.o.2.2.2.2.2.2,fun h=>h⟩)).fs Hf (fun k o n c e=>by simp at e;rw[←e.1.1];exact⟨hg3,HG.o.1.2.2⟩);have XE:Each (fun k=>k=fb∨VP vb db cb v' k) w4 da.toList l':=(H1.o.2.1.since H3.o.2).fs (bH Hf (fun k e=>.inr (.inr e))) (fun k hk hn h'=>h'.elim (fun e=>hn (.inr (.inl e))) (hnx k hk (fun hv=>hn (.inr (.inr hv)))));have hg4:g<w4.heap.size∧¬(g=fb∨VP vb db cb v' g):=⟨Nat.lt_of_lt_of_le hg3 Hf.size,fun h'=>h'.elim (fun e=>HG.o.1.2.1 e) (hnx g hg3 HG.o.1.2.2)⟩
 have H4:=hid (an hF4 (an hok (an hfw hnx2)));have hdl:=H1.o.2.2.2.1;have JJ:=hF4.store (g:=g) (cap:=cap) (d':=da.toList) (l':=l') (by rw[hdl];exact a4S) hg4 XE;rw[hdl] at JJ;have H5:=hid JJ;have p1:=hF4.c1;have p2:=hF4.fz;clear Na hok Hf hnx a7U hnx2 hfw hg3 a4S XE hg4 hdl JJ hF4;by_cases e0:rn=0
 ·subst e0;rw[vX];go_wp2_with fail
  go_ret;refine⟨da.toList,l',v',H1.o.2.2.2.2.1.1,H1.o.2.2.2.2.1.2,by rw[HRR.o];rfl,by rw[HRR.o];exact H4.o.2.1,fun _=>by rw[HRR.o];exact H5.o.1,fun hne=>absurd (by rw[HRR.o]) hne,H4.o.2.2.1.trans (bH H5.o.2 (fun k e=>.inr (.inl e))),H4.o.2.2.2,HPD.o⟩
 have hev:=AL e0;have HE0:=hid e0;have HEV:=hid hev;rw[hev];clear e0 hev;go_wp2_with fail
 go_ret;refine⟨da.toList,l',v',H1.o.2.2.2.2.1.1,H1.o.2.2.2.2.1.2,by rw[HRR.o,HEV.o];rfl,by rw[HRR.o];exact H4.o.2.1,fun h0=>absurd (by rw[HRR.o] at h0;exact h0) HE0.o,fun _=>by rw[HRR.o];exact H4.o.1,H4.o.2.2.1,H4.o.2.2.2,HPD.o⟩
end
end Fl
end
section
namespace Fl
open En (Fi kL aI filled takeB ji rightFrom right bi bD need)
def Gd (f:Fi):Prop:=aI f.nm.data.toList=true∧filled f=true
theorem qR (a b:ByteArray):kL a b=true↔b.toList<a.toList:=by
 unfold kL;rw[bytesLess_eq,Bool.not_eq_true',Bool.or_eq_false_iff,decide_eq_false_iff_not];constructor
 ·rintro ⟨h1,h2⟩;by_cases h:b.toList<a.toList
  ·exact h
  exact absurd (List.le_antisymm (List.not_lt.1 h) (List.not_lt.1 h1)) (by simpa using h2)
 intro h;refine⟨fun h'=>List.lt_irrefl _ (List.lt_trans h h'),?_⟩;have:a.toList≠b.toList:=fun e=>by rw[e] at h;exact List.lt_irrefl _ h
 simpa using this
theorem Ub {a b c:ByteArray}(h1:kL a b=true)(h2:kL b c=true):kL a c=true:=(qR a c).2 (List.lt_trans ((qR b c).1 h2) ((qR a b).1 h1))
theorem XF {f:Fi}(h:Gd f):kL f.nm ⟨#[]⟩=true:=by
 refine(qR _ _).2 ?_;have h1:=h.1;rw[Lib.toList_data,Lib.toList_data];cases e:f.nm.data.toList with
 | nil=>rw[e] at h1;cases h1
 | cons c r=>exact List.Lex.nil
theorem qw:∀(l:List Fi) (b:ByteArray) (L:List Int),rightFrom b L l=true↔(∀f ∈ l,kL f.nm b=true)∧(∀f ∈ l,Gd f)∧l.Pairwise (fun f g=>kL g.nm f.nm=true)∧(∀c ∈ bi l,3≤c∧c<24)∧(bi l).Nodup∧∀c ∈ bi l,c ∉ L
 | [],b,L=>by simp[rightFrom,bi]
 | f::r,b,L=>by
  have ih:=qw r f.nm (L++f.cs);have e:bi (f::r)=f.cs++bi r:=by simp[bi]
  rw[rightFrom,Bool.and_eq_true,Bool.and_eq_true,Bool.and_eq_true,Bool.and_eq_true,ih,ji,e];constructor
  ·rintro ⟨⟨⟨⟨h1,h2⟩,h3⟩,h4,h5,h6⟩,g1,g2,g3,g4,g5,g6⟩;refine⟨fun x hx=>?_,fun x hx=>?_,List.pairwise_cons.2 ⟨g1,g3⟩,fun c hc=>?_,?_,fun c hc=>?_⟩
   ·rcases List.mem_cons.1 hx with rfl | hx
    ·exact h1
    exact Ub (g1 x hx) h1
   ·rcases List.mem_cons.1 hx with rfl | hx
    ·exact⟨h2,h3⟩
    exact g2 x hx
   ·exact(List.mem_append.1 hc).elim (h4 c) (g4 c)
   ·rw[List.nodup_append];exact⟨h5,g5,fun x hx y hy e=>by subst e;exact g6 x hy (by simp[hx])⟩
   exact(List.mem_append.1 hc).elim (h6 c) (fun h hl=>g6 c h (by simp[hl]))
  rintro ⟨h1,h2,h3,h4,h5,h6⟩;obtain⟨h31,h32⟩:=List.pairwise_cons.1 h3;obtain⟨h51,h52,h53⟩:=List.nodup_append.1 h5;refine⟨⟨⟨⟨h1 f (by simp),(h2 f (by simp)).1⟩,(h2 f (by simp)).2⟩,fun c hc=>h4 c (by simp[hc]),h51,fun c hc=>h6 c (by simp[hc])⟩,h31,fun x hx=>h2 x (by simp[hx]),h32,fun c hc=>h4 c (by simp[hc]),h52,fun c hc hl=>?_⟩;rcases List.mem_append.1 hl with hl | hl
  ·exact h6 c (by simp[hc]) hl
  exact h53 c hl c hc rfl
structure Fit (l:List Fi):Prop where
 len:l.length≤8
 good:∀f ∈ l,Gd f
 names:l.Pairwise (fun f g=>f.nm≠g.nm)
 cells:∀c ∈ bi l,3≤c∧c<24
 once:(bi l).Nodup
theorem aZ (l:List Fi):right l=true↔Fit l∧l.Pairwise (fun f g=>kL g.nm f.nm=true):=by
 rw[right,Bool.and_eq_true,decide_eq_true_eq,qw];constructor
 ·rintro ⟨h0,h1,h2,h3,h4,h5,h6⟩;exact⟨⟨h0,h2,h3.imp (fun {f g} h e=>by rw[e] at h;exact List.lt_irrefl _ ((qR _ _).1 h)),h4,h5⟩,h3⟩
 rintro ⟨h,h3⟩;exact⟨h.len,fun f hf=>XF (h.good f hf),h.good,h3,h.cells,h.once,fun c hc=>by simp⟩
theorem AQ {l l':List Fi}(h:l.Perm l'):(bi l).Perm (bi l'):=(h.map Fi.cs).flatten
theorem Fit.perm {l l':List Fi}(h:Fit l)(hp:l.Perm l'):Fit l':=
 ⟨by rw[←hp.length_eq];exact h.len,fun f hf=>h.good f (hp.mem_iff.2 hf),hp.pairwise h.names (fun {a b} e=>Ne.symm e),fun c hc=>h.cells c ((AQ hp).mem_iff.2 hc),(AQ hp).nodup_iff.1 h.once⟩
theorem Fit.right {l l':List Fi}(h:Fit l)(hp:l.Perm l')(hr:pY l'):right l'=true:=by
 have h':=h.perm hp;refine(aZ l').2 ⟨h',(h'.names.and hr).imp (fun {f g} hh=>(qR _ _).2 ?_)⟩;obtain⟨hne,hb⟩:=hh;rw[bytesLess_eq,decide_eq_false_iff_not] at hb;by_cases hlt:f.nm.toList<g.nm.toList
 ·exact hlt
 have:=List.le_antisymm (List.not_lt.1 hb) (List.not_lt.1 hlt);rw[Lib.toList_data,Lib.toList_data] at this;exact absurd (ByteArray.ext (Array.toList_inj.1 this)) hne
theorem Uc {a b:List (List Int)}(h:a.Sublist b):a.flatten.Sublist b.flatten:=by
 induction h with
 | slnil=>exact List.Sublist.refl _
 | cons x _ ih=>rw[List.flatten_cons];exact ih.trans (List.sublist_append_right _ _)
 | cons_cons x _ ih=>rw[List.flatten_cons,List.flatten_cons];exact(List.Sublist.refl x).append ih
theorem Fit.filter {l:List Fi}(h:Fit l)(p:Fi→Bool):Fit (l.filter p):=by
 have hs:(l.filter p).Sublist l:=List.filter_sublist;have hc:(bi (l.filter p)).Sublist (bi l):=Uc (hs.map Fi.cs);exact⟨Nat.le_trans hs.length_le h.len,fun f hf=>h.good f (hs.subset hf),h.names.sublist hs,fun c hc'=>h.cells c (hc.subset hc'),h.once.sublist hc⟩
theorem Fit.uniq {l l1 l2:List Fi}(h:Fit l)(h1:l.Perm l1)(h2:l.Perm l2)(r1:pY l1)(r2:pY l2):l1=l2:=by
 refine List.Perm.eq_of_pairwise (le:=fun (f g:Fi)=>Op.bytesLess g.nm.toList f.nm.toList=false) ?_ r1 r2 (h1.symm.trans h2);intro a b ha hb e1 e2;have ha':=h1.mem_iff.2 ha;have hb':=h2.mem_iff.2 hb;rw[bytesLess_eq,decide_eq_false_iff_not] at e1 e2;have e:=List.le_antisymm (List.not_lt.1 e1) (List.not_lt.1 e2);rw[Lib.toList_data,Lib.toList_data] at e;have en:a.nm=b.nm:=ByteArray.ext (Array.toList_inj.1 e);obtain⟨i,hi,rfl⟩:=List.getElem_of_mem ha';obtain⟨j,hj,rfl⟩:=List.getElem_of_mem hb';have hpw:=List.pairwise_iff_getElem.1 h.names;rcases Nat.lt_trichotomy i j with hlt | rfl | hlt
 ·exact absurd en (hpw i j hi hj hlt)
 ·rfl
 exact absurd en.symm (hpw j i hj hi hlt)
end Fl
end
section
namespace Fl
open Go.RowKit Go.Sort Go.Shelf
open En (Fi fA Ints dF Row)
open Vl
section
variable {w0 w w':World} {fb vb db cb:Nat} {kb kt:ByteArray} {S:Vs} {v lv:Value} {d d0:List Fv} {l l0:List Fi}
theorem Fm.AB (h:Fm w0 w fb vb db cb kb kt S v lv d l):fA w lv l:=by
 rcases h.sr with⟨rfl,c,rfl⟩ | ⟨k,o,c,rfl,hc,hcell⟩
 ·have:l=[]:=List.length_eq_zero_iff.1 h.each.len;subst this;exact⟨none,c,rfl,Nat.zero_le _,fun h=>by simp at h⟩
 refine⟨some ⟨k,o,none⟩,c,by rw[h.each.len],by rw[h.each.len];exact hc,fun _=>⟨k,o,rfl,(h.blk k o _ _ rfl).1,fun j f hj=>?_⟩⟩;have hjl:j<d.length:=by rw[←h.each.len];exact(List.getElem?_eq_some_iff.1 hj).1
 obtain⟨h1,h2,h3,h4⟩:=h.each.each j f d[j] hj (List.getElem?_eq_getElem hjl);obtain⟨e0,e1,e2⟩:=iw d j d[j] (List.getElem?_eq_getElem hjl);refine⟨_,h3,?_,?_,?_⟩
 ·rw[hcell _ _ e0,h1]
 ·rw[Nat.add_assoc,hcell _ _ e1,h2]
 rw[Nat.add_assoc,hcell _ _ e2]
def aO (l:List Fi)(s:ByteArray):List Fi:=l.filter (fun f=>!decide (f.nm=s))
theorem JK {l:List Fi}(h:En.right l=true):pY l:=((aZ l).1 h).2.imp (fun {f g} hh=>by
 rw[bytesLess_eq,decide_eq_false_iff_not];exact fun h'=>List.lt_irrefl _ (List.lt_trans h' ((qR _ _).1 hh)))
theorem yJ {l:List Fi}(h:En.right l=true)(s:ByteArray):pY (aO l s):=(JK h).filter _
theorem uY {l:List Fi}(h:En.right l=true):En.lV l:=fun f hf=>by
 have h1:=(((aZ l).1 h).1.good f hf).2;unfold En.filled at h1;simp only[Bool.and_eq_true,decide_eq_true_eq] at h1;omega
def hasB (l:List Fi)(s:ByteArray):Bool:=l.any (fun f=>decide (f.nm=s))
theorem sK (l:List Fi)(s:ByteArray):hasB l s=true↔∃f ∈ l,f.nm=s:=by simp[hasB]
theorem Ud {l:List Fi}{s:ByteArray}(h:∀f ∈ l,¬f.nm=s):hasB l s=false:=by
 cases e:hasB l s with
 | false=>rfl
 | true=>
  obtain⟨f,h1,h2⟩:=(sK l s).1 e;exact absurd h2 (h f h1)
theorem Ue (B:Base w0 kb kt)(LB:En.Lb w0)(n:Int)(ho:S.ok n)(hn:n+1000<900000000)(h:Fm w0 w fb vb db cb kb kt S v lv d l)(hr:En.right l=true)(s:ByteArray) :
  Calls Tryz.prog 13 #[.pointer (some ⟨fb,0,none⟩),.string s] w fun e w'=>((∀f ∈ l,¬f.nm=s)∧e=.returned (En.fF 7)∧Since w w')∨
   ((∃f ∈ l,f.nm=s)∧e=.returned (ev (bq kb kt (aO l s) S).1)∧(bq kb kt (aO l s) S).2.ok (n+3)∧∃d' dK v',((bq kb kt (aO l s) S).1=0→Fm w0 w' fb vb db cb kb kt (bq kb kt (aO l s) S).2 v' dK d' (aO l s)∧Nl w lv d dK d')∧((bq kb kt (aO l s) S).1≠0→Fm w0 w' fb vb db cb kb kt (bq kb kt (aO l s) S).2 v' lv d l)∧
    Fs (fun k=>k=fb∨VP vb db cb v k) w w'∧(∀k,k<w.heap.size→¬VP vb db cb v k→¬VP vb db cb v' k)):=by
 have Cw:l.length≤8:=((aZ l).1 hr).1.len;have hor:=aV fb vb w h.c0;have p1:=h.c1;have HF:=hid h;have HR:=hid (an hr Cw);have HO:=hid (an ho hn);obtain⟨la,ln,lc,rfl⟩:∃a n c,lv=.slice a n c:=by
  rcases h.sr with⟨_,c,rfl⟩ | ⟨k,o,c,rfl,_⟩
  ·exact⟨_,_,_,rfl⟩
  exact⟨_,_,_,rfl⟩
 have HCF:Hid (∀(W:World) (b:Nat),Since w W→W.cell? ⟨b,0,none⟩=some (.string s)→Calls Tryz.prog 58 #[.slice la ln lc,.func (.func 117) #[] #[.pointer (some ⟨b,0,none⟩)]] W fun e w'=>e=.returned (.bool (hasB l s))∧Since W w'):=fun W b hs hb=>(Xy l _ s b W (HF.o.since hs).AB hb (by omega)).mono (fun e w' hh=>by
  obtain⟨hc,hs'⟩:=hh;refine⟨?_,hs'⟩;rcases hc with⟨rfl,hc⟩ | ⟨rfl,hc⟩
  ·rw[(sK l s).2 hc]
  rw[Ud hc])
 have hfl:fb<w.heap.size:=World.block_lt_of_cell? w _ p1;have q1:∀W,Since w W→W.cell? ⟨fb,1,none⟩=some (.slice la ln lc):=fun W hs=>(hs.cell (p:=⟨fb,1,none⟩) hfl).trans p1
 have Q1:=hid q1;have hbx:∀W:World,(W.alloc (.cells #[.string s] 9)).cell? ⟨W.heap.size,0,none⟩=some (.string s):=fun W=>by
  have TY:∀W1:World,W1.heap[W.heap.size]?=some (.cells #[.string s] 9)→W1.cell? ⟨W.heap.size,0,none⟩=some (.string s):=fun W1 hW=>by simp[World.cell?,hW]
  exact TY _ (heap_alloc_new W _)
 have jm:=hid hbx;have Cy:=hid hor;clear h hr ho hn hor Cw p1 q1 hbx;go_enter Tryz.func13,Tryz.ntmps13
 go_wp2_with fail
 refine Cy.o.mono ?_;rintro e w1 ⟨rfl,hw1⟩;subst hw1;go_wp2_with fail
 go_region_held3 (fun W=>W.cell? ⟨fb,1,none⟩=some (.slice la ln lc)) (first | exact Q1.out _ (Since.refl _) | exact Q1.out _ (Since.refl _).drew | exact Q1.out _ ((Since.refl _).alloc _) | exact Q1.out _ ((Since.refl _).drew.alloc _) | exact Q1.out _ (((Since.refl _).alloc _).trans hs3) | exact Q1.out _ (((Since.refl _).drew.alloc _).trans hs3)) (first
  | (go_simp;go_at_call 59;refine(ni s _).mono ?_;rintro e w2 ⟨rfl,rfl⟩;dsimp only)
  | (go_simp;go_at_call 58;refine(HCF.o _ _ (by first | exact((Since.refl _).alloc _) | exact((Since.refl _).drew.alloc _)) (by first | exact jm.o _)).mono ?_;rintro e w3 ⟨rfl,hs3⟩;dsimp only))
 have yI:Since w1 w3:=((Since.refl w1).alloc _).drew.trans hs3;have F3:=HF.o.since yI;have H3:=hid (an yI F3);have p3:=F3.c1;clear hs3 yI F3;cases hB:hasB l s with
 | false=>
  have HB:=hid hB;clear hB;go_wp2_with fail
  go_ret;refine Or.inl ⟨fun f hf e=>?_,rfl,H3.o.1⟩;have h1:=HB.o;rw[(sK l s).2 ⟨f,hf,e⟩] at h1;cases h1
 | true=>
  have HB:=hid ((sK l s).1 hB);clear hB;have hdl:=H3.o.2.each.len;have HWI:Hid (Calls Tryz.prog 44 #[.pointer (some ⟨fb,0,none⟩),.string s] w3 fun e w'=>∃v',e=.returned v'∧w'.ownsRow w3.heap.size 129 3 v' (d.filter (ay s)).length (aD (d.filter (ay s)))∧Since w3 w'∧(v'=.slice none 0 0→d=[])):=uX _ w3 fb _ d l s H3.o.2.c1 H3.o.2.sr H3.o.2.each (by have:=HR.o.2;omega);clear hdl;go_wp2_with fail
  refine HWI.o.mono ?_;rintro e w4 ⟨v4,rfl,ER,hs4,hnil⟩;rcases ER.2 with⟨h',_⟩ | ⟨g,cap,cur,h',hb,hg,hnc,_⟩
  ·exfalso;have hd:=hnil h';have h1:=H3.o.2.each.len;rw[hd] at h1;obtain⟨f,hf,_⟩:=HB.o;rw[List.length_eq_zero_iff.1 h1] at hf;cases hf
  subst h';have F3:=H3.o.2;have F4:=F3.since hs4;have a7W:fb<w3.heap.size:=World.block_lt_of_cell? w3 _ F3.c1;have hw0:=F3.dO.since.size;have hfit:=((aZ l).1 HR.o.1).1.filter (fun f=>!decide (f.nm=s));have XE:Each (fun k=>k=g∨k=fb∨VP vb db cb v k) w4 (d.filter (ay s)) (aO l s):=((F3.each.filter s).wider (P':=fun k=>k=g∨k=fb∨VP vb db cb v k) (fun k hk hp=>by
   rcases hp with rfl | hp
   ·omega
   exact hp)).since hs4
  have hge:∀(j:Nat) (x:Fv),d[j]?=some x→∀k o,x.2.2.1=some ⟨k,o,none⟩→k≠g:=fun j x hx k o e=>by
   have hj:j<l.length:=by rw[F3.each.len];exact(List.getElem?_eq_some_iff.1 hx).1
   have:=((F3.each.each j l[j] x (List.getElem?_eq_getElem hj) hx).2.2.2 k o e).1;omega
  have PE:=yH B LB n HO.o.1 HO.o.2 F4 ER (by omega) (by omega) (fun hv=>F3.dO.qi hb hv) (fun k o n c e=>by have:=(F3.blk k o n c e).1;omega) hge XE (by
   have h1:=hfit.len;have h2:=XE.len;unfold aO at h2;omega) (fun f hf=>uY HR.o.1 f (List.mem_filter.1 hf).1) (fun l' hp hr=>hfit.right hp hr)
  have HBE:Hid (Calls Tryz.prog 48 #[.pointer (some ⟨fb,0,none⟩),.slice (some ⟨g,0,none⟩) (d.filter (ay s)).length cap] w4 fun e w'=>∃d' l' v',(aO l s).Perm l'∧pY l'∧e=.returned (ev (bq kb kt l' S).1)∧(bq kb kt l' S).2.ok (n+3)∧
   ((bq kb kt l' S).1=0→Fm w0 w' fb vb db cb kb kt (bq kb kt l' S).2 v' (.slice (some ⟨g,0,none⟩) (d.filter (ay s)).length cap) d' l')∧((bq kb kt l' S).1≠0→Fm w0 w' fb vb db cb kb kt (bq kb kt l' S).2 v' (.slice la ln lc) d l)∧Fs (fun k=>k=g∨k=fb∨VP vb db cb v k) w4 w'∧(∀k,k<w4.heap.size→¬VP vb db cb v k→¬VP vb db cb v' k)∧d'.Perm (d.filter (ay s))):=PE
  have H4:=hid (an (H3.o.1.trans hs4) (an hb hfit));clear PE hge XE hfit hw0 a7W F4 F3 ER hs4 hnil hb hg hnc p3;go_wp2_with fail
  refine HBE.o.mono ?_;rintro e w5 ⟨d',l',v',hp,mG,rfl,hok,hz,hnz,hfs,hnx,hpd⟩;have HPD:=hid hpd;clear hpd;obtain rfl:l'=aO l s:=H4.o.2.2.uniq hp (List.Perm.refl _) mG (yJ HR.o.1 s);have HZ:=hid (an hok (an hz (an hnz (an hfs hnx))));clear hok hz hnz hfs hnx hp mG;have hwv:∃x,ev (bq kb kt (aO l s) S).1=x:=⟨_,rfl⟩
  obtain⟨x,hx⟩:=hwv;rw[hx];have HXX:=hid hx;clear hx;go_wp2_with fail
  go_ret;refine Or.inr ⟨HB.o,by rw[HXX.o];rfl,HZ.o.1,d',_,v',fun h0=>⟨HZ.o.2.1 h0,fun k o n c e=>Or.inl (by
   simp only[Value.slice.injEq,Option.some.injEq,Addr.mk.injEq] at e;have h1:=H4.o.2.1;have h2:=H3.o.1.size;omega),fun x hx k o e=>Or.inr ⟨x,(List.mem_filter.1 (HPD.o.mem_iff.1 hx)).1,o,e⟩⟩,HZ.o.2.2.1,?_,fun k hk=>HZ.o.2.2.2.2 k (Nat.lt_of_lt_of_le hk H4.o.1.size)⟩
  exact(Fs.ag H4.o.1).trans' HZ.o.2.2.2.1 (fun k hk=>by
   rcases hk with rfl | hk
   ·exact .inr (Nat.le_trans H3.o.1.size H4.o.2.1)
   exact .inl hk)
end
end Fl
end
section
namespace Fl
open Go.RowKit Go.Sort Go.Shelf
open En (Fi fA Ints dF Row bD bi need aI filled bV)
open Vl
def gL (l:List Fi)(s t:ByteArray):Bool:=decide (8≤(aO l s).length)||decide (((bD (aO l s)).length:Int)<need t.size)
def aF (l:List Fi)(s t:ByteArray):List Int:=(bD (aO l s)).take (need t.size).toNat
def vI (l:List Fi)(s t:ByteArray):Fi:=⟨s,t.size,aF l s t⟩
theorem oP (n:Nat):0≤need n:=by unfold need;split<;>omega
theorem XG {l:List Fi}{c:Int}(h:c ∈ bD l):3≤c∧c<24:=by
 have h1:=(List.mem_filter.1 h).1;simp only[En.mZ,List.mem_cons,List.not_mem_nil,or_false] at h1;omega
theorem JL (l:List Fi):(bD l).Nodup:=(show En.mZ.Nodup by decide).filter _
theorem vY {l:List Fi}(h:Fit l){s t:ByteArray}(hn:aI s.data.toList=true)(hf:gL l s t=false):Fit (aO l s++[vI l s t]):=by
 unfold gL at hf;rw[Bool.or_eq_false_iff,decide_eq_false_iff_not,decide_eq_false_iff_not] at hf;obtain⟨h8,hfr⟩:=hf;have hb:Fit (aO l s):=h.filter _;have hnn:=oP t.size;have hlen:(aF l s t).length=(need t.size).toNat:=by unfold aF;rw[List.length_take];omega
 have hsub:∀c ∈ aF l s t,c ∈ bD (aO l s):=fun c hc=>List.mem_of_mem_take hc
 have h21:(bD (aO l s)).length≤21:=List.length_filter_le _ _;have e:bi (aO l s++[vI l s t])=bi (aO l s)++aF l s t:=by simp[bi,vI]
 refine⟨by simp;omega,fun f hf=>?_,?_,fun c hc=>?_,?_⟩
 ·rcases List.mem_append.1 hf with hf | hf
  ·exact hb.good f hf
  rw[List.mem_singleton] at hf;subst hf;refine⟨hn,?_⟩;unfold filled vI;simp only[Bool.and_eq_true,decide_eq_true_eq];refine⟨⟨by omega,?_⟩,by rw[hlen];omega⟩;have h1:need t.size≤21:=by omega
  unfold need at h1;split at h1<;>omega
 ·refine List.pairwise_append.2 ⟨hb.names,List.pairwise_singleton _ _,fun f hf g hg=>?_⟩;rw[List.mem_singleton] at hg;subst hg;have:=(List.mem_filter.1 hf).2;simp at this;exact this
 ·rw[e] at hc;rcases List.mem_append.1 hc with hc | hc
  ·exact hb.cells c hc
  exact XG (hsub c hc)
 rw[e,List.nodup_append];refine⟨hb.once,(JL _).sublist (List.take_sublist _ _),fun x hx y hy e=>?_⟩;subst e;exact En.Tp hx (hsub x hy)
theorem XH {P:Nat→Prop}{w:World}{d:List Fv}{l:List Fi}{base:Nat}{v:Value}(h:Each P w d l)(ho:w.ownsRow base 129 3 v d.length (aD d)):fA w v l:=by
 rcases ho.2 with⟨h',h0⟩ | ⟨g,cap,cur,h',_⟩
 ·subst h';have:l=[]:=List.length_eq_zero_iff.1 (h.len.trans h0);subst this;exact⟨none,0,rfl,Nat.zero_le _,fun h=>by simp at h⟩
 subst h';exact h.AB ho
end Fl
end
section
namespace Fl
open En (Fi bD bi need aI filled)
open Vl
def fG (X:Nat→ByteArray)(l:List Fi)(s:ByteArray):Option (List UInt8):=(l.find? (fun f=>decide (f.nm=s))).map (fun f=>eQ X f.cs)
def Dif (l:List Fi):Prop:=l.Pairwise (fun f g=>f.nm≠g.nm)
theorem Nb {l:List Fi}(hd:Dif l){f:Fi}(hf:f ∈ l):l.find? (fun g=>decide (g.nm=f.nm))=some f:=by
 induction l with
 | nil=>cases hf
 | cons g r ih=>
  unfold Dif at hd;rw[List.pairwise_cons] at hd;rcases List.mem_cons.1 hf with rfl | hf
  ·rw[List.find?_cons_of_pos (by simp)]
  rw[List.find?_cons_of_neg (by simpa using hd.1 f hf)];exact ih hd.2 hf
theorem PG {l:List Fi}{s:ByteArray}(h:∀f ∈ l,f.nm≠s):l.find? (fun g=>decide (g.nm=s))=none:=by
 rw[List.find?_eq_none];intro f hf
 simpa using h f hf
theorem AR {l:List Fi}(h:En.right l=true):Dif l:=((aZ l).1 h).1.names
theorem ES {l:List Fi}(h:En.right l=true){f:Fi}(hf:f ∈ l){c:Int}(hc:c ∈ f.cs):3≤c∧c<24:=((aZ l).1 h).1.cells c (En.Tq hf hc)
theorem PH {l l':List Fi}{s t:ByteArray}(hr:En.right l=true)(hn:aI s.data.toList=true)(hf:gL l s t=false)(hp:(aO l s++[vI l s t]).Perm l')(mG:pY l'):En.right l'=true:=(vY ((aZ l).1 hr).1 hn hf).right hp mG
theorem ut {l:List Fi}(hr:En.right l=true)(s:ByteArray):En.right (aO l s)=true:=(((aZ l).1 hr).1.filter _).right (List.Perm.refl _) (yJ hr s)
end Fl
end
section
namespace Fl
open Go.RowKit Go.Sort Go.Shelf
open En (Fi fA Ints dF Row)
open Vl
def a0A:Option (List UInt8)→Value
 | none=>.tuple #[.string ⟨#[]⟩,En.fF 7]
 | some t=>.tuple #[.string ⟨t.toArray⟩,.nilIface]
def Ix (l:List Fi)(s:ByteArray)(i:Int):Prop:=(∃k:Nat,i=k∧k<l.length∧(∃f,l[k]?=some f∧f.nm=s)∧∀j f,j<k→l[j]?=some f→¬f.nm=s)∨(i=-1∧∀f ∈ l,¬f.nm=s)
section
variable {w0 w w':World} {fb vb db cb:Nat} {kb kt:ByteArray} {S:Vs} {v lv:Value} {d d0:List Fv} {l l0:List Fi}
theorem Uf (h:Fm w0 w fb vb db cb kb kt S v lv d l)(hr:En.right l=true)(hx:∀i,(S.X i).size≤80)(s:ByteArray) :
  Calls Tryz.prog 30 #[.pointer (some ⟨fb,0,none⟩),.string s] w fun e w'=>e=.returned (a0A (fG S.X l s))∧Since w w':=by
 have Cw:l.length≤8:=((aZ l).1 hr).1.len;have hor:=aV fb vb w h.c0;have p1:=h.c1;have HF:=hid h;have HR:=hid (an hr (an Cw hx));obtain⟨la,lc,rfl⟩:∃a c,lv=.slice a l.length c:=by
  obtain⟨a,c,h1,_⟩:=h.AB;exact⟨a,c,h1⟩
 have TS:Hid (∀(W:World) (b:Nat),Since w W→W.cell? ⟨b,0,none⟩=some (.string s)→Calls Tryz.prog 83 #[.slice la l.length lc,.func (.func 117) #[] #[.pointer (some ⟨b,0,none⟩)]] W fun e w'=>(∃i:Int,e=.returned (.int .i64 i)∧Ix l s i)∧Since W w'):=fun W b hs hb=>vW l _ s b W (HF.o.since hs).AB hb (by omega)
 have hfl:fb<w.heap.size:=World.block_lt_of_cell? w _ p1;have q1:∀W,Since w W→W.cell? ⟨fb,1,none⟩=some (.slice la l.length lc):=fun W hs=>(hs.cell (p:=⟨fb,1,none⟩) hfl).trans p1
 have Q1:=hid q1;have hbx:∀W:World,(W.alloc (.cells #[.string s] 9)).cell? ⟨W.heap.size,0,none⟩=some (.string s):=fun W=>by
  have TY:∀W1:World,W1.heap[W.heap.size]?=some (.cells #[.string s] 9)→W1.cell? ⟨W.heap.size,0,none⟩=some (.string s):=fun W1 hW=>by simp[World.cell?,hW]
  exact TY _ (heap_alloc_new W _)
 have jm:=hid hbx;have Cy:=hid hor;clear h hr hor Cw p1 q1 hbx hx;go_enter Tryz.func30,Tryz.ntmps30
 go_wp2_with fail
 refine Cy.o.mono ?_;rintro e w1 ⟨rfl,hw1⟩;subst hw1;go_wp2_with fail
 go_region_held3 (fun W=>W.cell? ⟨fb,1,none⟩=some (.slice la l.length lc)) (first | exact Q1.out _ (Since.refl _) | exact Q1.out _ (Since.refl _).drew | exact Q1.out _ ((Since.refl _).alloc _) | exact Q1.out _ ((Since.refl _).drew.alloc _) | exact Q1.out _ (((Since.refl _).alloc _).trans hs3) | exact Q1.out _ (((Since.refl _).drew.alloc _).trans hs3)) (first
  | (go_simp;go_at_call 59;refine(ni s _).mono ?_;rintro e w2 ⟨rfl,rfl⟩;dsimp only)
  | (go_simp;go_at_call 83;refine(TS.o _ _ (by first | exact((Since.refl _).alloc _) | exact((Since.refl _).drew.alloc _)) (by first | exact jm.o _)).mono ?_;rintro e w3 ⟨⟨i,rfl,hi⟩,hs3⟩;dsimp only))
 have yI:Since w1 w3:=((Since.refl w1).alloc _).drew.trans hs3;have F3:=HF.o.since yI;have H3:=hid (an yI F3);clear hs3 yI F3;rcases hi with⟨k,rfl,hk,⟨f,hkf,hfn⟩,_⟩ | ⟨rfl,hno⟩
 ·have hfm:f ∈ l:=List.mem_of_getElem? hkf;have htx:fG S.X l s=some (eQ S.X f.cs):=by
   unfold fG;rw[←hfn,Nb (AR HR.o.1) hfm]
   rfl
  have Ug:=hid htx;have F3:=H3.o.2;obtain⟨k1,o1,u1,hla,hi1,hl1,q0,q1,q2⟩:=F3.AB.at_ hkf;subst hla;have p0:=F3.c0;have p1:=F3.c1;have hin:∀c ∈ f.cs,0≤c∧c<24:=fun c hc=>by have:=ES HR.o.1 hfm hc;omega
  have hfl:f.cs.length≤1000:=by
   have h1:=(((aZ l).1 HR.o.1).1.good f hfm).2;have h2:=En.vT ((En.jk f).1 h1).2.1;have h3:=((En.jk f).1 h1).2.2;omega
  have HJ:Hid (∀W,Since w3 W→Calls Tryz.prog 38 #[.pointer (some ⟨vb,0,none⟩),u1] W fun e w'=>e=.returned (.tuple #[.string ⟨(eQ S.X f.cs).toArray⟩,.nilIface])∧Since W w'):=fun W hW=>yA (F3.dO.go hW) HR.o.2.2 f.cs u1 (hi1.since hW) hin hfl
  have hk0:¬((k:Int)<0):=by omega
  have hk1:(k:Int)<(l.length:Int):=by omega
  obtain⟨ua,un,uc,rfl⟩:∃a n c,u1=.slice a n c:=by
   obtain⟨a',c',he,_⟩:=hi1;exact⟨_,_,_,he⟩
  have HQ:Hid (∀W,Since w3 W→W.cell? ⟨fb,0,none⟩=some (.pointer (some ⟨vb,0,none⟩))∧W.cell? ⟨fb,1,none⟩=some (.slice (some ⟨k1,o1,none⟩) l.length lc)∧W.cell? ⟨k1,o1+k*3+2,none⟩=some (.slice ua un uc)):=fun W hW=>
   ⟨(hW.cell (p:=⟨fb,0,none⟩) (World.block_lt_of_cell? _ _ p0)).trans p0,(hW.cell (p:=⟨fb,1,none⟩) (World.block_lt_of_cell? _ _ p1)).trans p1,(hW.cell (p:=⟨k1,o1+k*3+2,none⟩) (World.block_lt_of_cell? _ _ q2)).trans q2⟩
  clear F3 hi1 hl1 hin hfl htx hfm hkf hfn q0 q1;go_wp2_with fail
  go_region_held3 (fun W=>W.cell? ⟨fb,0,none⟩=some (.pointer (some ⟨vb,0,none⟩))∧W.cell? ⟨fb,1,none⟩=some (.slice (some ⟨k1,o1,none⟩) l.length lc)∧W.cell? ⟨k1,o1+k*3+2,none⟩=some (.slice ua un uc)) (first | exact HQ.o _ (Since.refl _) | exact HQ.o _ (Since.refl _).drew | exact HQ.o _ ((Since.refl _).drew.trans hs5)) (first
   | (go_simp;go_at_call 38;refine(HJ.o _ (by first | exact Since.refl _ | exact(Since.refl _).drew)).mono ?_;rintro e w5 ⟨rfl,hs5⟩;dsimp only))
  have jX:Hid (Since w1 w5):=H3.o.1.trans ((Since.refl _).drew.trans hs5);clear hs5;go_wp2_with fail
  go_ret2;exact⟨by rw[Ug.o];rfl,jX.o⟩
 have htx:fG S.X l s=none:=by
  unfold fG;rw[PG hno]
  rfl
 have Ug:=hid htx;clear hno htx;go_wp2_with fail
 go_ret2;exact⟨by rw[Ug.o];rfl,H3.o.1⟩
def Cc (l:List Fi):List Value:=l.map (fun f=>.string f.nm)
theorem ET (l:List Fi)(k:Nat)(f:Fi)(h:l[k]?=some f):Cc (l.take (k+1))=Cc (l.take k)++[.string f.nm]:=by
 unfold Cc;rw[List.take_add_one,h];simp
theorem JM (h:Fm w0 w fb vb db cb kb kt S v lv d l)(Cw:l.length≤1000) :
  Calls Tryz.prog 24 #[.pointer (some ⟨fb,0,none⟩)] w fun e w'=>∃x,e=.returned x∧w'.ownsRow w.heap.size 9 1 x l.length (Cc l)∧Since w w':=by
 obtain⟨i0,hi,hz0,hz1,hz2⟩:=info_parts' zS;have HI:=hid (an hi (an hz0 (an hz1 hz2)));clear hi hz0 hz1 hz2;have hor:=aV fb vb w h.c0;have p1:=h.c1;have HL:=hid h.AB;have Cy:=hid hor;obtain⟨la,lc,rfl,_⟩:=h.AB;clear h hor;go_enter Tryz.func24,Tryz.ntmps24
 go_wp2_with fail
 refine Cy.o.mono ?_;rintro e w1 ⟨rfl,hw1⟩;subst hw1;go_wp2_with fail
 clear p1;go_loopw [12,3] (fun i x wr=>∃k:Nat,k≤l.length∧i=.int .i64 k∧wr.ownsRow w1.heap.size 9 1 x k (Cc (l.take k))∧Since w1 wr) (fun i _ _=>l.length-(intOf i).toNat)
 case atStart=>exact⟨0,by omega,rfl,World.ownsRow_nil _ _ _ _,Since.refl _⟩
 obtain⟨k,hk,rfl,hx,hS⟩:=hrel;have HX:=hid hx;have HS:=hid hS;clear hx hS;by_cases hlt:k<l.length
 ·have hlt2:(k:Int)<l.length:=by omega
  have hE:Hid (l[k]?=some l[k]):=List.getElem?_eq_getElem hlt;have EA:Hid (Cc (l.take (k+1))=Cc (l.take k)++[.string (l[k]).nm]):=ET l k _ hE.out;generalize l[k]=f at *;obtain⟨k1,o1,u1,rfl,hi1,hl1,q0,q1,q2⟩:=(HL.o.since HS.o).at_ hE.out;obtain⟨a1,b1,rfl,_,_⟩:=hi1;go_upto_region 5 with fail
  clear q0 q1 q2;generalize hw2:wr.alloc (.cells #[.string f.nm,.int .i64 f.sz,.slice a1 f.cs.length b1] 129)=w2;have p0:w2.cell? ⟨wr.heap.size,0,none⟩=some (.string f.nm):=by rw[←hw2];simp
  have HS2:Hid (Since wr w2):=by rw[←hw2];exact(Since.refl _).alloc _
  have IZ:=hid (Nat.le_trans HS.o.size HS2.o.size);clear hw2;go_wp2_with (at_builtin;refine wpList_append_own _ (by rfl) _ _ _ (by rfl) w1.heap.size 9 i0 _ 1 16 Tryz.underlying65 HI.o.1 HI.o.2.1 HI.o.2.2.1 HI.o.2.2.2 (by rfl) (by decide) _ k (Cc (l.take k)) (by rfl) (World.ownsRow.alloc (En.bf HX.o HS2.o) _) ⟨w2.heap.size,0,none⟩ 1 1 [.string f.nm] (by rfl) (by rfl) (World.news_of_block (heap_alloc_new w2 _)) (by simp[Value.oneCell']) (by unfold maxLen;omega) (by omega) (by have:=IZ.o;simp;omega) ?_;intro x' w3 hown1 hgrow _)
  have pK:=hid hown1;have rq:Hid (Since w1 w3):=Below.grown (Since.alloc (HS.o.trans HS2.o) _) hgrow (by have:=IZ.o;simp;omega) (fun j hj=>(HX.o.lt j hj).1);clear hown1 hgrow;go_wp2_with fail
  go_roundw
  case rel=>exact⟨k+1,by omega,by go_num,by rw[EA.o];exact pK.o,rq.o⟩
  case measure=>simp[intOf];omega
 have hke:k=l.length:=by omega
 subst hke;go_wp2_with fail
 go_ret;exact⟨_,rfl,by have:=HX.o;rw[List.take_length] at this;exact this,HS.o⟩
end
end Fl
end
section
namespace Fl
open Go.RowKit Go.Sort Go.Shelf
open En (Fi fA Ints dF Row bD bi need aI filled bV)
open Vl
theorem jF (x:Fv):∀d:List Fv,aD (d++[x])=aD d++[.string x.1,.int .i64 x.2.1,.slice x.2.2.1 x.2.2.2.1 x.2.2.2.2]
 | []=>rfl
 | y::r=>by
  have ih:=jF x r;have e:aD (y::r)=.string y.1::.int .i64 y.2.1::.slice y.2.2.1 y.2.2.2.1 y.2.2.2.2::aD r:=rfl;have e2:aD (y::r++[x])=.string y.1::.int .i64 y.2.1::.slice y.2.2.1 y.2.2.2.1 y.2.2.2.2::aD (r++[x]):=rfl;rw[e,e2,ih]
  rfl
section
variable {w0 w w':World} {fb vb db cb:Nat} {kb kt:ByteArray} {S:Vs} {v lv:Value} {d d0:List Fv} {l l0:List Fi}
theorem Uh (B:Base w0 kb kt)(LB:En.Lb w0)(n:Int)(ho:S.ok n)(hn:n+2000<900000000)(h:Fm w0 w fb vb db cb kb kt S v lv d l)(hr:En.right l=true)(s t:ByteArray)(hs:s.size≤100000)(ht:t.size≤100000) :
  Calls Tryz.prog 11 #[.pointer (some ⟨fb,0,none⟩),.string s,.string t] w fun e w'=>
   (aI s.data.toList=false∧e=.returned (En.fF 5)∧Since w w')∨(aI s.data.toList=true∧gL l s t=true∧e=.returned (En.fF 12)∧Since w w')∨
   (aI s.data.toList=true∧gL l s t=false∧(iO kb kt (aF l s t) t S).2.ok (n+(aF l s t).length)∧∃v1,
    ((iO kb kt (aF l s t) t S).1≠0→e=.returned (ev (iO kb kt (aF l s t) t S).1)∧Fm w0 w' fb vb db cb kb kt (iO kb kt (aF l s t) t S).2 v1 lv d l)∧
    ((iO kb kt (aF l s t) t S).1=0→∃l' d' dK,(aO l s++[vI l s t]).Perm l'∧pY l'∧e=.returned (ev (bq kb kt l' (iO kb kt (aF l s t) t S).2).1)∧(bq kb kt l' (iO kb kt (aF l s t) t S).2).2.ok (n+(aF l s t).length+3)∧
     ((bq kb kt l' (iO kb kt (aF l s t) t S).2).1=0→Fm w0 w' fb vb db cb kb kt (bq kb kt l' (iO kb kt (aF l s t) t S).2).2 v1 dK d' l'∧Nl w lv d dK d')∧((bq kb kt l' (iO kb kt (aF l s t) t S).2).1≠0→Fm w0 w' fb vb db cb kb kt (bq kb kt l' (iO kb kt (aF l s t) t S).2).2 v1 lv d l))∧
    Fs (fun k=>k=fb∨VP vb db cb v k) w w'∧(∀k,k<w.heap.size→¬VP vb db cb v k→¬VP vb db cb v1 k)):=by
 have hor:=aV fb vb w h.c0;have p1:=h.c1;have Cw:l.length≤8:=((aZ l).1 hr).1.len;have hdl:=h.each.len;have HF:=hid h;have HR:=hid (an hr (an Cw (an hs ht)));have HO:=hid (an ho hn);have HWI:Hid (Calls Tryz.prog 44 #[.pointer (some ⟨fb,0,none⟩),.string s] w fun e w'=>∃v',e=.returned v'∧w'.ownsRow w.heap.size 129 3 v' (d.filter (ay s)).length (aD (d.filter (ay s)))∧Since w w'∧(v'=.slice none 0 0→d=[])):=uX _ w fb _ d l s h.c1 h.sr h.each (by omega);have Cy:=hid hor;clear h hr ho hn hor Cw p1 hdl hs ht;go_enter Tryz.func11,Tryz.ntmps11
 go_wp2_with fail
 refine Cy.o.mono ?_;rintro e w1 ⟨rfl,hw1⟩;subst hw1;go_wp2_with fail
 refine(En.xW s _).mono ?_;rintro e w2 ⟨rfl,hw2⟩;subst hw2;cases hB:aI s.data.toList with
 | false=>
  have HB:=hid hB;clear hB;go_wp2_with fail
  go_ret;exact Or.inl ⟨HB.o,rfl,Since.refl _⟩
 | true=>
  have HB:=hid hB;clear hB;go_wp2_with fail
  refine HWI.o.mono ?_;rintro e w4 ⟨v4,rfl,ER,hs4,hnil⟩;have XE:=(HF.o.each.filter s).since hs4;have sJ:fA w4 v4 (aO l s):=XH XE ER;have hrb:En.right (aO l s)=true:=(((aZ l).1 HR.o.1).1.filter _).right (List.Perm.refl _) (yJ HR.o.1 s);have Qz:Hid (Calls Tryz.prog 45 #[v4] w4 fun e w'=>∃x,e=.returned x∧w'.ownsRow w4.heap.size 3 1 x (bD (aO l s)).length (bV (bD (aO l s)))∧Since w4 w'):=En.lM _ v4 w4 sJ hrb;have hvl:∃a c,v4=.slice a (aO l s).length c:=by
   obtain⟨a,c,h1,_⟩:=sJ;exact⟨a,c,h1⟩
  obtain⟨a4,c4,rfl⟩:=hvl;have H4:=hid (an ER hs4);clear ER hs4 hnil XE sJ hrb;go_wp2_with fail
  refine Qz.o.mono ?_;rintro e w5 ⟨x,rfl,OV,hs5⟩;have hxl:∃a c,x=.slice a (bD (aO l s)).length c:=by
   rcases OV.2 with⟨h',h0⟩ | ⟨g,cap,cur,h',_⟩
   ·exact⟨none,0,by rw[h',h0]⟩
   exact⟨_,_,h'⟩
  obtain⟨a5,c5,rfl⟩:=hxl;have H5:=hid (an OV hs5);clear OV hs5;go_wp2_with fail
  refine(En.Es (t.size:Int) (by have:=HR.o.2.2.2;omega) _).mono ?_;rintro e w6 ⟨rfl,hw6⟩;subst hw6;obtain⟨k,hk⟩:∃k:Nat,need t.size=k:=⟨(need t.size).toNat,by have:=oP t.size;omega⟩
  rw[hk];have HK:=hid hk;clear hk;by_cases h8:8≤(aO l s).length
  ·have h8i:(8:Int)≤((aO l s).length:Int):=by omega
   have hfu:gL l s t=true:=by unfold gL;rw[decide_eq_true h8];rfl
   have JN:=hid hfu;clear hfu h8;go_wp2_with fail
   go_ret;exact Or.inr (Or.inl ⟨HB.o,JN.o,rfl,H4.o.2.trans H5.o.2⟩)
  have h8i:¬(8:Int)≤((aO l s).length:Int):=by omega
  by_cases hf:(bD (aO l s)).length<k
  ·have hfi:((bD (aO l s)).length:Int)<(k:Int):=by omega
   have hfu:gL l s t=true:=by unfold gL;rw[HK.o,decide_eq_true hfi,Bool.or_true]
   have JN:=hid hfu;clear hfu h8 hf;go_wp2_with fail
   go_ret;exact Or.inr (Or.inl ⟨HB.o,JN.o,rfl,H4.o.2.trans H5.o.2⟩)
  have hfi:¬((bD (aO l s)).length:Int)<(k:Int):=by omega
  have hfu:gL l s t=false:=by unfold gL;rw[HK.o,decide_eq_false hfi,decide_eq_false h8];rfl
  have JN:=hid hfu;have BP:(bD (aO l s)).length≤c5:=by
   rcases H5.o.1.2 with⟨h',h0⟩ | ⟨g,cap,cur,h',_,_,hnc,_⟩
   ·omega
   simp only[Value.slice.injEq,Option.some.injEq,Addr.mk.injEq,and_true,true_and] at h';omega
  have hkc:k≤c5:=by omega
  have hcl:(aF l s t).length=k:=by unfold aF;rw[List.length_take,HK.o];omega
  have a0B:=H4.o.2.trans H5.o.2;have F6:=HF.o.since a0B;have hints:Ints w6 (.slice a5 k c5) (aF l s t):=by
   refine⟨a5,c5,by rw[hcl],by rw[hcl];exact hkc,fun hpos=>?_⟩;rcases H5.o.1.2 with⟨h',h0⟩ | ⟨g,cap,cur,h',_,_,hnc,_⟩
   ·omega
   simp only[Value.slice.injEq,true_and] at h';obtain⟨rfl,rfl⟩:=h';refine⟨g,0,rfl,(H5.o.1.lt g rfl).2,fun j x hj=>?_⟩;have hj2:(bD (aO l s))[j]?=some x:=by
    unfold aF at hj;rw[List.getElem?_take] at hj;split at hj
    ·exact hj
    cases hj
   have hjl:=(List.getElem?_eq_some_iff.1 hj2).1;rw[Nat.zero_add,H5.o.1.cellAt j (by omega)];unfold bV;rw[List.getElem?_map,hj2]
   rfl
  have Ui:∀k' o m c,Value.slice a5 k c5=.slice (some ⟨k',o,none⟩) m c→¬VP vb db cb v k':=fun k' o m c e=>by
   simp only[Value.slice.injEq] at e;have h1:=H5.o.1.lt k' (by rw[e.1];rfl);exact(HF.o.dO.go H4.o.2).qi h1.1
  have HFW:Hid (Calls Tryz.prog 47 #[.pointer (some ⟨fb,0,none⟩),.slice a5 k c5,.string t] w6 fun e w'=>e=.returned (ev (iO kb kt (aF l s t) t S).1)∧dB w0 w6 w' vb db cb kb kt (iO kb kt (aF l s t) t S).2 v∧(iO kb kt (aF l s t) t S).2.ok (n+(aF l s t).length)):=
   yB B n HO.o.1 (by have:=HO.o.2;omega) F6.dO F6.c0 F6.VJ (aF l s t) _ hints Ui (by rw[hcl];have:(bD (aO l s)).length≤21:=List.length_filter_le _ _;omega) t
  have H6:=hid (an F6 (an a0B hints));clear hfu h8 hcl a0B F6 hints Ui;obtain⟨R,hR⟩:∃R,iO kb kt (aF l s t) t S=R:=⟨_,rfl⟩
  obtain⟨rn,S1⟩:=R;rw[hR] at HFW;have HRR:=hid hR;clear hR;go_wp2_with fail
  refine HFW.o.mono ?_;rintro e w7 ⟨rfl,Na,hok⟩;obtain⟨v7,F7,hf7,hnx⟩:=H6.o.1.vto Na;have H7:Hid (Fm w0 w7 fb vb db cb kb kt S1 v7 lv d l∧S1.ok (n+(aF l s t).length)∧Fs (fun k=>k=fb∨VP vb db cb v k) w2 w7∧(∀k,k<w6.heap.size→¬VP vb db cb v k→¬VP vb db cb v7 k)∧Fs (VP vb db cb v) w6 w7):=⟨F7,hok,(Fs.ag H6.o.2.1).trans (bH hf7 (fun k e=>.inr e)),hnx,hf7⟩
  clear F7 hok hnx hf7 Na;by_cases e0:rn=0
  ·subst e0;rw[vX];go_wp2_with fail
   refine(En.fI s HR.o.2.2.1 w7).mono ?_;rintro e w8 ⟨rfl,Cz⟩;have hdl:(aO l s).length=(d.filter (ay s)).length:=(HF.o.each.filter s).len;have hrow:∀g,(Value.slice a4 (aO l s).length c4).ownBlock=some g→w2.heap.size≤g:=fun g hg=>(H4.o.1.lt g hg).1
   have ZB:∀g,w2.heap.size≤g→g≠fb∧¬VP vb db cb v g:=fun g hg=>⟨fun e=>by have:=World.block_lt_of_cell? w2 _ HF.o.c1;simp at this;omega,HF.o.dO.qi hg⟩
   have JO:w7.ownsRow w2.heap.size 129 3 (.slice a4 (aO l s).length c4) (d.filter (ay s)).length (aD (d.filter (ay s))):=xE (En.bf H4.o.1 H5.o.2) H7.o.2.2.2.2 (fun g hg=>(ZB g (hrow g hg)).2);have HO8:=hid (En.bf JO Cz);have H8:=hid (an Cz (an hrow (an ZB hdl)));have a8b:w2.heap.size≤w8.heap.size:=Nat.le_trans H7.o.2.2.1.size Cz.size;obtain⟨i0,hi,hz0,hz1,hz2⟩:=info_parts En.yz;have HI:=hid (an hi (an hz0 (an hz1 hz2)));have HB8:Hid ((d.filter (ay s)).length+1≤maxLen∧((d.filter (ay s)).length+1)*48≤140737488355328∧w2.heap.size≤(w8.alloc (.cells #[.string s,.int .i64 t.size,.slice a5 k c5] 129)).heap.size):=by
    have h1:(d.filter (ay s)).length≤8:=by omega
    exact⟨by unfold maxLen;omega,by omega,by simp;omega⟩
   clear hi hz0 hz1 hz2 JO Cz hdl hrow ZB a8b;go_wp2_with (at_builtin;refine wpList_append_lies _ (by rfl) _ _ 52 (by rfl) w2.heap.size 129 i0 _ 3 48 Tryz.underlying52 HI.o.1 HI.o.2.1 HI.o.2.2.1 HI.o.2.2.2 (by rfl) (by decide) _ _ _ (by rfl) (World.ownsRow.alloc HO8.o _) ⟨w8.heap.size,0,none⟩ 1 1 [.string s,.int .i64 t.size,.slice a5 k c5] (by rfl) (by rfl) (World.news_of_block (heap_alloc_new w8 _)) (by simp[Value.oneCell']) (by decide) HB8.o.1 HB8.o.2.1 HB8.o.2.2 (w8.heap.size+1) (by simp) ?_;intro g cap w9 hown hgrow hat hlt)
   have oQ:∀r,(Value.slice a4 (aO l s).length c4).ownBlock=some r→w2.heap.size≤r∧r<w4.heap.size:=fun r hr=>H4.o.1.lt r hr
   have h46:w4.heap.size≤w6.heap.size:=H5.o.2.size;have h24:w2.heap.size≤w4.heap.size:=H4.o.2.size;have h67:w6.heap.size≤w7.heap.size:=H7.o.2.2.2.2.size;have h78:w7.heap.size≤w8.heap.size:=H8.o.1.size;have hg2:w2.heap.size≤g:=by
    rcases hat with hat | hat
    ·exact(oQ g hat).1
    omega
   have hfr:Fs (fun r=>(Value.slice a4 (aO l s).length c4).ownBlock=some r) (w8.alloc (.cells #[.string s,.int .i64 t.size,.slice a5 k c5] 129)) w9:=by
    obtain⟨g1,g2,g3,g4,g5⟩:=hgrow;exact⟨g1,g2,g3,g4,fun r hr hn=>g5 r hr (fun e=>hn e.symm)⟩
   have XI:Since w7 (w8.alloc (.cells #[.string s,.int .i64 t.size,.slice a5 k c5] 129)):=H8.o.1.alloc _;have hvr:∀r,(Value.slice a4 (aO l s).length c4).ownBlock=some r→r≠fb∧¬VP vb db cb v7 r:=fun r hr=>⟨(H8.o.2.2.1 r (oQ r hr).1).1,H7.o.2.2.2.1 r (by have:=(oQ r hr).2;omega) (H8.o.2.2.1 r (oQ r hr).1).2⟩
   have hdi:∀(j:Nat) (x:Fv),d[j]?=some x→∀k o,x.2.2.1=some ⟨k,o,none⟩→k<w2.heap.size:=fun j x hx k o e=>by
    have hj:j<l.length:=by rw[HF.o.each.len];exact(List.getElem?_eq_some_iff.1 hx).1
    exact((HF.o.each.each j l[j] x (List.getElem?_eq_getElem hj) hx).2.2.2 k o e).1
   have F9:Fm w0 w9 fb vb db cb kb kt S1 v7 lv d l:=(H7.o.1.since XI).fs hfr (fun r hr=>Nat.le_trans HF.o.dO.since.size (oQ r hr).1) (fun r _ hr=>hvr r hr) (fun k o n c e hr=>by have:=(HF.o.blk k o n c e).1;have:=(oQ k hr).1;omega) (fun j x hx k o e hr=>by have:=hdi j x hx k o e;have:=(oQ k hr).1;omega);have hgv:¬VP vb db cb v7 g:=by
    rcases hat with hat | hat
    ·exact(hvr g hat).2
    exact(H7.o.1.dO.go H8.o.1).qi (by omega)
   have hFs:Fs (fun r=>(r=fb∨VP vb db cb v r)∨w2.heap.size≤r) w2 w9:=((bH H7.o.2.2.1 (fun r e=>.inl e)).trans (Fs.ag XI)).trans (bH hfr (fun r e=>.inr (oQ r e).1));have he9:Each (fun r=>r=g∨r=fb∨VP vb db cb v7 r) w9 (d.filter (ay s)) (aO l s):=((HF.o.each.filter s).wider (P':=fun r=>(r=fb∨VP vb db cb v r)∨w2.heap.size≤r) (fun r hr hp=>hp.elim id (fun h=>by omega))).fs hFs (fun r hr hn h'=>by
    rcases h' with rfl | h' | h'
    ·omega
    ·exact hn (.inl (.inl h'))
    exact H7.o.2.2.2.1 r (by omega) (fun hv=>hn (.inl (.inr hv))) h')
   have EU:∀k' o,a5=some ⟨k',o,none⟩→w4.heap.size≤k'∧k'<w6.heap.size:=fun k' o e=>H5.o.1.lt k' (by rw[e];rfl)
   have a0E:∀k' o,a5=some ⟨k',o,none⟩→¬VP vb db cb v k':=fun k' o e=>(H8.o.2.2.1 k' (by have:=(EU k' o e).1;omega)).2
   have hi9:Ints w9 (.slice a5 k c5) (aF l s t):=iV ((iV H6.o.2.2 H7.o.2.2.2.2 (fun k' o e=>⟨(EU k' o e).2,a0E k' o e⟩)).since XI) hfr (fun k' o e=>⟨by have:=(EU k' o e).2;simp;omega,fun hr=>by have:=(oQ k' hr).2;have:=(EU k' o e).1;omega⟩);have hs9:w8.heap.size+1≤w9.heap.size:=by have:=hfr.size;simpa using this
   have a0G:=Each.append (x:=(s,(t.size:Int),a5,k,c5)) (f:=vI l s t) ⟨rfl,rfl,hi9,fun k' o e=>⟨by have:=(EU k' o e).2;omega,fun h'=>by
    have h1:=EU k' o e;rcases h' with h' | h' | h'
    ·rcases hat with hat | hat
     ·have:=(oQ g hat).2;omega
     omega
    ·exact(H8.o.2.2.1 k' (by omega)).1 h'
    exact H7.o.2.2.2.1 k' h1.2 (a0E k' o e) h'⟩⟩ he9
   have hown2:w9.ownsRow w2.heap.size 129 3 (.slice (some ⟨g,0,none⟩) (d.filter (ay s)++[(s,(t.size:Int),a5,k,c5)]).length cap) (d.filter (ay s)++[(s,(t.size:Int),a5,k,c5)]).length (aD (d.filter (ay s)++[(s,(t.size:Int),a5,k,c5)])):=by
    rw[jF,List.length_append];exact hown
   have hfit:=vY ((aZ l).1 HR.o.1).1 HB.o JN.o;have hc21:(aF l s t).length≤21:=by
    have:(bD (aO l s)).length≤21:=List.length_filter_le _ _;unfold aF;rw[List.length_take];omega
   have PE:=yH B LB (n+(aF l s t).length) H7.o.2.1 (by have:=HO.o.2;omega) F9 hown2 (Nat.le_trans HF.o.dO.since.size hg2) (H8.o.2.2.1 g hg2).1 hgv (fun k o n c e=>by have:=(HF.o.blk k o n c e).1;omega) (fun j x hx k o e=>by have:=hdi j x hx k o e;omega) a0G (by
    have h1:=hfit.len;have h2:=a0G.len;omega) (fun f hf=>by
    rcases List.mem_append.1 hf with hf | hf
    ·exact uY HR.o.1 f (List.mem_filter.1 hf).1
    rw[List.mem_singleton] at hf;subst hf;have:=HR.o.2.2.2;unfold vI;constructor<;>simp<;>omega) (fun l' hp hr=>hfit.right hp hr)
   have hlen1:(d.filter (ay s)++[(s,(t.size:Int),a5,k,c5)]).length=(d.filter (ay s)).length+1:=by simp
   rw[hlen1] at PE;have a4Y:Fs (fun r=>r=fb∨VP vb db cb v r) w2 w9:=⟨hFs.os,hFs.tape,hFs.output,hFs.size,fun r hr hn=>hFs.block r hr (fun h'=>h'.elim hn (fun h''=>by omega))⟩
   refine PE.mono ?_;rintro e w10 ⟨d',l',v',hp,mG,rfl,hok,hz,hnz,hfs,hnx,hpd⟩;have HNL:Hid (Nl w2 lv d (.slice (some ⟨g,0,none⟩) ((d.filter (ay s)).length+1) cap) d'):=by
    refine⟨fun k o n c e=>Or.inl ?_,fun x hx k o e=>?_⟩
    ·simp only[Value.slice.injEq,Option.some.injEq,Addr.mk.injEq] at e;omega
    rcases List.mem_append.1 (hpd.mem_iff.1 hx) with hx | hx
    ·exact Or.inr ⟨x,(List.mem_filter.1 hx).1,o,e⟩
    rw[List.mem_singleton] at hx;subst hx;have:=(EU k o e).1;exact Or.inl (by omega)
   clear hpd;have hfin:Fs (fun r=>r=fb∨VP vb db cb v r) w2 w10:=a4Y.trans' hfs (fun r hr=>by
    rcases hr with rfl | hr | hr
    ·exact .inr hg2
    ·exact .inl (.inl hr)
    by_cases hv:VP vb db cb v r
    ·exact .inl (.inr hv)
    by_cases hlr:r<w6.heap.size
    ·exact absurd hr (H7.o.2.2.2.1 r hlr hv)
    exact .inr (by omega))
   have hnx2:∀r,r<w2.heap.size→¬VP vb db cb v r→¬VP vb db cb v' r:=fun r hr hv=>hnx r (by omega) (H7.o.2.2.2.1 r (by omega) hv)
   have HZ:=hid (an hp (an mG (an hok (an hz (an hnz (an hfin hnx2))))));clear oQ h46 h24 h67 h78 hg2 hfr XI hvr hdi F9 hgv hFs he9 EU a0E hi9 hs9 a0G hown2 hfit hc21 PE hown hgrow hat hlt hlen1 a4Y hp mG hok hz hnz hfs hnx hfin hnx2;obtain⟨x,hx⟩:∃x,ev (bq kb kt l' S1).1=x:=⟨_,rfl⟩
   rw[hx];have HXX:=hid hx;clear hx;go_wp2_with fail
   go_ret;refine Or.inr (Or.inr ⟨HB.o,JN.o,by rw[HRR.o];exact H7.o.2.1,v',fun hne=>absurd (by rw[HRR.o]) hne,fun _=>?_,HZ.o.2.2.2.2.2.1,HZ.o.2.2.2.2.2.2⟩);rw[HRR.o];exact⟨l',d',_,HZ.o.1,HZ.o.2.1,by rw[HXX.o];rfl,HZ.o.2.2.1,fun h0=>⟨HZ.o.2.2.2.1 h0,HNL.o⟩,HZ.o.2.2.2.2.1⟩
  have hev:=AL e0;have HE0:=hid e0;have HEV:=hid hev;rw[hev];clear e0 hev;go_wp2_with fail
  go_ret;refine Or.inr (Or.inr ⟨HB.o,JN.o,by rw[HRR.o];exact H7.o.2.1,v7,fun _=>⟨by rw[HRR.o,HEV.o];rfl,by rw[HRR.o];exact H7.o.1⟩,fun h0=>absurd (by rw[HRR.o] at h0;exact h0) HE0.o,H7.o.2.2.1,fun k hk=>H7.o.2.2.2.1 k (Nat.lt_of_lt_of_le hk H6.o.2.1.size)⟩)
end
end Fl
end
section
namespace Fl
open Go.RowKit Go.Sort Go.Shelf
open En (Fi fA Ints dF Row)
open Vl
def slP:Value→Option Addr × Nat × Nat
 | .slice a n c=>(a,n,c)
 | _=>(none,0,0)
def EW (p:List (Fi × Value)):List Fv:=p.map (fun x=>(x.1.nm,x.1.sz,slP x.2))
theorem uu:∀(p:List (Fi × Value)),(∀x ∈ p,∃a n c,x.2=.slice a n c)→En.gy p=aD (EW p)
 | [],_=>rfl
 | x::r,h=>by
  obtain⟨a,n,c,e⟩:=h x List.mem_cons_self;have ih:=uu r (fun y hy=>h y (List.mem_cons_of_mem _ hy));show [.string x.1.nm,.int .i64 x.1.sz,x.2]++En.gy r=.string x.1.nm::.int .i64 x.1.sz::.slice (slP x.2).1 (slP x.2).2.1 (slP x.2).2.2::aD (EW r)
  rw[ih,e]
  rfl
theorem qU {b:Nat}{W:World}{v:Value}{p:List (Fi × Value)}(h:Row b W v p):∀x ∈ p,∃a n c,x.2=.slice a n c:=fun x hx=>by
 obtain⟨a,c,e,_⟩:=h.ints x hx;exact⟨a,_,c,e⟩
theorem XJ {b:Nat}{W:World}{v:Value}{p:List (Fi × Value)}(h:Row b W v p):W.ownsRow b 129 3 v (EW p).length (aD (EW p)):=by
 have h1:=h.own;rw[uu p (qU h)] at h1;unfold EW at *;rw[List.length_map];exact h1
theorem Uj {P:Nat→Prop}{b:Nat}{W:World}{v:Value}{p:List (Fi × Value)}(h:Row b W v p)(hP:∀k,b≤k→k<W.heap.size→¬P k):Each P W (EW p) (p.map (fun x=>x.1)):=by
 refine⟨by simp[EW],fun j f x hj hx=>?_⟩;unfold EW at hx;rw[List.getElem?_map] at hj hx;cases e:p[j]? with
 | none=>rw[e] at hj;cases hj
 | some y=>
  rw[e] at hj hx;simp only[Option.map_some,Option.some.injEq] at hj hx;subst hj hx;have hm:y ∈ p:=List.mem_of_getElem? e;obtain⟨a,n,c,es⟩:=qU h y hm;have hi:=h.ints y hm;refine⟨rfl,rfl,?_,fun k o ek=>?_⟩
  ·rw[es] at hi ⊢;exact hi
  rw[es] at ek;have ek':a=some ⟨k,o,none⟩:=ek;subst ek';obtain⟨h1,cur,fz,h2⟩:=h.far y hm k o n c es;have h3:=(Array.getElem?_eq_some_iff.1 h2).1;exact⟨h3,hP k (by omega) h3⟩
theorem gM.ok' {kb kt:ByteArray}{D:Dv}{c r:Int}{S:Vs}(h:gM kb kt (fresh D c) r S)(hw:D.ws.length≤1)(hc:0≤c)(hr:r=0):S.ok (c+1):=by
 rcases h with⟨h1,_,rfl⟩ | ⟨h1,h2,_,rfl⟩ | ⟨h1,h2,h3,_,rfl⟩ | h
 ·exact zZ kb kt D (c+1) hw (by omega) h1
 ·have h2':c=0:=h2;subst h2';exact(Ee D hw).le (by omega)
 ·exact(zZ kb kt D c hw hc h3).le (by omega)
 exact absurd hr (by obtain⟨_,_,_,h,_⟩:=h;omega)
def Nc (w0 w w':World)(db cb:Nat)(s:ByteArray)(D:Dv)(c:Int)(v:Value)(e:Ending):Prop:=
 ∃vb r S' v',gM (dY s) (dM s) (fresh D c) r S'∧w.heap.size≤vb∧dL w0 w' vb db cb (dY s) (dM s) S' v'∧Fs (fun k=>k=db∨k=cb∨v.ownBlock=some k) w w'∧Nx w v.ownBlock v'.ownBlock∧
  ((r≠0∧e=.returned (.tuple #[.pointer none,ev r]))∨(r=0∧En.parse (eQ S'.X [0,1,2])=none∧e=.returned (.tuple #[.pointer none,En.fF 15]))∨
   (r=0∧∃l fb lv d,En.parse (eQ S'.X [0,1,2])=some l∧e=.returned (.tuple #[.pointer (some ⟨fb,0,none⟩),.nilIface])∧w.heap.size≤fb∧Fm w0 w' fb vb db cb (dY s) (dM s) S' v' lv d l∧Nl w (.slice none 0 0) [] lv d))
theorem PK {w0 w:World}{db cb:Nat}{D:Dv}{c:Int}{v:Value}(s:ByteArray)(hs:s.size=16)(hT:Sm.kM w0)(LB:En.Lb w0)(hc:0≤c∧c<1000000000)(hw:D.ws.length≤1)(h:DC w0 w db cb D c v) :
  Calls Tryz.prog 8 #[.pointer (some ⟨db,0,none⟩),.pointer (some ⟨cb,0,none⟩),.string s] w fun e w'=>Nc w0 w w' db cb s D c v e:=by
 have Ah:=hid (rQ s hs hT hc h);have HL:=hid (an LB (an hw (an hc.1 h.since)));unfold Nc;unfold Jr at Ah;clear h hw LB hc hT hs;generalize dY s=kb at *;generalize dM s=kt at *;go_enter Tryz.func8,Tryz.ntmps8
 go_wp2_with fail
 refine Ah.o.mono ?_;rintro e w1 ⟨vb,r,S1,v1,hto,he,hvb,vF,hf,hn⟩;have H1:=hid (an hto (an hvb (an vF (an hf hn))));clear hto hvb vF hf hn;rcases he with⟨hr,rfl⟩ | ⟨hr,rfl⟩
 ·have HR:=hid hr;clear hr;have hok:=gM.ok' H1.o.1 HL.o.2.1 HL.o.2.2.1 HR.o;have hx:∀i,(S1.X i).size≤80:=hok.txt;go_wp2_with fail
  refine(qp w1).mono ?_;rintro e w2 ⟨rfl,ho2,hs2⟩;have hints:Ints w2 (.slice (some ⟨w1.heap.size,0,none⟩) 3 3) [0,1,2]:=by
   refine⟨_,3,rfl,by simp,fun _=>⟨w1.heap.size,0,rfl,(ho2.lt _ rfl).2,fun j x hj=>?_⟩⟩;have hjl:=(List.getElem?_eq_some_iff.1 hj).1;rw[Nat.zero_add,ho2.cellAt j (by simpa using hjl)];have:j=0∨j=1∨j=2:=by simp at hjl;omega
   rcases this with rfl | rfl | rfl<;>simp at hj ⊢<;>exact hj
  have hj:=yA (H1.o.2.2.1.go hs2) hx [0,1,2] _ hints (by simp) (by simp);have HJ:=hid hj;have hcl:=oO S1.X hx [0,1,2];have hz:(⟨(eQ S1.X [0,1,2]).toArray⟩:ByteArray).size≤1000:=by
   show (eQ S1.X [0,1,2]).toArray.size≤1000
   simp at hcl ⊢;omega
  have hpa:∀W,Since w2 W→_:=fun W hW=>En.Pv ⟨(eQ S1.X [0,1,2]).toArray⟩ hz W (HL.o.1.since ((H1.o.2.2.1.go hs2).since.trans hW))
  have MO:=hid hpa;have HS2:=hid hs2;clear hpa hj hz hcl hints ho2 hs2 hx hok;go_wp2_with fail
  refine HJ.o.mono ?_;rintro e w3 ⟨rfl,hs3⟩;have dZ:=hid (HS2.o.trans hs3);have a8c:=hid hs3;clear hs3;generalize (⟨(eQ S1.X [0,1,2]).toArray⟩:ByteArray)=tx at *;go_wp2_with fail
  refine(MO.o w3 a8c.o).mono ?_;clear MO;rintro e w4 ⟨hp,hs4⟩;have fO:=hid (an (dZ.o.trans hs4) hs4);clear hs4;rcases hp with⟨l,lv,hpl,rfl,sJ,p,hpe,hrow⟩ | ⟨hpn,rfl⟩
  ·have HP:=hid (an hpl (an hpe hrow));obtain⟨la,lc,rfl,_⟩:=sJ;clear hpl hpe hrow;go_wp2_with fail
   go_ret2;have hv4:=H1.o.2.2.1.go fO.o.1;have hS5:Since w4 (w4.alloc (.cells #[.pointer (some ⟨vb,0,none⟩),.slice la l.length lc] 118)):=(Since.refl _).alloc _;have hrow:=HP.o.2.2;have hown:=XJ hrow;refine⟨vb,r,S1,v1,H1.o.1,H1.o.2.1,hv4.go hS5,H1.o.2.2.2.1.trans (Fs.ag (fO.o.1.trans hS5)),H1.o.2.2.2.2,Or.inr (Or.inr ⟨HR.o,l,w4.heap.size,.slice la l.length lc,EW p,HP.o.1,rfl,Nat.le_trans H1.o.2.2.2.1.size fO.o.1.size,(⟨hv4.go hS5,by simp,by simp,by simp,Nat.le_trans hv4.since.size (Nat.le_refl _),hv4.Jf,(TW hown).fs (Fs.ag (S:=fun _=>False) hS5) (fun k o n c e=>?_),fun k o n c e=>?_,?_,Ty.new w4 _ _⟩:Fm _ _ _ _ _ _ _ _ _ _ _ _ _),?_⟩)⟩
   ·have:=hown.lt k (by rw[e];rfl);exact⟨this.2,fun h=>h⟩
   ·have h1:=hown.lt k (by rw[e];rfl);refine⟨Nat.lt_of_lt_of_le h1.2 hS5.size,fun hp=>?_⟩;rcases hp with rfl | hp
    ·omega
    exact(H1.o.2.2.1.go dZ.o).qi h1.1 hp
   ·have he:=Uj (P:=fun k=>k=w4.heap.size∨VP vb db cb v1 k) hrow (fun k hk hlt hp=>by
     rcases hp with rfl | hp
     ·omega
     exact(H1.o.2.2.1.go dZ.o).qi hk hp)
    rw[HP.o.2.1] at he;exact he.since hS5
   have hsz:w.heap.size≤w3.heap.size:=Nat.le_trans H1.o.2.2.2.1.size dZ.o.size;refine⟨fun k o n c e=>Or.inl ?_,fun x hx k o e=>Or.inl ?_⟩
   ·have:=hown.lt k (by rw[e];rfl);omega
   unfold EW at hx;obtain⟨y,hy,rfl⟩:=List.mem_map.1 hx;obtain⟨a,n,c,es⟩:=qU hrow y hy;rw[es] at e;have e':a=some ⟨k,o,none⟩:=e;subst e';have:=(hrow.far y hy k o n c es).1;omega
  have HP:=hid hpn;clear hpn;have her:En.fF 3=.iface 32 (.int .i64 3):=rfl;rw[her];go_wp2_with fail
  go_ret2;exact⟨vb,r,S1,v1,H1.o.1,H1.o.2.1,H1.o.2.2.1.go fO.o.1,H1.o.2.2.2.1.trans (Fs.ag fO.o.1),H1.o.2.2.2.2,Or.inr (Or.inl ⟨HR.o,HP.o,rfl⟩)⟩
 have HR:=hid hr;rw[AL hr];clear hr;go_wp2_with fail
 go_ret2;exact⟨vb,r,S1,v1,H1.o.1,H1.o.2.1,H1.o.2.2.1,H1.o.2.2.2.1,H1.o.2.2.2.2,Or.inl ⟨HR.o,by rw[AL HR.o];rfl⟩⟩
end Fl
end
section
namespace Fl
open Go.RowKit Go.Sort Go.Shelf
open En (Fi fA Ints dF Row bD bi need aI filled)
open Vl
open Tw (Tb)
section
variable {w0 w w':World} {fb vb db cb:Nat} {kb kt:ByteArray} {S:Vs} {v lv:Value} {d d0:List Fv} {l l0:List Fi} {n:Int} {k:Nat}
theorem JP (B:Base w0 kb kt)(hr:Tw.Rt S.next)(hc:S.c<S.T.count+1)(h:Fm w0 w fb vb db cb kb kt S v lv d l) :
  Calls Tryz.prog 15 #[.pointer (some ⟨fb,0,none⟩)] w fun e w'=>e=.returned (ev (S.flush kt).1)∧dB w0 w w' vb db cb kb kt (S.flush kt).2 v:=by
 have Cy:=hid (aV fb vb w h.c0);have p0:=h.c0;have Cx:=hid (Ae B hr hc h.dO);obtain⟨x,hx⟩:∃x,ev (S.flush kt).1=x:=⟨_,rfl⟩
 rw[hx] at Cx ⊢;clear h hr hc B hx;go_enter Tryz.func15,Tryz.ntmps15
 go_wp2_with fail
 refine Cy.o.mono ?_;rintro e w1 ⟨rfl,hw1⟩;subst hw1;go_wp2_with fail
 refine Cx.o.mono ?_;rintro e w2 ⟨rfl,hv⟩;have HV:=hid hv;clear hv p0;go_wp2_with fail
 go_ret;exact⟨rfl,HV.o⟩
theorem Ce (B:Base w0 kb kt)(ho:S.ok n)(hn:n<1000000000)(h:Fm w0 w fb vb db cb kb kt S v lv d l) :
  Calls Tryz.prog 18 #[.pointer (some ⟨fb,0,none⟩)] w fun e w'=>e=.returned (.tuple #[.int .i64 (S.au kb kt).1.1,.bool (S.au kb kt).1.2.1,ev (S.au kb kt).1.2.2])∧dB w0 w w' vb db cb kb kt (S.au kb kt).2 v:=by
 have Cy:=hid (aV fb vb w h.c0);have p0:=h.c0;have Cx:=hid (uL B n ho hn h.dO);generalize ev (S.au kb kt).1.2.2=x at *;generalize (S.au kb kt).1.1=y at *;generalize (S.au kb kt).1.2.1=z at *;clear h ho B hn;go_enter Tryz.func18,Tryz.ntmps18
 go_wp2_with fail
 refine Cy.o.mono ?_;rintro e w1 ⟨rfl,hw1⟩;subst hw1;go_wp2_with fail
 refine Cx.o.mono ?_;rintro e w2 ⟨rfl,hv⟩;have HV:=hid hv;clear hv p0;go_wp2_with fail
 go_ret3;exact⟨rfl,HV.o⟩
theorem JQ (h:Fm w0 w fb vb db cb kb kt S v lv d l):Calls Tryz.prog 26 #[.pointer (some ⟨fb,0,none⟩)] w fun e w'=>e=.returned (.int .i64 S.T.count)∧w'=w:=by
 have Cy:=hid (aV fb vb w h.c0);have p0:=h.c0;have Cx:=hid (OP h.dO);generalize S.T.count=x at *;clear h;go_enter Tryz.func26,Tryz.ntmps26
 go_wp2_with fail
 refine Cy.o.mono ?_;rintro e w1 ⟨rfl,hw1⟩;subst hw1;go_wp2_with fail
 refine Cx.o.mono ?_;rintro e w2 ⟨rfl,hw⟩;subst hw;go_wp2_with fail
 go_ret;exact⟨rfl,rfl⟩
theorem PL (h:Fm w0 w fb vb db cb kb kt S v lv d l):Calls Tryz.prog 27 #[.pointer (some ⟨fb,0,none⟩)] w fun e w'=>e=.returned (.int .i64 S.free)∧Since w w':=by
 have Cy:=hid (aV fb vb w h.c0);have p0:=h.c0;have Cx:=hid (lM h.dO);generalize S.free=x at *;clear h;go_enter Tryz.func27,Tryz.ntmps27
 go_wp2_with fail
 refine Cy.o.mono ?_;rintro e w1 ⟨rfl,hw1⟩;subst hw1;go_wp2_with fail
 refine Cx.o.mono ?_;rintro e w2 ⟨rfl,hw⟩;have HW:=hid hw;clear hw p0;go_wp2_with fail
 go_ret;exact⟨rfl,HW.o⟩
end
section
variable {w0 w w':World} {fb vb db cb:Nat} {kb kt:ByteArray} {S:Vs} {v lv:Value} {d d0:List Fv} {l l0:List Fi} {n:Int} {k:Nat}
end
end Fl
end
section
namespace Fl
open Go.RowKit Go.Sort Go.Shelf
open En (Fi fA Ints dF Row bD bi need aI filled)
open Vl
open Tw (Tb)
end Fl
end
end Go.Proofs.YtlgbfkcpdelcbaaGreatDoor
