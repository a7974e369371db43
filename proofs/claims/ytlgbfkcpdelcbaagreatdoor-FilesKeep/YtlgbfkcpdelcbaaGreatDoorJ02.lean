import Derived.Deep.MidRow
import Derived.Test.YtlgbfkcpdelcbaaGreatDoorJ01
set_option linter.unusedSimpArgs false
set_option linter.unusedVariables false
set_option maxHeartbeats 8000000
set_option maxRecDepth 100000
namespace Go.Proofs.YtlgbfkcpdelcbaaGreatDoor
section
open Go.RowKit
structure Fr (b:Nat)(g:Option Nat)(w w':World):Prop where
 os:w'.os=w.os
 tape:w'.tape=w.tape
 output:w'.output=w.output
 size:w.heap.size≤w'.heap.size
 block:∀k,k<w.heap.size→k≠b→some k≠g→w'.heap[k]?=w.heap[k]?
theorem Fr.refl (b:Nat)(g:Option Nat)(w:World):Fr b g w w:=⟨rfl,rfl,rfl,Nat.le_refl _,fun _ _ _ _=>rfl⟩
def Nx (w:World)(g g':Option Nat):Prop:=∀k,g'=some k→g=some k∨w.heap.size≤k
theorem Nx.refl (w:World)(g:Option Nat):Nx w g g:=fun _ h=>Or.inl h
theorem Nx.none (w:World)(g:Option Nat):Nx w g none:=fun _ h=>by cases h
theorem Nx.trans {w w1:World}{g g1 g2:Option Nat}(h:Nx w g g1)(k:Nx w1 g1 g2)(hs:w.heap.size≤w1.heap.size):Nx w g g2:=fun j hj=>by
 rcases k j hj with h1 | h1
 ·exact h j h1
 exact Or.inr (Nat.le_trans hs h1)
theorem Fr.trans {b:Nat}{g g':Option Nat}{w w' w'':World}(h:Fr b g w w')(k:Fr b g' w' w'')(hn:Nx w g g'):Fr b g w w'' where
 os:=k.os.trans h.os
 tape:=k.tape.trans h.tape
 output:=k.output.trans h.output
 size:=Nat.le_trans h.size k.size
 block j hj hb hg:=(k.block j (Nat.lt_of_lt_of_le hj h.size) hb (fun e=>by
  rcases hn j e.symm with h1 | h1
  ·exact hg h1.symm
  omega)).trans (h.block j hj hb hg)
theorem Fr.ag {b:Nat}{g:Option Nat}{w w':World}(h:Since w w'):Fr b g w w':=⟨h.os,h.tape,h.output,h.size,fun k hk _ _=>h.block k hk⟩
theorem Fr.setCell (b:Nat)(g:Option Nat)(o:Nat)(w:World)(v:Value):Fr b g w (w.setCell ⟨b,o,none⟩ v):=
 ⟨rfl,rfl,rfl,by simp[World.setCell],fun k _ hb _=>Below.heap_setCell _ _ _ _ hb⟩
theorem Fr.trans' {b:Nat}{g:Option Nat}{w w' w'':World}(h:Fr b g w w')(k:Fr b g w' w''):Fr b g w w'':=h.trans k (Nx.refl _ _)
theorem Fr.setCells (b:Nat)(g:Option Nat):∀(vs:List Value) (o:Nat) (w:World),Fr b g w (w.setCells b o vs)
 | [],_,w=>Fr.refl _ _ w
 | v::r,o,w=>(Fr.setCell b g o w v).trans' (Fr.setCells b g r (o+1) _)
theorem Fr.since {b:Nat}{g:Option Nat}{a w w':World}(h:Fr b g w w')(hs:Since a w)(hb:a.heap.size≤b)(hg:∀k,g=some k→a.heap.size≤k):Since a w':=
 Below.trans (show Below a.heap.size a w from hs) ⟨h.os,h.tape,h.output,h.size,fun k hk=>h.block k (Nat.lt_of_lt_of_le hk hs.size) (by omega) (fun e=>by have:=hg k e.symm;omega)⟩
theorem Fr.cell {b:Nat}{g:Option Nat}{w w':World}(h:Fr b g w w'){p:Addr}(hp:p.block<w.heap.size)(hb:p.block≠b)(hg:some p.block≠g):w'.cell? p=w.cell? p:=
 World.cell?_of_block (w:=w) (h.block p.block hp hb hg)
theorem Fr.frozen {b:Nat}{g:Option Nat}{w w':World}(h:Fr b g w w'){p:Addr}(hp:p.block<w.heap.size)(hb:p.block≠b)(hg:some p.block≠g):w'.frozen? p=w.frozen? p:=
 World.frozen?_of_block (w:=w) (h.block p.block hp hb hg)
theorem Fr.drewN (b:Nat)(g:Option Nat)(w:World)(n:Nat):Fr b g w (w.drewN n):=Fr.ag ((Since.refl w).drewN n)
structure aA (w:World)(b n:Nat)(f:Nat→Value):Prop where
 cell:∀j,j<n→w.cell? ⟨b,j,none⟩=some (f j)
 frozen:∀j,j<n→w.frozen? ⟨b,j,none⟩=false
def aJ (f:Nat→Value)(i:Nat)(x:Value):Nat→Value:=fun j=>if j=i then x else f j
def fP (f:Nat→Value)(o n:Nat)(g:Nat→Value):Nat→Value:=fun j=>if o≤j∧j<o+n then g (j-o) else f j
theorem aA.congr {w:World}{b n:Nat}{f g:Nat→Value}(h:aA w b n f)(e:∀j,j<n→f j=g j):aA w b n g:=
 ⟨fun j hj=>by rw[←e j hj];exact h.cell j hj,h.frozen⟩
theorem aA.set {w:World}{b n:Nat}{f:Nat→Value}(h:aA w b n f)(i:Nat)(hi:i<n)(x:Value):aA (w.setCell ⟨b,i,none⟩ x) b n (aJ f i x) where
 cell j hj:=by
  unfold aJ;by_cases e:j=i
  ·subst e;rw[if_pos rfl];exact World.cell?_setCell_same _ _ _ (h.cell j hj)
  rw[if_neg e,World.cell?_setCell_other _ _ _ _ (by intro hc;injection hc with _ h2;omega)];exact h.cell j hj
 frozen j hj:=by simp;exact h.frozen j hj
theorem aA.other {w:World}{b n:Nat}{f:Nat→Value}(h:aA w b n f){a:Addr}(ha:a.block≠b)(v:Value):aA (w.setCell a v) b n f where
 cell j hj:=by
  rw[World.cell?_setCell_other _ _ _ _ (by intro hc;subst hc;exact ha rfl)];exact h.cell j hj
 frozen j hj:=by simp;exact h.frozen j hj
theorem aA.lt {w:World}{b n:Nat}{f:Nat→Value}(h:aA w b n f)(hn:0<n):b<w.heap.size:=
 World.block_lt_of_cell? w _ (h.cell 0 hn)
theorem aA.since {w w':World}{b n:Nat}{f:Nat→Value}(h:aA w b n f)(hs:Since w w'):aA w' b n f where
 cell j hj:=by
  have hc:=h.cell j hj;rw[hs.cell (p:=⟨b,j,none⟩) (World.block_lt_of_cell? w _ hc)];exact hc
 frozen j hj:=by
  have hc:=h.cell j hj;rw[hs.frozen (p:=⟨b,j,none⟩) (World.block_lt_of_cell? w _ hc)];exact h.frozen j hj
theorem aA.fr {w w':World}{b b' n:Nat}{g:Option Nat}{f:Nat→Value}(h:aA w b n f)(hs:Fr b' g w w')(hb:b≠b')(hg:some b≠g):aA w' b n f where
 cell j hj:=by
  have hc:=h.cell j hj;rw[hs.cell (p:=⟨b,j,none⟩) (World.block_lt_of_cell? w _ hc) hb hg];exact hc
 frozen j hj:=by
  have hc:=h.cell j hj;rw[hs.frozen (p:=⟨b,j,none⟩) (World.block_lt_of_cell? w _ hc) hb hg];exact h.frozen j hj
theorem aA.new (w:World)(n:Nat)(f:Nat→Value)(t:TypeId)(cs:Array Value)(hc:∀j,j<n→cs[j]?=some (f j))(k:Nat)(hk:k=w.heap.size):aA (w.alloc (.cells cs t)) k n f where
 cell j hj:=by
  subst hk;rw[World.cell?_alloc_new];exact hc j hj
 frozen j hj:=by subst hk;exact World.frozen?_alloc_at _ _ _ _ rfl
def ak (n:Nat)(g:Nat→Value):List Value:=(List.range n).map g
theorem ax (n:Nat)(g:Nat→Value):(ak n g).length=n:=by simp[ak]
theorem bM (n:Nat)(g:Nat→Value)(j:Nat)(hj:j<n):(ak n g)[j]?=some (g j):=by simp[ak,hj]
theorem lu (n:Nat)(g:Nat→Value)(h:∀j,j<n→(g j).oneCell'=true):∀v ∈ ak n g,v.oneCell'=true:=by
 intro v hv;simp only[ak,List.mem_map,List.mem_range] at hv;obtain⟨i,hi,rfl⟩:=hv;exact h i hi
theorem rz {l:List Value}{n:Nat}{g:Nat→Value}(hl:l.length=n)(h:∀j,j<n→l[j]?=some (g j)):l=ak n g:=by
 apply List.ext_getElem?
 intro i;by_cases hi:i<n
 ·rw[h i hi,bM n g i hi]
 rw[List.getElem?_eq_none (by omega),List.getElem?_eq_none (by rw[ax];omega)]
theorem aA.range {w:World}{b n:Nat}{f:Nat→Value}(h:aA w b n f)(o m:Nat)(hm:o+m≤n):w.rangeAt b o (ak m (fun j=>f (o+j))):=fun j v hv=>by
 have hj:j<m:=by have:=(List.getElem?_eq_some_iff.1 hv).1;rwa [ax] at this
 rw[bM _ _ j hj] at hv;rw[h.cell (o+j) (by omega),hv]
theorem aA.there {w:World}{b n:Nat}{f:Nat→Value}(h:aA w b n f)(o m:Nat)(hm:o+m≤n):w.there b o m:=fun j hj=>
 ⟨by rw[h.cell (o+j) (by omega)];rfl,h.frozen (o+j) (by omega)⟩
theorem aA.setRow {w:World}{b n:Nat}{f:Nat→Value}(h:aA w b n f)(o m:Nat)(hm:o+m≤n)(g:Nat→Value):aA (w.setCells b o (ak m g)) b n (fP f o m g) where
 cell j hj:=by
  unfold fP;split
  ·rename_i hc
   have:=World.rangeAt_setCells_same w b o (ak m g) (by rw[ax];exact h.there o m hm) (j-o) (g (j-o)) (bM m g _ (by omega))
   rwa [show o+(j-o)=j by omega] at this
  rename_i hc
  rw[World.cell?_setCells_out b _ o w _ (fun _ _=>by rw[ax];show j<o∨o+m≤j;omega)];exact h.cell j hj
 frozen j hj:=by rw[World.frozen?_setCells];exact h.frozen j hj
theorem aA.setRow_other {w:World}{b n:Nat}{f:Nat→Value}(h:aA w b n f){b' o':Nat}(vs:List Value)(hb:b≠b'):aA (w.setCells b' o' vs) b n f where
 cell j hj:=by
  rw[World.cell?_setCells_out b' _ o' w _ (fun e _=>absurd e hb)];exact h.cell j hj
 frozen j hj:=by rw[World.frozen?_setCells];exact h.frozen j hj
theorem aA.store {w:World}{b n:Nat}{f:Nat→Value}(h:aA w b n f)(P:Program)(o m:Nat)(hm:o+m≤n)(g:Nat→Value)(h1:∀j,j<m→(g j).oneCell'=true):(storeCells ⟨b,o,none⟩ (ak m g)).run P w=.ok () (w.setCells b o (ak m g)):=by
 have:=run_storeCells_cells (P:=P) b o (ak m g) 0 w (fun j hj=>by rw[ax] at hj;simpa using (h.there o m hm j hj).1) (fun j hj=>by rw[ax] at hj;simpa using (h.there o m hm j hj).2) (lu m g h1)
 simpa using this
theorem bz {fn:Func}{p:Tmp}{ty:TypeId}(h:fn.results=#[.cell p ty])(tmps:Array Value)(P:Program)(w:World)(b:Nat)(cs:List Value)(d:TypeDesc)(hx:tmps.getD p undef=.pointer (some ⟨b,0,none⟩))(hc:w.rangeAt b 0 cs)(hu:P.underlying ty=some d)(hd:d.isRow=true)(hi:(P.info? ty).map (·.size)=some cs.length) :
  (results fn tmps).run P w=.ok (.agg cs.toArray) w:=by
 simp only[results,h];have h1:=run_loadVar_mid (P:=P) w b 0 ty cs d hc hu hd hi;have h2:tmps[p]?.getD undef=.pointer (some ⟨b,0,none⟩):=by simpa using hx
 simp[asAddr,h2,h1]
def bv (x:UInt8):Value:=.int .u8 (x.toNat:Int)
def sb (s:ByteArray)(i:Nat):UInt8:=s.data[i]?.getD 0
def txt (n:Nat)(f:Nat→UInt8):ByteArray:=⟨((List.range n).map f).toArray⟩
theorem bG (n:Nat)(f:Nat→UInt8):(txt n f).size=n:=by simp[txt,ByteArray.size]
theorem pq {n:Nat}{f g:Nat→UInt8}(h:∀i,i<n→f i=g i):txt n f=txt n g:=by
 unfold txt;rw[List.map_congr_left (fun i hi=>h i (List.mem_range.1 hi))]
theorem ma (n:Nat)(f:Nat→UInt8)(i:Nat)(hi:i<n):sb (txt n f) i=f i:=by simp[sb,txt,hi]
end
section
open Go.RowKit
structure Dv where
 blk:Nat→Nat→Nat→UInt8
 cnt:Nat→Nat
 sure:Nat→Nat
 slot:Nat→Nat→UInt8
 ws:List (Nat × ByteArray)
 fused:Bool
 left:Int
def fB (blk:Nat→Nat→UInt8)(cnt sure:Nat)(o:Nat):Value:=
 if o<2048 then bv (blk (o / 128) (o % 128)) else if o=2048 then .int .i64 cnt else .int .i64 sure
def dH (D:Dv)(v:Value)(o:Nat):Value:=
 if o<16400 then fB (D.blk (o / 2050)) (D.cnt (o / 2050)) (D.sure (o / 2050)) (o % 2050)
 else if o<17400 then bv (D.slot ((o-16400) / 500) ((o-16400) % 500))
 else if o=17400 then v
 else if o=17401 then .bool D.fused
 else .int .i64 D.left
def lg (ws:List (Nat × ByteArray)):List Value:=ws.flatMap fun p=>[.int .i64 (p.1:Int),.string p.2]
structure Dv.ok (D:Dv):Prop where
 cnt:∀z,z<8→D.cnt z≤16
 sure:∀z,z<8→D.sure z≤D.cnt z
 zero:∀z k i,z<8→D.cnt z≤k→k<16→i<128→D.blk z k i=0
 left:0≤D.left∧D.left≤9223372036854775807
 ws:∀p ∈ D.ws,p.1<2∧p.2.size≤500
 few:D.ws.length≤1000
structure Dev (w:World)(b:Nat)(D:Dv)(v:Value):Prop where
 aQ:aA w b 17403 (dH D v)
 own:w.ownsRow 0 269 2 v D.ws.length (lg D.ws)
 ne:some b≠v.ownBlock
 ok:D.ok
theorem Dev.lt {w:World}{b:Nat}{D:Dv}{v:Value}(h:Dev w b D v):b<w.heap.size:=h.aQ.lt (by omega)
theorem Dev.glt {w:World}{b:Nat}{D:Dv}{v:Value}(h:Dev w b D v):∀k,v.ownBlock=some k→k<w.heap.size:=fun k hk=>(h.own.lt k hk).2
theorem dh {w w':World}{b base e size n:Nat}{g:Option Nat}{v:Value}{xs:List Value}(h:w.ownsRow base e size v n xs)(hf:Fr b g w w')(hb:v.ownBlock≠some b)(hg:v.ownBlock=none∨v.ownBlock≠g):w'.ownsRow base e size v n xs:=by
 refine⟨h.1,?_⟩;rcases h.2 with hn | ⟨k,cap,cur,rfl,hbk,hk,rest⟩
 ·exact .inl hn
 refine .inr ⟨k,cap,cur,rfl,hbk,?_,rest⟩;rw[hf.block k (Array.getElem?_eq_some_iff.1 hk).1 (fun e=>hb (by simp[Value.ownBlock,e])) (fun e=>by
  rcases hg with h1 | h1
  ·simp[Value.ownBlock] at h1
  exact h1 (by simpa [Value.ownBlock] using e))]
 exact hk
theorem Dev.since {w w':World}{b:Nat}{D:Dv}{v:Value}(h:Dev w b D v)(hs:Since w w'):Dev w' b D v where
 aQ:=h.aQ.since hs
 own:=by
  refine⟨h.own.1,?_⟩;rcases h.own.2 with hn | ⟨k,cap,cur,hv,hbk,hk,rest⟩
  ·exact .inl hn
  exact .inr ⟨k,cap,cur,hv,hbk,by rw[hs.block k (Array.getElem?_eq_some_iff.1 hk).1];exact hk,rest⟩
 ne:=h.ne
 ok:=h.ok
theorem Dev.turn {w w':World}{b:Nat}{D D':Dv}{v:Value}(h:Dev w b D v)(hc:aA w' b 17403 (dH D' v))(hf:Fr b none w w')(hw:D'.ws=D.ws)(hok:D'.ok):Dev w' b D' v:=
 ⟨hc,by rw[hw];exact dh h.own hf (fun e=>h.ne e.symm) (by
  cases hv:v.ownBlock with
  | none=>exact Or.inl rfl
  | some k=>exact Or.inr (by simp)),h.ne,hok⟩
theorem Nw (D:Dv)(v:Value)(z k i:Nat)(hz:z<8)(hk:k<16)(hi:i<128):dH D v (z*2050+k*128+i)=bv (D.blk z k i):=by
 unfold dH fB;rw[if_pos (by omega),show (z*2050+k*128+i) / 2050=z by omega,show (z*2050+k*128+i) % 2050=k*128+i by omega,if_pos (by omega),show (k*128+i) / 128=k by omega,show (k*128+i) % 128=i by omega]
theorem fH (D:Dv)(v:Value)(z:Nat)(hz:z<8):dH D v (z*2050+2048)=.int .i64 (D.cnt z):=by
 unfold dH fB;rw[if_pos (by omega),show (z*2050+2048) / 2050=z by omega,show (z*2050+2048) % 2050=2048 by omega,if_neg (by omega),if_pos rfl]
theorem ww (D:Dv)(v:Value)(z:Nat)(hz:z<8):dH D v (z*2050+2049)=.int .i64 (D.sure z):=by
 unfold dH fB;rw[if_pos (by omega),show (z*2050+2049) / 2050=z by omega,show (z*2050+2049) % 2050=2049 by omega,if_neg (by omega),if_neg (by omega)]
theorem wB (D:Dv)(v:Value)(k i:Nat)(hk:k<2)(hi:i<500):dH D v (16400+k*500+i)=bv (D.slot k i):=by
 unfold dH;rw[if_neg (by omega),if_pos (by omega),show (16400+k*500+i-16400) / 500=k by omega,show (16400+k*500+i-16400) % 500=i by omega]
theorem jG (D:Dv)(v:Value):dH D v 17400=v:=rfl
theorem jH (D:Dv)(v:Value):dH D v 17401=.bool D.fused:=rfl
theorem ku (D:Dv)(v:Value):dH D v 17402=.int .i64 D.left:=rfl
end
section
open Go.RowKit
def Bc:Nat→List Value→Option (List Value)
 | 0,l=>some l
 | n+1,.int .u8 (.ofNat 0)::r=>Bc n r
 | _+1,_=>none
def Ny:Nat→List Value→Option (List Value)
 | 0,l=>some l
 | k+1,l=>match Bc 2048 l with
  | some (.int .i64 (.ofNat 0)::.int .i64 (.ofNat 0)::r)=>Ny k r
  | _=>none
theorem nP:∀(n:Nat) (l r:List Value),Bc n l=some r→(∀j,j<n→l[j]?=some (bv 0))∧∀j,l[n+j]?=r[j]?
 | 0,l,r,h=>by
  simp only[Bc,Option.some.injEq] at h;subst h;exact⟨fun j hj=>by omega,fun j=>by rw[Nat.zero_add]⟩
 | n+1,[],r,h=>by simp[Bc] at h
 | n+1,x::l,r,h=>by
  unfold Bc at h;split at h
  ·rename_i hq
   exact absurd hq (by omega)
  ·rename_i heq1 heq2
   cases heq1
   injection heq2 with h1 h2
   subst h1 h2;obtain⟨a,b⟩:=nP n _ r h;refine⟨fun j hj=>?_,fun j=>?_⟩
   ·cases j with
    | zero=>rfl
    | succ j=>simpa using a j (by omega)
   rw[show n+1+j=(n+j)+1 by omega]
   simpa using b j
  cases h
theorem wC:∀(k:Nat) (l r:List Value),Ny k l=some r→(∀j,j<2050*k→l[j]?=some (fB (fun _ _=>0) 0 0 (j % 2050)))∧∀j,l[2050*k+j]?=r[j]?
 | 0,l,r,h=>by
  simp only[Ny,Option.some.injEq] at h;subst h;exact⟨fun j hj=>by omega,fun j=>by rw[Nat.mul_zero,Nat.zero_add]⟩
 | k+1,l,r,h=>by
  unfold Ny at h;split at h
  ·rename_i r' heq
   obtain⟨a,b⟩:=nP 2048 l _ heq;obtain⟨c,d⟩:=wC k _ r h;refine⟨fun j hj=>?_,fun j=>?_⟩
   ·rcases Nat.lt_or_ge j 2048 with h1 | h1
    ·rw[a j h1];unfold fB;rw[if_pos (by omega)]
    have e:=b (j-2048);rw[show 2048+(j-2048)=j by omega] at e;rw[e];rcases Nat.lt_or_ge j 2050 with h2 | h2
    ·have h3:j=2048∨j=2049:=by omega
     rcases h3 with rfl | rfl<;>rfl
    have e2:j-2048=(j-2050)+1+1:=by omega
    rw[e2,List.getElem?_cons_succ,List.getElem?_cons_succ,c (j-2050) (by omega)];rw[show (j-2050) % 2050=j % 2050 by omega]
   have e:=b (2+(2050*k+j));rw[show 2048+(2+(2050*k+j))=2050*(k+1)+j by omega] at e;rw[e,show 2+(2050*k+j)=(2050*k+j)+1+1 by omega,List.getElem?_cons_succ,List.getElem?_cons_succ];exact d j
  cases h
def QH:Option (List Value)→Bool
 | some [.slice none 0 0,.bool false,.int .i64 (.ofNat 0)]=>true
 | _=>false
theorem QI {o:Option (List Value)}(h:QH o=true):o=some [.slice none 0 0,.bool false,.int .i64 0]:=by
 unfold QH at h;split at h
 ·rfl
 cases h
def isNil:Option (List Value)→Bool
 | some []=>true
 | _=>false
theorem wD {o:Option (List Value)}(h:isNil o=true):o=some []:=by
 unfold isNil at h;split at h
 ·rfl
 cases h
theorem wE:QH ((Ny 8 Tryz.zeroCells104.toList).bind (Bc 1000))=true:=by kernel_rfl
theorem zf:isNil (Ny 1 Tryz.zeroCells98.toList)=true:=by kernel_rfl
theorem Bd:isNil (Bc 500 Tryz.zeroCells100.toList)=true:=by kernel_rfl
theorem zg:isNil (Bc 128 Tryz.zeroCells95.toList)=true:=by kernel_rfl
def sW:Dv:={ blk:=fun _ _ _=>0,cnt:=fun _=>0,sure:=fun _=>0,slot:=fun _ _=>0,ws:=[],fused:=false,left:=0 }
theorem Zk:sW.ok:=⟨fun _ _=>by simp[sW],fun _ _=>by simp[sW],fun _ _ _ _ _ _ _=>rfl,by simp[sW],fun p hp=>by simp[sW] at hp,by simp[sW]⟩
theorem wF (j:Nat)(hj:j<17403):Tryz.zeroCells104[j]?=some (dH sW (.slice none 0 0) j):=by
 have h:=QI wE;obtain⟨r,h1,h2⟩:=Option.bind_eq_some_iff.1 h;obtain⟨a,b⟩:=wC 8 _ r h1;obtain⟨c,d⟩:=nP 1000 r _ h2;rw[←Array.getElem?_toList];unfold dH;by_cases g1:j<16400
 ·rw[if_pos g1,a j (by omega)]
  rfl
 rw[if_neg g1];have e:=b (j-16400);rw[show 2050*8+(j-16400)=j by omega] at e;rw[e];by_cases g2:j<17400
 ·rw[if_pos g2,c (j-16400) (by omega)]
  rfl
 rw[if_neg g2];have e2:=d (j-17400);rw[show 1000+(j-17400)=j-16400 by omega] at e2;rw[e2];have h3:j=17400∨j=17401∨j=17402:=by omega
 rcases h3 with rfl | rfl | rfl<;>rfl
theorem zh (j:Nat)(hj:j<2050):Tryz.zeroCells98[j]?=some (fB (fun _ _=>0) 0 0 j):=by
 obtain⟨a,_⟩:=wC 1 _ _ (wD zf);rw[←Array.getElem?_toList,a j (by omega),Nat.mod_eq_of_lt hj]
theorem jP (j:Nat)(hj:j<500):Tryz.zeroCells100[j]?=some (bv 0):=by
 obtain⟨a,_⟩:=nP 500 _ _ (wD Bd);rw[←Array.getElem?_toList,a j hj]
theorem zi (j:Nat)(hj:j<128):Tryz.zeroCells95[j]?=some (bv 0):=by
 obtain⟨a,_⟩:=nP 128 _ _ (wD zg);rw[←Array.getElem?_toList,a j hj]
theorem Nz (blk:Nat→Nat→UInt8)(c s j:Nat):(fB blk c s j).oneCell'=true:=by
 unfold fB;split
 ·rfl
 split<;>rfl
theorem wG:Tryz.zeroCells98.toList=ak 2050 (fB (fun _ _=>0) 0 0):=
 rz (by rw[Array.length_toList,Tryz.zeroCells98_size]) (fun j hj=>by rw[Array.getElem?_toList];exact zh j hj)
theorem VQ (w:World):Calls Tryz.prog 6 #[] w fun e w'=>e=.returned (.pointer (some ⟨w.heap.size,0,none⟩))∧w'=w.alloc (.cells Tryz.zeroCells104 104):=by
 go_enter Tryz.func6,Tryz.ntmps6
 go_wp2_with fail
 go_ret;exact⟨rfl,rfl⟩
theorem VR (w:World):Dev (w.alloc (.cells Tryz.zeroCells104 104)) w.heap.size sW (.slice none 0 0) where
 aQ:=aA.new w _ _ _ _ wF _ rfl
 own:=World.ownsRow_nil _ _ _ _
 ne:=by simp[Value.ownBlock]
 ok:=Zk
theorem bB (a:Addr)(w:World):Calls Tryz.prog 73 #[.pointer (some a)] w fun e w'=>e=.returned (.pointer (some a))∧w'=w:=by
 go_enter Tryz.func73,Tryz.ntmps73
 go_wp2_with fail
 go_ret;exact⟨rfl,rfl⟩
theorem cu (z:Int)(w:World):Calls Tryz.prog 203 #[.int .i64 z] w fun e w'=>e=.returned (.bool (decide (0≤z)&&decide (z<8)))∧w'=w:=by
 by_cases h:0≤z
 ·go_enter Tryz.func203,Tryz.ntmps203
  go_wp2_with fail
  go_ret;exact⟨by simp[h],rfl⟩
 go_enter Tryz.func203,Tryz.ntmps203
 go_wp2_with fail
 go_ret;exact⟨by simp[h];omega,rfl⟩
theorem nQ (z:Int)(w:World):Calls Tryz.prog 252 #[.int .i64 z] w fun e w'=>e=.returned (.bool (decide (0≤z)&&decide (z<2)))∧w'=w:=by
 by_cases h:0≤z
 ·go_enter Tryz.func252,Tryz.ntmps252
  go_wp2_with fail
  go_ret;exact⟨by simp[h],rfl⟩
 go_enter Tryz.func252,Tryz.ntmps252
 go_wp2_with fail
 go_ret;exact⟨by simp[h];omega,rfl⟩
theorem zB (i:Int)(w:World):Calls Tryz.prog 192 #[.int .i64 i] w fun e w'=>e=.returned (.bool true)∧w'=w:=by
 go_enter Tryz.func192,Tryz.ntmps192
 go_wp2_with fail
 go_ret;exact⟨rfl,rfl⟩
end
section
set_option linter.unusedSectionVars false
namespace Tw
open Go.RowKit
structure Tb where
 count:Int
 az:Nat→Int
 off:Nat→Int
 tag:Nat→ByteArray
def Tb.zero:Tb:=⟨0,fun _=>0,fun _=>0,fun _=>⟨#[]⟩⟩
def eY (T:Tb)(i r:Nat):Value:=if r=0 then .int .i64 (T.az i) else if r=1 then .int .i64 (T.off i) else .string (T.tag i)
def ae (T:Tb)(j:Nat):Value:=if j=0 then .int .i64 T.count else eY T ((j-1) / 3) ((j-1) % 3)
theorem lC (T:Tb)(i r:Nat)(hr:r<3):ae T (1+i*3+r)=eY T i r:=by
 unfold ae;rw[if_neg (by omega),show (1+i*3+r-1) / 3=i by omega,show (1+i*3+r-1) % 3=r by omega]
def aU (T:Tb)(j:Nat):Value:=eY T (j / 3) (j % 3)
theorem QJ (T:Tb)(i r:Nat)(hr:r<3):aU T (i*3+r)=eY T i r:=by
 unfold aU;rw[show (i*3+r) / 3=i by omega,show (i*3+r) % 3=r by omega]
theorem Ht (T:Tb)(j:Nat):ae T (1+j)=aU T j:=by
 unfold ae aU;rw[if_neg (by omega),show 1+j-1=j by omega]
def aY (T:Tb):Value:=.agg (ak 73 (ae T)).toArray
def Same (T U:Tb):Prop:=T.count=U.count∧∀i,i<24→T.az i=U.az i∧T.off i=U.off i∧T.tag i=U.tag i
theorem wH {n:Nat}{f g:Nat→Value}(h:∀j,j<n→f j=g j):ak n f=ak n g:=by
 unfold ak;exact List.map_congr_left (fun i hi=>h i (List.mem_range.1 hi))
abbrev ig (T:Tb)(i:Nat):Prop:=T.az i=0∧T.off i=0∧T.tag i=⟨#[]⟩
abbrev may (T:Tb)(i:Nat):Prop:=(T.tag i).size=16∧0≤T.az i∧T.az i<8∧0≤T.off i∧T.off i<16
def hit (T:Tb)(k:Nat)(z o:Int):Prop:=∃j,j<k∧¬ig T j∧T.az j=z∧T.off j=o
def fine (T:Tb)(k:Nat):Prop:=∀i,i<k→ig T i∨(may T i∧¬hit T i (T.az i) (T.off i))
def Rt (T:Tb):Prop:=(1≤T.count∧T.count≤1099511627776)∧fine T 24
theorem zC (T:Tb):fine T 0:=fun i hi=>by omega
theorem CF {T:Tb}{k:Nat}(h:fine T k)(hn:ig T k):fine T (k+1):=fun i hi=>by
 by_cases e:i=k
 ·subst e;exact Or.inl hn
 exact h i (by omega)
theorem CG {T:Tb}{k:Nat}(h:fine T k)(hm:may T k)(hh:¬hit T k (T.az k) (T.off k)):fine T (k+1):=fun i hi=>by
 by_cases e:i=k
 ·subst e;exact Or.inr ⟨hm,hh⟩
 exact h i (by omega)
theorem kw {T:Tb}{k n:Nat}(hn:¬ig T k)(hb:¬may T k∨hit T k (T.az k) (T.off k))(hk:k<n):¬fine T n:=fun h=>by
 rcases h k hk with h1 | ⟨h1,h2⟩
 ·exact hn h1
 rcases hb with hb | hb
 ·exact hb h1
 exact h2 hb
theorem QK (T:Tb)(z o:Int):¬hit T 0 z o:=fun ⟨j,hj,_⟩=>by omega
theorem VS {T:Tb}{k:Nat}(hn:ig T k)(z o:Int):hit T (k+1) z o↔hit T k z o:=by
 constructor
 ·rintro ⟨j,hj,h1,h2⟩;by_cases e:j=k
  ·subst e;exact absurd hn h1
  exact⟨j,by omega,h1,h2⟩
 rintro ⟨j,hj,h1,h2⟩;exact⟨j,by omega,h1,h2⟩
theorem Mi {T:Tb}{k:Nat}(hn:¬ig T k)(z o:Int):hit T (k+1) z o↔hit T k z o∨(T.az k=z∧T.off k=o):=by
 constructor
 ·rintro ⟨j,hj,h1,h2⟩;by_cases e:j=k
  ·subst e;exact Or.inr h2
  exact Or.inl ⟨j,by omega,h1,h2⟩
 rintro (⟨j,hj,h1,h2⟩ | h2)
 ·exact⟨j,by omega,h1,h2⟩
 exact⟨k,by omega,hn,h2⟩
def qd (T:Tb)(k:Nat):List (Int × Int):=((List.range k).filter (fun j=>decide (¬ig T j))).map (fun j=>(T.az j,T.off j))
theorem VT (T:Tb)(k:Nat)(z o:Int):(z,o) ∈ qd T k↔hit T k z o:=by
 unfold qd hit;simp only[List.mem_map,List.mem_filter,List.mem_range,decide_eq_true_eq,Prod.mk.injEq];constructor
 ·rintro ⟨j,⟨h1,h2⟩,h3,h4⟩;exact⟨j,h1,h2,h3,h4⟩
 rintro ⟨j,h1,h2,h3,h4⟩;exact⟨j,⟨h1,h2⟩,h3,h4⟩
theorem VU {T:Tb}{k:Nat}(hn:ig T k):qd T (k+1)=qd T k:=by
 unfold qd;rw[List.range_succ,List.filter_append,List.map_append];simp[hn]
theorem VV {T:Tb}{k:Nat}(hn:¬ig T k):qd T (k+1)=qd T k++[(T.az k,T.off k)]:=by
 have e:[k].filter (fun j=>decide (¬ig T j))=[k]:=List.filter_eq_self.2 (fun a ha=>by
  rw[List.mem_singleton.1 ha];exact decide_eq_true hn)
 unfold qd;rw[List.range_succ,List.filter_append,e,List.map_append]
 rfl
def cellL (T:Tb)(i:Nat):List UInt8:=if ig T i then 255::List.replicate 17 0 else UInt8.ofNat (T.az i).toNat::UInt8.ofNat (T.off i).toNat::(T.tag i).data.toList
theorem zD {T:Tb}{n:Nat}(h:fine T n)(i:Nat)(hi:i<n):(cellL T i).length=18:=by
 unfold cellL;split
 ·simp
 rename_i hn
 rcases h i hi with h1 | ⟨h1,_⟩
 ·exact absurd h1 hn
 have:(T.tag i).data.size=16:=h1.1;simp[this]
def nR (T:Tb)(k:Nat):List UInt8:=(List.range k).flatMap (cellL T)
theorem uy (T:Tb):nR T 0=[]:=rfl
theorem nS (T:Tb)(k:Nat):nR T (k+1)=nR T k++cellL T k:=by
 unfold nR;rw[List.range_succ,List.flatMap_append];simp
theorem wI {T:Tb}{n:Nat}(h:fine T n):∀k,k≤n→(nR T k).length=18*k:=by
 intro k;induction k with
 | zero=>intro _;rfl
 | succ k ih=>
  intro hk;rw[nS,List.length_append,ih (by omega),zD h k (by omega)];omega
def bU (s:ByteArray)(a:Nat):Nat→Nat
 | 0=>0
 | k+1=>bU s a k*256+(sb s (a+k)).toNat
theorem CJ (s:ByteArray)(a k:Nat):bU s a k<256 ^ k:=by
 induction k with
 | zero=>simp[bU]
 | succ k ih=>
  have:=(sb s (a+k)).toNat_lt;unfold bU;rw[Nat.pow_succ];omega
def wJ (s:ByteArray):Prop:=∀j,456≤j→j<s.size→sb s j=0
theorem NA (s u:ByteArray)(hu:u.size=456)(hs:456≤s.size):s=u++txt (s.size-456) (fun _=>0)↔s.extract 0 456=u∧wJ s:=by
 have hsz:s.data.size=s.size:=rfl;have huz:u.data.size=456:=hu;have hg:∀i,(u++txt (s.size-456) (fun _=>0)).data[i]?=if i<456 then u.data[i]? else if i<s.size then some 0 else none:=fun i=>by
  rw[ByteArray.data_append,Array.getElem?_append,huz];split
  ·rfl
  have e2:(txt (s.size-456) (fun _=>0)).data[i-456]?=((List.range (s.size-456)).map (fun _=>(0:UInt8)))[i-456]?:=by unfold txt;exact List.getElem?_toArray ..
  rw[e2,List.getElem?_map];split
  ·rw[List.getElem?_range (by omega)];rfl
  rw[List.getElem?_eq_none (by simp;omega)];rfl
 have he:∀i,(s.extract 0 456).data[i]?=if i<456 then s.data[i]? else none:=fun i=>by
  rw[ByteArray.data_extract,Array.getElem?_extract];split
  ·rw[if_pos (by omega),Nat.zero_add]
  rw[if_neg (by omega)]
 constructor
 ·intro h;constructor
  ·apply ByteArray.ext
   apply Array.ext_getElem?
   intro i;rw[he i];split
   ·rename_i hi
    have:=hg i;rw[←h,if_pos hi] at this;exact this
   rw[Array.getElem?_eq_none (by omega)]
  intro j h1 h2;have:=hg j;rw[←h,if_neg (by omega),if_pos h2] at this;unfold sb;rw[this]
  rfl
 rintro ⟨h1,h2⟩;apply ByteArray.ext
 apply Array.ext_getElem?
 intro i;rw[hg i];split
 ·rename_i hi
  have:=he i;rw[h1,if_pos hi] at this;exact this.symm
 rename_i hi
 split
 ·rename_i hi2
  have:=h2 i (by omega) hi2;unfold sb at this;rw[Array.getElem?_eq_getElem (by omega)] at this ⊢
  simpa using this
 rw[Array.getElem?_eq_none (by omega)]
def pk (p:Int × Int):Value:=.agg #[.int .i64 p.1,.int .i64 p.2]
def vC:List (Int × Int)→Nat→List MapEntry
 | [],_=>[]
 | p::r,i=>{ key:=pk p,val:=.bool true,born:=i }::vC r (i+1)
theorem Hu (L:List (Int × Int))(p:Int × Int)(i:Nat):vC (L++[p]) i=vC L i++[{ key:=pk p,val:=.bool true,born:=i+L.length }]:=by
 induction L generalizing i with
 | nil=>simp[vC]
 | cons q r ih=>simp[vC,ih];omega
structure PT (P:Program)(kt:TypeId):Prop where
 h3:P.underlying 3=some (.int .i64)
 hk:P.underlying kt=some (.array 2 3)
 hi:∃i,P.info? 3=some i
 hag:∀w,(isAgg 3).run P w=.ok false w
 hsz:∀w,(sizeOf 3).run P w=.ok 1 w
 hc:P.cellsOf 3=1
section
variable {P:Program} {kt:TypeId}
theorem Mj (X:PT P kt)(w:World)(cs:Array Value)(o:Nat)(v:Value)(h:cs[o]?=some v):(part 3 cs o).run P w=.ok v w:=by
 simp[part,X.hag,h]
theorem CK (X:PT P kt)(w:World)(p q:Int × Int):(Op.equal kt (pk p) (pk q)).run P w=.ok (decide (p=q)) w:=by
 obtain⟨a,b⟩:=p;obtain⟨c,d⟩:=q;have hp:=Mj X w;have e1:∀(a b:Int),(Op.equalIn 9999 3 (.int .i64 a) (.int .i64 b)).run P w=.ok (a==b) w:=fun a b=>run_equalIn_int w 9998 3 .i64 .i64 a b X.h3
 obtain⟨i3,hi⟩:=X.hi;have e2:=run_equalIn_array (P:=P) w 9999 #[.int .i64 a,.int .i64 b] #[.int .i64 c,.int .i64 d] X.hk hi;unfold Op.equal pk;rw[show Op.maxDepth=9999+1 from rfl,e2,X.hc,show List.range 2=[0,1] from rfl];have q0:=hp #[.int .i64 a,.int .i64 b] (0*1) (.int .i64 a) rfl;have q1:=hp #[.int .i64 a,.int .i64 b] (1*1) (.int .i64 b) rfl;have q2:=hp #[.int .i64 c,.int .i64 d] (0*1) (.int .i64 c) rfl;have q3:=hp #[.int .i64 c,.int .i64 d] (1*1) (.int .i64 d) rfl;simp only[Op.eqItems,Sem.run_bind,Sem.run_ite,Sem.run_pure,q0,q1,q2,q3,e1,Result.andThen_ok];by_cases h1:a=c
 ·by_cases h2:b=d
  ·subst h1 h2;simp
  simp[h1,h2]
 simp[h1]
theorem wK (X:PT P kt)(w:World)(em:Bool)(p:Int × Int):(Instr.checkKey em 10000 kt (pk p)).run P w=.ok () w:=by
 have hp:=Mj X w;have q0:=hp #[.int .i64 p.1,.int .i64 p.2] (0*1) (.int .i64 p.1) rfl;have q1:=hp #[.int .i64 p.1,.int .i64 p.2] (1*1) (.int .i64 p.2) rfl;have e1:∀a:Int,(Instr.checkKey em 9999 3 (.int .i64 a)).run P w=.ok () w:=fun a=>MapKept.run_checkKey X.h3 (by simp[MapKept.IsKey]) em 9998
 unfold pk;rw[show 10000=9999+1 from rfl,Instr.checkKey];simp only[Sem.run_bind,run_underlying X.hk,Result.andThen_ok,Std.Legacy.Range.forIn_eq_forIn_range',Std.Legacy.Range.size];rw[show List.range' 0 ((2-0+1-1) / 1)=[0,1] from rfl];simp only[List.forIn_cons,List.forIn_nil,Sem.run_bind,X.hsz,Result.andThen_ok,q0,q1,e1,Sem.run_pure]
theorem Mk (X:PT P kt)(w:World)(p:Int × Int):∀(L:List (Int × Int)) (i j:Nat),∃a,(Instr.findAsking kt (pk p) (vC L i) j).run P w=.ok a w∧(p ∈ L→∃n,a=some (n,.bool true))∧(p ∉ L→a=none)
 | [],i,j=>⟨none,by simp[vC,Instr.findAsking],by simp,by simp⟩
 | q::r,i,j=>by
  by_cases h:p=q
  ·exact⟨some (j,.bool true),by simp[vC,Instr.findAsking,CK X,h],fun _=>⟨j,rfl⟩,by simp[h]⟩
  obtain⟨a,h1,h2,h4⟩:=Mk X w p r (i+1) (j+1);exact⟨a,by simp[vC,Instr.findAsking,CK X,h,h1],by simpa [h] using h2,by simpa [h] using h4⟩
theorem wL (X:PT P kt)(w:World)(p:Int × Int)(L:List (Int × Int)):∃a,(Instr.findKey kt (pk p) (vC L 0)).run P w=.ok a w∧(p ∈ L→∃n,a=some (n,.bool true))∧(p ∉ L→a=none):=by
 rw[run_findKey_eq w (by simp[X.hk])];exact Mk X w p L 0 0
theorem NB (X:PT P kt){mt:TypeId}(hm:P.underlying mt=some (.map kt 4))(hz:∀w,(zeroValue 4).run P w=.ok (.bool false) w)(w:World)(r:Nat)(L:List (Int × Int))(c:Nat)(p:Int × Int)(hb:w.heap[r]?=some (.map (vC L 0).toArray c)) :
  (Instr.lookup mt (.map (some r)) (pk p) false).run P w=.ok (.bool (decide (p ∈ L))) w:=by
 obtain⟨a,h1,h2,h4⟩:=wL X w p L;by_cases h:p ∈ L
 ·obtain⟨n,rfl⟩:=h2 h;simp[Instr.lookup,run_underlying hm,MapKept.run_getObj_map hb,wK X,h1,h,Result.andThen]
 obtain rfl:=h4 h;simp[Instr.lookup,run_underlying hm,MapKept.run_getObj_map hb,wK X,h1,h,hz,Result.andThen]
theorem NC (X:PT P kt){mt:TypeId}(hm:P.underlying mt=some (.map kt 4))(w:World)(r:Nat)(L:List (Int × Int))(p:Int × Int)(hb:w.heap[r]?=some (.map (vC L 0).toArray L.length))(h:p ∉ L) :
  (Instr.mapUpdate mt (.map (some r)) (pk p) (.bool true)).run P w=.ok () { w with heap:=w.heap.setIfInBounds r (.map (vC (L++[p]) 0).toArray (L++[p]).length) }:=by
 obtain⟨a,h1,h2,h4⟩:=wL X w p L;obtain rfl:=h4 h;simp[Instr.mapUpdate,run_underlying hm,MapKept.run_getObj_map hb,wK X,h1,MapKept.run_setObj_map _ hb,Result.andThen,Hu]
end
end Tw
end
end Go.Proofs.YtlgbfkcpdelcbaaGreatDoor
