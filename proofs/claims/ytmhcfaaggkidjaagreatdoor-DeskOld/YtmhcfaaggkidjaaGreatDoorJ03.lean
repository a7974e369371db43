import Derived.Deep.MidRow
import Derived.Test.YtmhcfaaggkidjaaGreatDoorJ02
set_option linter.unusedSimpArgs false
set_option linter.unusedVariables false
section
namespace Go.Proofs.YtmhcfaaggkidjaaGreatDoor
open Go.RowKit
structure Fr (b:Nat) (g:Option Nat) (w w':World):Prop where
 os:w'.os=w.os
 tape:w'.tape=w.tape
 output:w'.output=w.output
 size:w.heap.size≤w'.heap.size
 block:∀k,k<w.heap.size→k≠b→some k≠g→w'.heap[k]?=w.heap[k]?
theorem Fr.refl (b:Nat) (g:Option Nat) (w:World):Fr b g w w:=⟨rfl,rfl,rfl,Nat.le_refl _,fun _ _ _ _=>rfl⟩
def Nx (w:World) (g g':Option Nat):Prop:=∀k,g'=some k→g=some k∨w.heap.size≤k
theorem Nx.refl (w:World) (g:Option Nat):Nx w g g:=fun _ h=>Or.inl h
theorem Nx.none (w:World) (g:Option Nat):Nx w g none:=fun _ h=>by cases h
theorem Nx.trans {w w1:World} {g g1 g2:Option Nat} (h:Nx w g g1) (k:Nx w1 g1 g2) (hs:w.heap.size≤w1.heap.size):Nx w g g2:=fun j hj=>by
 rcases k j hj with h1 | h1
 ·exact h j h1
 exact Or.inr (Nat.le_trans hs h1)
theorem Fr.trans {b:Nat} {g g':Option Nat} {w w' w'':World} (h:Fr b g w w') (k:Fr b g' w' w'') (hn:Nx w g g'):Fr b g w w'' where
 os:=k.os.trans h.os
 tape:=k.tape.trans h.tape
 output:=k.output.trans h.output
 size:=Nat.le_trans h.size k.size
 block j hj hb hg:=(k.block j (Nat.lt_of_lt_of_le hj h.size) hb (fun e=>by
  rcases hn j e.symm with h1 | h1
  ·exact hg h1.symm
  omega)).trans (h.block j hj hb hg)
theorem Fr.ah {b:Nat} {g:Option Nat} {w w':World} (h:Since w w'):Fr b g w w':=⟨h.os,h.tape,h.output,h.size,fun k hk _ _=>h.block k hk⟩
theorem Fr.setCell (b:Nat) (g:Option Nat) (o:Nat) (w:World) (v:Value):Fr b g w (w.setCell ⟨b,o,none⟩ v):=
 ⟨rfl,rfl,rfl,by simp[World.setCell],fun k _ hb _=>Below.heap_setCell _ _ _ _ hb⟩
theorem Fr.trans' {b:Nat} {g:Option Nat} {w w' w'':World} (h:Fr b g w w') (k:Fr b g w' w''):Fr b g w w'':=h.trans k (Nx.refl _ _)
theorem Fr.setCells (b:Nat) (g:Option Nat):∀(vs:List Value) (o:Nat) (w:World),Fr b g w (w.setCells b o vs)
 | [],_,w=>Fr.refl _ _ w
 | v::r,o,w=>(Fr.setCell b g o w v).trans' (Fr.setCells b g r (o+1) _)
theorem Fr.since {b:Nat} {g:Option Nat} {a w w':World} (h:Fr b g w w') (hs:Since a w) (hb:a.heap.size≤b) (hg:∀k,g=some k→a.heap.size≤k):Since a w':=
 Below.trans (show Below a.heap.size a w from hs) ⟨h.os,h.tape,h.output,h.size,fun k hk=>h.block k (Nat.lt_of_lt_of_le hk hs.size) (by omega) (fun e=>by have:=hg k e.symm;omega)⟩
theorem Fr.cell {b:Nat} {g:Option Nat} {w w':World} (h:Fr b g w w') {p:Addr} (hp:p.block<w.heap.size) (hb:p.block≠b) (hg:some p.block≠g):w'.cell? p=w.cell? p:=
 World.cell?_of_block (w:=w) (h.block p.block hp hb hg)
theorem Fr.frozen {b:Nat} {g:Option Nat} {w w':World} (h:Fr b g w w') {p:Addr} (hp:p.block<w.heap.size) (hb:p.block≠b) (hg:some p.block≠g):w'.frozen? p=w.frozen? p:=
 World.frozen?_of_block (w:=w) (h.block p.block hp hb hg)
structure ak (w:World) (b n:Nat) (f:Nat→Value):Prop where
 cell:∀j,j<n→w.cell? ⟨b,j,none⟩=some (f j)
 frozen:∀j,j<n→w.frozen? ⟨b,j,none⟩=false
def aZ (f:Nat→Value) (i:Nat) (x:Value):Nat→Value:=fun j=>if j=i then x else f j
def dF (f:Nat→Value) (o n:Nat) (g:Nat→Value):Nat→Value:=fun j=>if o≤j∧j<o+n then g (j-o) else f j
theorem ak.congr {w:World} {b n:Nat} {f g:Nat→Value} (h:ak w b n f) (e:∀j,j<n→f j=g j):ak w b n g:=
 ⟨fun j hj=>by rw[←e j hj];exact h.cell j hj,h.frozen⟩
theorem ak.set {w:World} {b n:Nat} {f:Nat→Value} (h:ak w b n f) (i:Nat) (hi:i<n) (x:Value):ak (w.setCell ⟨b,i,none⟩ x) b n (aZ f i x) where
 cell j hj:=by
  unfold aZ;by_cases e:j=i
  ·subst e;rw[if_pos rfl];exact World.cell?_setCell_same _ _ _ (h.cell j hj)
  rw[if_neg e,World.cell?_setCell_other _ _ _ _ (by intro hc;injection hc with _ h2;omega)];exact h.cell j hj
 frozen j hj:=by simp;exact h.frozen j hj
theorem ak.other {w:World} {b n:Nat} {f:Nat→Value} (h:ak w b n f) {a:Addr} (ha:a.block≠b) (v:Value):ak (w.setCell a v) b n f where
 cell j hj:=by
  rw[World.cell?_setCell_other _ _ _ _ (by intro hc;subst hc;exact ha rfl)];exact h.cell j hj
 frozen j hj:=by simp;exact h.frozen j hj
theorem ak.lt {w:World} {b n:Nat} {f:Nat→Value} (h:ak w b n f) (hn:0<n):b<w.heap.size:=
 World.block_lt_of_cell? w _ (h.cell 0 hn)
theorem ak.since {w w':World} {b n:Nat} {f:Nat→Value} (h:ak w b n f) (hs:Since w w'):ak w' b n f where
 cell j hj:=by
  have hc:=h.cell j hj;rw[hs.cell (p:=⟨b,j,none⟩) (World.block_lt_of_cell? w _ hc)];exact hc
 frozen j hj:=by
  have hc:=h.cell j hj;rw[hs.frozen (p:=⟨b,j,none⟩) (World.block_lt_of_cell? w _ hc)];exact h.frozen j hj
theorem ak.fr {w w':World} {b b' n:Nat} {g:Option Nat} {f:Nat→Value} (h:ak w b n f) (hs:Fr b' g w w') (hb:b≠b') (hg:some b≠g):ak w' b n f where
 cell j hj:=by
  have hc:=h.cell j hj;rw[hs.cell (p:=⟨b,j,none⟩) (World.block_lt_of_cell? w _ hc) hb hg];exact hc
 frozen j hj:=by
  have hc:=h.cell j hj;rw[hs.frozen (p:=⟨b,j,none⟩) (World.block_lt_of_cell? w _ hc) hb hg];exact h.frozen j hj
theorem ak.new (w:World) (n:Nat) (f:Nat→Value) (t:TypeId) (cs:Array Value) (hc:∀j,j<n→cs[j]?=some (f j)) (k:Nat) (hk:k=w.heap.size):ak (w.alloc (.cells cs t)) k n f where
 cell j hj:=by
  subst hk;rw[World.cell?_alloc_new];exact hc j hj
 frozen j hj:=by subst hk;exact World.frozen?_alloc_at _ _ _ _ rfl
def aa (n:Nat) (g:Nat→Value):List Value:=(List.range n).map g
theorem ag (n:Nat) (g:Nat→Value):(aa n g).length=n:=by simp[aa]
theorem aU (n:Nat) (g:Nat→Value) (j:Nat) (hj:j<n):(aa n g)[j]?=some (g j):=by simp[aa,hj]
theorem fC (n:Nat) (g:Nat→Value) (h:∀j,j<n→(g j).oneCell'=true):∀v ∈ aa n g,v.oneCell'=true:=by
 intro v hv;simp only[aa,List.mem_map,List.mem_range] at hv;obtain⟨i,hi,rfl⟩:=hv;exact h i hi
theorem qO {l:List Value} {n:Nat} {g:Nat→Value} (hl:l.length=n) (h:∀j,j<n→l[j]?=some (g j)):l=aa n g:=by
 apply List.ext_getElem?
 intro i;by_cases hi:i<n
 ·rw[h i hi,aU n g i hi]
 rw[List.getElem?_eq_none (by omega),List.getElem?_eq_none (by rw[ag];omega)]
theorem ak.range {w:World} {b n:Nat} {f:Nat→Value} (h:ak w b n f) (o m:Nat) (hm:o+m≤n):w.rangeAt b o (aa m (fun j=>f (o+j))):=fun j v hv=>by
 have hj:j<m:=by have:=(List.getElem?_eq_some_iff.1 hv).1;rwa [ag] at this
 rw[aU _ _ j hj] at hv;rw[h.cell (o+j) (by omega),hv]
theorem ak.there {w:World} {b n:Nat} {f:Nat→Value} (h:ak w b n f) (o m:Nat) (hm:o+m≤n):w.there b o m:=fun j hj=>
 ⟨by rw[h.cell (o+j) (by omega)];rfl,h.frozen (o+j) (by omega)⟩
theorem ak.setRow {w:World} {b n:Nat} {f:Nat→Value} (h:ak w b n f) (o m:Nat) (hm:o+m≤n) (g:Nat→Value):ak (w.setCells b o (aa m g)) b n (dF f o m g) where
 cell j hj:=by
  unfold dF;split
  ·rename_i hc
   have:=World.rangeAt_setCells_same w b o (aa m g) (by rw[ag];exact h.there o m hm) (j-o) (g (j-o)) (aU m g _ (by omega))
   rwa [show o+(j-o)=j by omega] at this
  rename_i hc
  rw[World.cell?_setCells_out b _ o w _ (fun _ _=>by rw[ag];show j<o∨o+m≤j;omega)];exact h.cell j hj
 frozen j hj:=by rw[World.frozen?_setCells];exact h.frozen j hj
theorem ak.setRow_other {w:World} {b n:Nat} {f:Nat→Value} (h:ak w b n f) {b' o':Nat} (vs:List Value) (hb:b≠b'):ak (w.setCells b' o' vs) b n f where
 cell j hj:=by
  rw[World.cell?_setCells_out b' _ o' w _ (fun e _=>absurd e hb)];exact h.cell j hj
 frozen j hj:=by rw[World.frozen?_setCells];exact h.frozen j hj
theorem ak.store {w:World} {b n:Nat} {f:Nat→Value} (h:ak w b n f) (P:Program) (o m:Nat) (hm:o+m≤n) (g:Nat→Value) (h1:∀j,j<m→(g j).oneCell'=true):(storeCells ⟨b,o,none⟩ (aa m g)).run P w=.ok () (w.setCells b o (aa m g)):=by
 have:=run_storeCells_cells (P:=P) b o (aa m g) 0 w (fun j hj=>by rw[ag] at hj;simpa using (h.there o m hm j hj).1) (fun j hj=>by rw[ag] at hj;simpa using (h.there o m hm j hj).2) (fC m g h1)
 simpa using this
theorem aQ {fn:Func} {p:Tmp} {ty:TypeId} (h:fn.results=#[.cell p ty]) (tmps:Array Value) (P:Program) (w:World) (b:Nat) (cs:List Value) (d:TypeDesc)
  (hx:tmps.getD p undef=.pointer (some ⟨b,0,none⟩)) (hc:w.rangeAt b 0 cs) (hu:P.underlying ty=some d) (hd:d.isRow=true) (hi:(P.info? ty).map (·.size)=some cs.length) :
  (results fn tmps).run P w=.ok (.agg cs.toArray) w:=by
 simp only[results,h];have h1:=run_loadVar_mid (P:=P) w b 0 ty cs d hc hu hd hi;have h2:tmps[p]?.getD undef=.pointer (some ⟨b,0,none⟩):=by simpa using hx
 simp[asAddr,h2,h1]
def bv (x:UInt8):Value:=.int .u8 (x.toNat:Int)
def sb (s:ByteArray) (i:Nat):UInt8:=s.data[i]?.getD 0
def txt (n:Nat) (f:Nat→UInt8):ByteArray:=⟨((List.range n).map f).toArray⟩
theorem dG (n:Nat) (f:Nat→UInt8):(txt n f).size=n:=by simp[txt,ByteArray.size]
theorem a0j {n:Nat} {f g:Nat→UInt8} (h:∀i,i<n→f i=g i):txt n f=txt n g:=by
 unfold txt;rw[List.map_congr_left (fun i hi=>h i (List.mem_range.1 hi))]
theorem vW (n:Nat) (f:Nat→UInt8) (i:Nat) (hi:i<n):sb (txt n f) i=f i:=by simp[sb,txt,hi]
end Go.Proofs.YtmhcfaaggkidjaaGreatDoor
end
section
namespace Go.Proofs.YtmhcfaaggkidjaaGreatDoor
open Go.RowKit
structure Dv where
 blk:Nat→Nat→Nat→UInt8
 cnt:Nat→Nat
 sure:Nat→Nat
 slot:Nat→Nat→UInt8
 ws:List (Nat × ByteArray)
 fused:Bool
 left:Int
def aD (blk:Nat→Nat→UInt8) (cnt sure:Nat) (o:Nat):Value:=
 if o<2048 then bv (blk (o / 128) (o % 128)) else if o=2048 then .int .i64 cnt else .int .i64 sure
def cu (D:Dv) (v:Value) (o:Nat):Value:=
 if o<16400 then aD (D.blk (o / 2050)) (D.cnt (o / 2050)) (D.sure (o / 2050)) (o % 2050)
 else if o<17400 then bv (D.slot ((o-16400) / 500) ((o-16400) % 500))
 else if o=17400 then v
 else if o=17401 then .bool D.fused
 else .int .i64 D.left
def kF (ws:List (Nat × ByteArray)):List Value:=ws.flatMap fun p=>[.int .i64 (p.1:Int),.string p.2]
structure Dv.ok (D:Dv):Prop where
 cnt:∀z,z<8→D.cnt z≤16
 sure:∀z,z<8→D.sure z≤D.cnt z
 zero:∀z k i,z<8→D.cnt z≤k→k<16→i<128→D.blk z k i=0
 left:0≤D.left∧D.left≤9223372036854775807
 ws:∀p ∈ D.ws,p.1<2∧p.2.size≤500
 few:D.ws.length≤1000
structure Dev (w:World) (b:Nat) (D:Dv) (v:Value):Prop where
 bL:ak w b 17403 (cu D v)
 own:w.ownsRow 0 228 2 v D.ws.length (kF D.ws)
 ne:some b≠v.ownBlock
 ok:D.ok
theorem Dev.lt {w:World} {b:Nat} {D:Dv} {v:Value} (h:Dev w b D v):b<w.heap.size:=h.bL.lt (by omega)
theorem Dev.glt {w:World} {b:Nat} {D:Dv} {v:Value} (h:Dev w b D v):∀k,v.ownBlock=some k→k<w.heap.size:=fun k hk=>(h.own.lt k hk).2
theorem jD {w w':World} {b base e size n:Nat} {g:Option Nat} {v:Value} {xs:List Value} (h:w.ownsRow base e size v n xs) (hf:Fr b g w w') (hb:v.ownBlock≠some b) (hg:v.ownBlock=none∨v.ownBlock≠g):w'.ownsRow base e size v n xs:=by
 refine⟨h.1,?_⟩;rcases h.2 with hn | ⟨k,cap,cur,rfl,hbk,hk,rest⟩
 ·exact .inl hn
 refine .inr ⟨k,cap,cur,rfl,hbk,?_,rest⟩;rw[hf.block k (Array.getElem?_eq_some_iff.1 hk).1 (fun e=>hb (by simp[Value.ownBlock,e])) (fun e=>by
  rcases hg with h1 | h1
  ·simp[Value.ownBlock] at h1
  exact h1 (by simpa [Value.ownBlock] using e))]
 exact hk
theorem Dev.since {w w':World} {b:Nat} {D:Dv} {v:Value} (h:Dev w b D v) (hs:Since w w'):Dev w' b D v where
 bL:=h.bL.since hs
 own:=by
  refine⟨h.own.1,?_⟩;rcases h.own.2 with hn | ⟨k,cap,cur,hv,hbk,hk,rest⟩
  ·exact .inl hn
  exact .inr ⟨k,cap,cur,hv,hbk,by rw[hs.block k (Array.getElem?_eq_some_iff.1 hk).1];exact hk,rest⟩
 ne:=h.ne
 ok:=h.ok
theorem Dev.turn {w w':World} {b:Nat} {D D':Dv} {v:Value} (h:Dev w b D v) (hc:ak w' b 17403 (cu D' v)) (hf:Fr b none w w') (hw:D'.ws=D.ws) (hok:D'.ok):Dev w' b D' v:=
 ⟨hc,by rw[hw];exact jD h.own hf (fun e=>h.ne e.symm) (by
  cases hv:v.ownBlock with
  | none=>exact Or.inl rfl
  | some k=>exact Or.inr (by simp)),h.ne,hok⟩
theorem zA (D:Dv) (v:Value) (z k i:Nat) (hz:z<8) (hk:k<16) (hi:i<128):cu D v (z*2050+k*128+i)=bv (D.blk z k i):=by
 unfold cu aD;rw[if_pos (by omega),show (z*2050+k*128+i) / 2050=z by omega,show (z*2050+k*128+i) % 2050=k*128+i by omega,if_pos (by omega),show (k*128+i) / 128=k by omega,show (k*128+i) % 128=i by omega]
theorem dZ (D:Dv) (v:Value) (z:Nat) (hz:z<8):cu D v (z*2050+2048)=.int .i64 (D.cnt z):=by
 unfold cu aD;rw[if_pos (by omega),show (z*2050+2048) / 2050=z by omega,show (z*2050+2048) % 2050=2048 by omega,if_neg (by omega),if_pos rfl]
theorem pM (D:Dv) (v:Value) (z:Nat) (hz:z<8):cu D v (z*2050+2049)=.int .i64 (D.sure z):=by
 unfold cu aD;rw[if_pos (by omega),show (z*2050+2049) / 2050=z by omega,show (z*2050+2049) % 2050=2049 by omega,if_neg (by omega),if_neg (by omega)]
theorem il (D:Dv) (v:Value) (k i:Nat) (hk:k<2) (hi:i<500):cu D v (16400+k*500+i)=bv (D.slot k i):=by
 unfold cu;rw[if_neg (by omega),if_pos (by omega),show (16400+k*500+i-16400) / 500=k by omega,show (16400+k*500+i-16400) % 500=i by omega]
theorem gI (D:Dv) (v:Value):cu D v 17400=v:=rfl
theorem iO (D:Dv) (v:Value):cu D v 17401=.bool D.fused:=rfl
theorem jE (D:Dv) (v:Value):cu D v 17402=.int .i64 D.left:=rfl
end Go.Proofs.YtmhcfaaggkidjaaGreatDoor
end
section
namespace Go.Proofs.YtmhcfaaggkidjaaGreatDoor
open Go.RowKit
def AL:Nat→List Value→Option (List Value)
 | 0,l=>some l
 | n+1,.int .u8 (.ofNat 0)::r=>AL n r
 | _+1,_=>none
def Kk:Nat→List Value→Option (List Value)
 | 0,l=>some l
 | k+1,l=>match AL 2048 l with
  | some (.int .i64 (.ofNat 0)::.int .i64 (.ofNat 0)::r)=>Kk k r
  | _=>none
theorem mH:∀(n:Nat) (l r:List Value),AL n l=some r→(∀j,j<n→l[j]?=some (bv 0))∧∀j,l[n+j]?=r[j]?
 | 0,l,r,h=>by
  simp only[AL,Option.some.injEq] at h;subst h;exact⟨fun j hj=>by omega,fun j=>by rw[Nat.zero_add]⟩
 | n+1,[],r,h=>by simp[AL] at h
 | n+1,x::l,r,h=>by
  unfold AL at h;split at h
  ·rename_i hq
   exact absurd hq (by omega)
  ·rename_i heq1 heq2
   cases heq1
   injection heq2 with h1 h2
   subst h1 h2;obtain⟨a,b⟩:=mH n _ r h;refine⟨fun j hj=>?_,fun j=>?_⟩
   ·cases j with
    | zero=>rfl
    | succ j=>simpa using a j (by omega)
   rw[show n+1+j=(n+j)+1 by omega]
   simpa using b j
  cases h
theorem vX:∀(k:Nat) (l r:List Value),Kk k l=some r→(∀j,j<2050*k→l[j]?=some (aD (fun _ _=>0) 0 0 (j % 2050)))∧∀j,l[2050*k+j]?=r[j]?
 | 0,l,r,h=>by
  simp only[Kk,Option.some.injEq] at h;subst h;exact⟨fun j hj=>by omega,fun j=>by rw[Nat.mul_zero,Nat.zero_add]⟩
 | k+1,l,r,h=>by
  unfold Kk at h;split at h
  ·rename_i r' heq
   obtain⟨a,b⟩:=mH 2048 l _ heq;obtain⟨c,d⟩:=vX k _ r h;refine⟨fun j hj=>?_,fun j=>?_⟩
   ·rcases Nat.lt_or_ge j 2048 with h1 | h1
    ·rw[a j h1];unfold aD;rw[if_pos (by omega)]
    have e:=b (j-2048);rw[show 2048+(j-2048)=j by omega] at e;rw[e];rcases Nat.lt_or_ge j 2050 with h2 | h2
    ·have h3:j=2048∨j=2049:=by omega
     rcases h3 with rfl | rfl<;>rfl
    have e2:j-2048=(j-2050)+1+1:=by omega
    rw[e2,List.getElem?_cons_succ,List.getElem?_cons_succ,c (j-2050) (by omega)];rw[show (j-2050) % 2050=j % 2050 by omega]
   have e:=b (2+(2050*k+j));rw[show 2048+(2+(2050*k+j))=2050*(k+1)+j by omega] at e;rw[e,show 2+(2050*k+j)=(2050*k+j)+1+1 by omega,List.getElem?_cons_succ,List.getElem?_cons_succ];exact d j
  cases h
def ND:Option (List Value)→Bool
 | some [.slice none 0 0,.bool false,.int .i64 (.ofNat 0)]=>true
 | _=>false
theorem NE {o:Option (List Value)} (h:ND o=true):o=some [.slice none 0 0,.bool false,.int .i64 0]:=by
 unfold ND at h;split at h
 ·rfl
 cases h
def isNil:Option (List Value)→Bool
 | some []=>true
 | _=>false
theorem vY {o:Option (List Value)} (h:isNil o=true):o=some []:=by
 unfold isNil at h;split at h
 ·rfl
 cases h
theorem vZ:ND ((Kk 8 Tryz.zeroCells104.toList).bind (AL 1000))=true:=by kernel_rfl
theorem yR:isNil (Kk 1 Tryz.zeroCells98.toList)=true:=by kernel_rfl
theorem AO:isNil (AL 500 Tryz.zeroCells100.toList)=true:=by kernel_rfl
theorem yS:isNil (AL 128 Tryz.zeroCells95.toList)=true:=by kernel_rfl
def mr:Dv:={ blk:=fun _ _ _=>0,cnt:=fun _=>0,sure:=fun _=>0,slot:=fun _ _=>0,ws:=[],fused:=false,left:=0 }
theorem WQ:mr.ok:=⟨fun _ _=>by simp[mr],fun _ _=>by simp[mr],fun _ _ _ _ _ _ _=>rfl,by simp[mr],fun p hp=>by simp[mr] at hp,by simp[mr]⟩
theorem wh (j:Nat) (hj:j<17403):Tryz.zeroCells104[j]?=some (cu mr (.slice none 0 0) j):=by
 have h:=NE vZ;obtain⟨r,h1,h2⟩:=Option.bind_eq_some_iff.1 h;obtain⟨a,b⟩:=vX 8 _ r h1;obtain⟨c,d⟩:=mH 1000 r _ h2;rw[←Array.getElem?_toList];unfold cu;by_cases g1:j<16400
 ·rw[if_pos g1,a j (by omega)]
  rfl
 rw[if_neg g1];have e:=b (j-16400);rw[show 2050*8+(j-16400)=j by omega] at e;rw[e];by_cases g2:j<17400
 ·rw[if_pos g2,c (j-16400) (by omega)]
  rfl
 rw[if_neg g2];have e2:=d (j-17400);rw[show 1000+(j-17400)=j-16400 by omega] at e2;rw[e2];have h3:j=17400∨j=17401∨j=17402:=by omega
 rcases h3 with rfl | rfl | rfl<;>rfl
theorem fD (j:Nat) (hj:j<2050):Tryz.zeroCells98[j]?=some (aD (fun _ _=>0) 0 0 j):=by
 obtain⟨a,_⟩:=vX 1 _ _ (vY yR);rw[←Array.getElem?_toList,a j (by omega),Nat.mod_eq_of_lt hj]
theorem jb (j:Nat) (hj:j<500):Tryz.zeroCells100[j]?=some (bv 0):=by
 obtain⟨a,_⟩:=mH 500 _ _ (vY AO);rw[←Array.getElem?_toList,a j hj]
theorem yT (j:Nat) (hj:j<128):Tryz.zeroCells95[j]?=some (bv 0):=by
 obtain⟨a,_⟩:=mH 128 _ _ (vY yS);rw[←Array.getElem?_toList,a j hj]
theorem nX (blk:Nat→Nat→UInt8) (c s j:Nat):(aD blk c s j).oneCell'=true:=by
 unfold aD;split
 ·rfl
 split<;>rfl
theorem wm:Tryz.zeroCells98.toList=aa 2050 (aD (fun _ _=>0) 0 0):=
 qO (by rw[Array.length_toList,Tryz.zeroCells98_size]) (fun j hj=>by rw[Array.getElem?_toList];exact fD j hj)
theorem SX (w:World):Calls Tryz.prog 20 #[] w fun e w'=>e=.returned (.pointer (some ⟨w.heap.size,0,none⟩))∧w'=w.alloc (.cells Tryz.zeroCells104 104):=by
 go_enter Tryz.func20,Tryz.ntmps20
 go_wp2_with fail
 go_ret;exact⟨rfl,rfl⟩
theorem SY (w:World):Dev (w.alloc (.cells Tryz.zeroCells104 104)) w.heap.size mr (.slice none 0 0) where
 bL:=ak.new w _ _ _ _ wh _ rfl
 own:=World.ownsRow_nil _ _ _ _
 ne:=by simp[Value.ownBlock]
 ok:=WQ
theorem aW (a:Addr) (w:World):Calls Tryz.prog 80 #[.pointer (some a)] w fun e w'=>e=.returned (.pointer (some a))∧w'=w:=by
 go_enter Tryz.func80,Tryz.ntmps80
 go_wp2_with fail
 go_ret;exact⟨rfl,rfl⟩
theorem bN (z:Int) (w:World):Calls Tryz.prog 258 #[.int .i64 z] w fun e w'=>e=.returned (.bool (decide (0≤z)&&decide (z<8)))∧w'=w:=by
 by_cases h:0≤z
 ·go_enter Tryz.func258,Tryz.ntmps258
  go_wp2_with fail
  go_ret;exact⟨by simp[h],rfl⟩
 go_enter Tryz.func258,Tryz.ntmps258
 go_wp2_with fail
 go_ret;exact⟨by simp[h];omega,rfl⟩
theorem mJ (z:Int) (w:World):Calls Tryz.prog 244 #[.int .i64 z] w fun e w'=>e=.returned (.bool (decide (0≤z)&&decide (z<2)))∧w'=w:=by
 by_cases h:0≤z
 ·go_enter Tryz.func244,Tryz.ntmps244
  go_wp2_with fail
  go_ret;exact⟨by simp[h],rfl⟩
 go_enter Tryz.func244,Tryz.ntmps244
 go_wp2_with fail
 go_ret;exact⟨by simp[h];omega,rfl⟩
theorem zB (i:Int) (w:World):Calls Tryz.prog 186 #[.int .i64 i] w fun e w'=>e=.returned (.bool true)∧w'=w:=by
 go_enter Tryz.func186,Tryz.ntmps186
 go_wp2_with fail
 go_ret;exact⟨rfl,rfl⟩
end Go.Proofs.YtmhcfaaggkidjaaGreatDoor
end
section
namespace Go.Proofs.YtmhcfaaggkidjaaGreatDoor
set_option linter.unusedSectionVars false
namespace Tw
open Go.RowKit
structure Tb where
 count:Int
 aB:Nat→Int
 off:Nat→Int
 tag:Nat→ByteArray
def Tb.zero:Tb:=⟨0,fun _=>0,fun _=>0,fun _=>⟨#[]⟩⟩
def gy (T:Tb) (i r:Nat):Value:=if r=0 then .int .i64 (T.aB i) else if r=1 then .int .i64 (T.off i) else .string (T.tag i)
def af (T:Tb) (j:Nat):Value:=if j=0 then .int .i64 T.count else gy T ((j-1) / 3) ((j-1) % 3)
theorem kJ (T:Tb) (i r:Nat) (hr:r<3):af T (1+i*3+r)=gy T i r:=by
 unfold af;rw[if_neg (by omega),show (1+i*3+r-1) / 3=i by omega,show (1+i*3+r-1) % 3=r by omega]
def bO (T:Tb) (j:Nat):Value:=gy T (j / 3) (j % 3)
theorem NF (T:Tb) (i r:Nat) (hr:r<3):bO T (i*3+r)=gy T i r:=by
 unfold bO;rw[show (i*3+r) / 3=i by omega,show (i*3+r) % 3=r by omega]
theorem FD (T:Tb) (j:Nat):af T (1+j)=bO T j:=by
 unfold af bO;rw[if_neg (by omega),show 1+j-1=j by omega]
def bE (T:Tb):Value:=.agg (aa 73 (af T)).toArray
def Same (T U:Tb):Prop:=T.count=U.count∧∀i,i<24→T.aB i=U.aB i∧T.off i=U.off i∧T.tag i=U.tag i
theorem FE {n:Nat} {f g:Nat→Value} (h:∀j,j<n→f j=g j):aa n f=aa n g:=by
 unfold aa;exact List.map_congr_left (fun i hi=>h i (List.mem_range.1 hi))
abbrev gJ (T:Tb) (i:Nat):Prop:=T.aB i=0∧T.off i=0∧T.tag i=⟨#[]⟩
abbrev may (T:Tb) (i:Nat):Prop:=(T.tag i).size=16∧0≤T.aB i∧T.aB i<8∧0≤T.off i∧T.off i<16
def hit (T:Tb) (k:Nat) (z o:Int):Prop:=∃j,j<k∧¬gJ T j∧T.aB j=z∧T.off j=o
def fine (T:Tb) (k:Nat):Prop:=∀i,i<k→gJ T i∨(may T i∧¬hit T i (T.aB i) (T.off i))
def Rt (T:Tb):Prop:=(1≤T.count∧T.count≤1099511627776)∧fine T 24
theorem Kl (T:Tb):fine T 0:=fun i hi=>by omega
theorem NG {T:Tb} {k:Nat} (h:fine T k) (hn:gJ T k):fine T (k+1):=fun i hi=>by
 by_cases e:i=k
 ·subst e;exact Or.inl hn
 exact h i (by omega)
theorem NH {T:Tb} {k:Nat} (h:fine T k) (hm:may T k) (hh:¬hit T k (T.aB k) (T.off k)):fine T (k+1):=fun i hi=>by
 by_cases e:i=k
 ·subst e;exact Or.inr ⟨hm,hh⟩
 exact h i (by omega)
theorem CE {T:Tb} {k n:Nat} (hn:¬gJ T k) (hb:¬may T k∨hit T k (T.aB k) (T.off k)) (hk:k<n):¬fine T n:=fun h=>by
 rcases h k hk with h1 | ⟨h1,h2⟩
 ·exact hn h1
 rcases hb with hb | hb
 ·exact hb h1
 exact h2 hb
theorem NI (T:Tb) (z o:Int):¬hit T 0 z o:=fun ⟨j,hj,_⟩=>by omega
theorem Ta {T:Tb} {k:Nat} (hn:gJ T k) (z o:Int):hit T (k+1) z o↔hit T k z o:=by
 constructor
 ·rintro ⟨j,hj,h1,h2⟩;by_cases e:j=k
  ·subst e;exact absurd hn h1
  exact⟨j,by omega,h1,h2⟩
 rintro ⟨j,hj,h1,h2⟩;exact⟨j,by omega,h1,h2⟩
theorem Ji {T:Tb} {k:Nat} (hn:¬gJ T k) (z o:Int):hit T (k+1) z o↔hit T k z o∨(T.aB k=z∧T.off k=o):=by
 constructor
 ·rintro ⟨j,hj,h1,h2⟩;by_cases e:j=k
  ·subst e;exact Or.inr h2
  exact Or.inl ⟨j,by omega,h1,h2⟩
 rintro (⟨j,hj,h1,h2⟩ | h2)
 ·exact⟨j,by omega,h1,h2⟩
 exact⟨k,by omega,hn,h2⟩
def cellL (T:Tb) (i:Nat):List UInt8:=if gJ T i then 255::List.replicate 17 0 else UInt8.ofNat (T.aB i).toNat::UInt8.ofNat (T.off i).toNat::(T.tag i).data.toList
theorem zC {T:Tb} {n:Nat} (h:fine T n) (i:Nat) (hi:i<n):(cellL T i).length=18:=by
 unfold cellL;split
 ·simp
 rename_i hn
 rcases h i hi with h1 | ⟨h1,_⟩
 ·exact absurd h1 hn
 have:(T.tag i).data.size=16:=h1.1;simp[this]
def mM (T:Tb) (k:Nat):List UInt8:=(List.range k).flatMap (cellL T)
theorem CF (T:Tb):mM T 0=[]:=rfl
theorem mO (T:Tb) (k:Nat):mM T (k+1)=mM T k++cellL T k:=by
 unfold mM;rw[List.range_succ,List.flatMap_append];simp
theorem wo {T:Tb} {n:Nat} (h:fine T n):∀k,k≤n→(mM T k).length=18*k:=by
 intro k;induction k with
 | zero=>intro _;rfl
 | succ k ih=>
  intro hk;rw[mO,List.length_append,ih (by omega),zC h k (by omega)];omega
def eD (s:ByteArray) (a:Nat):Nat→Nat
 | 0=>0
 | k+1=>eD s a k*256+(sb s (a+k)).toNat
theorem NJ (s:ByteArray) (a k:Nat):eD s a k<256 ^ k:=by
 induction k with
 | zero=>simp[eD]
 | succ k ih=>
  have:=(sb s (a+k)).toNat_lt;unfold eD;rw[Nat.pow_succ];omega
def zD (s:ByteArray):Prop:=∀j,456≤j→j<s.size→sb s j=0
section
variable {P:Program} {kt:TypeId}
end
end Tw
end Go.Proofs.YtmhcfaaggkidjaaGreatDoor
end
