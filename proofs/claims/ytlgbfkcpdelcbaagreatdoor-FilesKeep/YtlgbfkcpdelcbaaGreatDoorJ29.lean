import Derived.Test.YtlgbfkcpdelcbaaGreatDoorJ20
import Derived.Test.YtlgbfkcpdelcbaaGreatDoorJ23
import Derived.Test.YtlgbfkcpdelcbaaGreatDoorJ26
import Derived.Test.YtlgbfkcpdelcbaaGreatDoorJ28
set_option linter.unusedSimpArgs false
set_option linter.unusedVariables false
set_option maxHeartbeats 8000000
set_option maxRecDepth 100000
namespace Go.Proofs.YtlgbfkcpdelcbaaGreatDoor
section
namespace Vl
open Go.RowKit
open Tw (Tb ae aY aU)
def dR (db cb:Nat)(kb kt:ByteArray)(T:Tb)(X:Nat→ByteArray)(f:Bool)(j:Nat):Value:=
 if j=0 then .pointer (some ⟨db,0,none⟩) else if j=1 then .pointer (some ⟨cb,0,none⟩) else if j=2 then .string kb else if j=3 then .string kt
 else if j<77 then ae T (j-4) else if j<101 then .string (X (j-77)) else .bool f
theorem ui (db cb:Nat)(kb kt:ByteArray)(T:Tb)(X:Nat→ByteArray)(f:Bool)(j:Nat)(hj:j<73):dR db cb kb kt T X f (4+j)=ae T j:=by
 unfold dR;rw[if_neg (by omega),if_neg (by omega),if_neg (by omega),if_neg (by omega),if_pos (by omega),show 4+j-4=j by omega]
theorem qM (db cb:Nat)(kb kt:ByteArray)(T:Tb)(X:Nat→ByteArray)(f:Bool)(j:Nat)(hj:j<24):dR db cb kb kt T X f (77+j)=.string (X j):=by
 unfold dR;rw[if_neg (by omega),if_neg (by omega),if_neg (by omega),if_neg (by omega),if_neg (by omega),if_pos (by omega),show 77+j-77=j by omega]
structure Fs (S:Nat→Prop)(w w':World):Prop where
 os:w'.os=w.os
 tape:w'.tape=w.tape
 output:w'.output=w.output
 size:w.heap.size≤w'.heap.size
 block:∀k,k<w.heap.size→¬S k→w'.heap[k]?=w.heap[k]?
theorem Fs.refl (S:Nat→Prop)(w:World):Fs S w w:=⟨rfl,rfl,rfl,Nat.le_refl _,fun _ _ _=>rfl⟩
theorem Fs.trans {S:Nat→Prop}{w w' w'':World}(h:Fs S w w')(k:Fs S w' w''):Fs S w w'':=
 ⟨k.os.trans h.os,k.tape.trans h.tape,k.output.trans h.output,Nat.le_trans h.size k.size,fun j hj hs=>(k.block j (Nat.lt_of_lt_of_le hj h.size) hs).trans (h.block j hj hs)⟩
theorem Fs.trans' {S S':Nat→Prop}{w w' w'':World}(h:Fs S w w')(k:Fs S' w' w'')(hS:∀j,S' j→S j∨w.heap.size≤j):Fs S w w'':=
 ⟨k.os.trans h.os,k.tape.trans h.tape,k.output.trans h.output,Nat.le_trans h.size k.size,fun j hj hs=>(k.block j (Nat.lt_of_lt_of_le hj h.size) (fun e=>by
  rcases hS j e with h1 | h1
  ·exact hs h1
  omega)).trans (h.block j hj hs)⟩
theorem Fs.ag {S:Nat→Prop}{w w':World}(h:Since w w'):Fs S w w':=⟨h.os,h.tape,h.output,h.size,fun k hk _=>h.block k hk⟩
theorem Fs.kU {S:Nat→Prop}{b:Nat}{g:Option Nat}{w w':World}(h:Fr b g w w')(hb:S b)(hg:∀k,g=some k→S k):Fs S w w':=
 ⟨h.os,h.tape,h.output,h.size,fun k hk hs=>h.block k hk (fun e=>hs (e▸hb)) (fun e=>hs (hg k e.symm))⟩
theorem Fs.since {S:Nat→Prop}{a w w':World}(h:Fs S w w')(hs:Since a w)(hS:∀k,S k→a.heap.size≤k):Since a w':=
 Below.trans (show Below a.heap.size a w from hs) ⟨h.os,h.tape,h.output,h.size,fun k hk=>h.block k (Nat.lt_of_lt_of_le hk hs.size) (fun e=>by have:=hS k e;omega)⟩
theorem Fs.cell {S:Nat→Prop}{w w':World}(h:Fs S w w'){p:Addr}(hp:p.block<w.heap.size)(hb:¬S p.block):w'.cell? p=w.cell? p:=
 World.cell?_of_block (w:=w) (h.block p.block hp hb)
theorem Fs.frozen {S:Nat→Prop}{w w':World}(h:Fs S w w'){p:Addr}(hp:p.block<w.heap.size)(hb:¬S p.block):w'.frozen? p=w.frozen? p:=
 World.frozen?_of_block (w:=w) (h.block p.block hp hb)
theorem rY {S:Nat→Prop}{w w':World}{b n:Nat}{f:Nat→Value}(h:aA w b n f)(hs:Fs S w w')(hb:¬S b):aA w' b n f where
 cell j hj:=by
  have hc:=h.cell j hj;rw[hs.cell (p:=⟨b,j,none⟩) (World.block_lt_of_cell? w _ hc) hb];exact hc
 frozen j hj:=by
  have hc:=h.cell j hj;rw[hs.frozen (p:=⟨b,j,none⟩) (World.block_lt_of_cell? w _ hc) hb];exact h.frozen j hj
theorem xE {S:Nat→Prop}{w w':World}{base e size n:Nat}{v:Value}{xs:List Value}(h:w.ownsRow base e size v n xs)(hf:Fs S w w')(hv:∀k,v.ownBlock=some k→¬S k):w'.ownsRow base e size v n xs:=by
 refine⟨h.1,?_⟩;rcases h.2 with hn | ⟨k,cap,cur,rfl,hbk,hk,rest⟩
 ·exact .inl hn
 refine .inr ⟨k,cap,cur,rfl,hbk,?_,rest⟩;rw[hf.block k (Array.getElem?_eq_some_iff.1 hk).1 (hv k rfl)];exact hk
theorem SK {S:Nat→Prop}{w w':World}{b:Nat}{D:Dv}{v:Value}(h:Dev w b D v)(hf:Fs S w w')(hb:¬S b)(hv:∀k,v.ownBlock=some k→¬S k):Dev w' b D v:=
 ⟨rY h.aQ hf hb,xE h.own hf hv,h.ne,h.ok⟩
def Ty (w:World)(b:Nat)(t:TypeId):Prop:=∃arr fz,w.heap[b]?=some (.cells arr t fz)
theorem Ty.blk {w w':World}{b:Nat}{t:TypeId}(h:Ty w b t)(hb:w'.heap[b]?=w.heap[b]?):Ty w' b t:=by
 obtain⟨arr,fz,ha⟩:=h;exact⟨arr,fz,hb.trans ha⟩
theorem Ty.lt {w:World}{b:Nat}{t:TypeId}(h:Ty w b t):b<w.heap.size:=by
 obtain⟨arr,fz,ha⟩:=h;exact(Array.getElem?_eq_some_iff.1 ha).1
theorem Ty.since {w w':World}{b:Nat}{t:TypeId}(h:Ty w b t)(hs:Since w w'):Ty w' b t:=h.blk (hs.block b h.lt)
theorem Ty.setCell {w:World}{b:Nat}{t:TypeId}(h:Ty w b t)(a:Addr)(v:Value):Ty (w.setCell a v) b t:=by
 by_cases e:b=a.block
 ·obtain⟨arr,fz,ha⟩:=h;subst e;refine⟨if a.spot.isSome then arr else arr.setIfInBounds a.off v,fz,?_⟩;unfold World.setCell;simp[Array.getElem?_modify,ha]
 exact h.blk (Below.heap_setCell _ _ _ _ e)
theorem Ty.setCells {b:Nat}{t:TypeId}(b':Nat):∀(vs:List Value) (o:Nat) (w:World),Ty w b t→Ty (w.setCells b' o vs) b t
 | [],_,w,h=>h
 | v::r,o,w,h=>Ty.setCells b' r (o+1) _ (h.setCell _ _)
theorem Ty.one {w:World}{b:Nat}{t u:TypeId}(h:Ty w b t)(k:Ty w b u):t=u:=by
 obtain⟨a,f,ha⟩:=h;obtain⟨c,g,hc⟩:=k;rw[ha] at hc;injection hc with hc
 injection hc with _ h2
theorem Ty.own {w:World}{base e s n:Nat}{v:Value}{xs:List Value}{k:Nat}(h:w.ownsRow base e s v n xs)(hk:v.ownBlock=some k):Ty w k e:=by
 rcases h.2 with⟨rfl,_⟩ | ⟨g,c,u,rfl,_,hg,_⟩
 ·simp[Value.ownBlock] at hk
 simp only[Value.ownBlock,Option.some.injEq] at hk;subst hk;exact⟨_,_,hg⟩
theorem Ty.new (w:World)(cs:Array Value)(t:TypeId):Ty (w.alloc (.cells cs t)) w.heap.size t:=⟨cs,(0,0),by show (w.heap.push _)[w.heap.size]?=_;simp⟩
structure Base (w0:World)(kb kt:ByteArray):Prop where
 tab:Sm.kM w0
 kb:kb.size=32
 kt:kt.size=32
def VP (vb db cb:Nat)(v:Value)(k:Nat):Prop:=k=vb∨k=db∨k=cb∨v.ownBlock=some k
structure dL (w0 w:World)(vb db cb:Nat)(kb kt:ByteArray)(S:Vs)(v:Value):Prop where
 aQ:aA w vb 102 (dR db cb kb kt S.T S.X S.dead)
 dev:Dev w db S.D v
 iN:aA w cb 1 (fun _=>.int .i64 S.c)
 ne:vb≠db∧vb≠cb∧db≠cb
 own:v.ownBlock≠some vb∧v.ownBlock≠some cb
 ty:Ty w vb 165
 since:Since w0 w
 lo:w0.heap.size≤vb∧w0.heap.size≤db∧w0.heap.size≤cb∧∀k,v.ownBlock=some k→w0.heap.size≤k
theorem dL.go {w0 w w':World}{vb db cb:Nat}{kb kt:ByteArray}{S:Vs}{v:Value}(h:dL w0 w vb db cb kb kt S v)(hs:Since w w'):dL w0 w' vb db cb kb kt S v:=
 ⟨h.aQ.since hs,h.dev.since hs,h.iN.since hs,h.ne,h.own,h.ty.since hs,h.since.trans hs,h.lo⟩
def dB (w0 w w':World)(vb db cb:Nat)(kb kt:ByteArray)(S':Vs)(v:Value):Prop:=∃v',dL w0 w' vb db cb kb kt S' v'∧Fs (VP vb db cb v) w w'∧Nx w v.ownBlock v'.ownBlock
section
variable {w0 w w' w'':World} {vb db cb:Nat} {kb kt:ByteArray} {S S':Vs} {v v':Value}
theorem dL.self (h:dL w0 w vb db cb kb kt S v):dB w0 w w vb db cb kb kt S v:=⟨v,h,Fs.refl _ _,Nx.refl _ _⟩
theorem dL.to (h:dL w0 w vb db cb kb kt S v)(hs:Since w w'):dB w0 w w' vb db cb kb kt S v:=⟨v,h.go hs,Fs.ag hs,Nx.refl _ _⟩
theorem VP.nx (hn:Nx w v.ownBlock v'.ownBlock):∀j,VP vb db cb v' j→VP vb db cb v j∨w.heap.size≤j:=by
 rintro j (h | h | h | h)
 ·exact Or.inl (Or.inl h)
 ·exact Or.inl (Or.inr (Or.inl h))
 ·exact Or.inl (Or.inr (Or.inr (Or.inl h)))
 rcases hn j h with h1 | h1
 ·exact Or.inl (Or.inr (Or.inr (Or.inr h1)))
 exact Or.inr h1
theorem dB.then {S1:Vs}{w1:World}(h:dB w0 w w1 vb db cb kb kt S1 v)(k:∀v1,dL w0 w1 vb db cb kb kt S1 v1→dB w0 w1 w' vb db cb kb kt S' v1):dB w0 w w' vb db cb kb kt S' v:=by
 obtain⟨v1,h1,f1,n1⟩:=h;obtain⟨v2,h2,f2,n2⟩:=k v1 h1;exact⟨v2,h2,f1.trans' f2 (VP.nx n1),n1.trans n2 f1.size⟩
theorem dB.cont {S1:Vs}{w1:World}(h:dB w0 w w1 vb db cb kb kt S1 v):∃v1,dL w0 w1 vb db cb kb kt S1 v1∧∀w' S',dB w0 w1 w' vb db cb kb kt S' v1→dB w0 w w' vb db cb kb kt S' v:=by
 obtain⟨v1,h1,f1,n1⟩:=h;exact⟨v1,h1,fun w' S' ⟨v2,h2,f2,n2⟩=>⟨v2,h2,f1.trans' f2 (VP.nx n1),n1.trans n2 f1.size⟩⟩
theorem dB.Eh {S1:Vs}{w1:World}{b o:Nat}{x:Value}(h:dB w0 w w1 vb db cb kb kt S1 v)(hb:¬VP vb db cb v b)(hx:w.cell? ⟨b,o,none⟩=some x) :
  ∃v1,dL w0 w1 vb db cb kb kt S1 v1∧(∀w' S',dB w0 w1 w' vb db cb kb kt S' v1→dB w0 w w' vb db cb kb kt S' v)∧w1.cell? ⟨b,o,none⟩=some x∧¬VP vb db cb v1 b:=by
 obtain⟨v1,h1,f1,n1⟩:=h;have hlt:=World.block_lt_of_cell? w _ hx;refine⟨v1,h1,fun w' S' ⟨v2,h2,f2,n2⟩=>⟨v2,h2,f1.trans' f2 (VP.nx n1),n1.trans n2 f1.size⟩,(f1.cell (p:=⟨b,o,none⟩) hlt hb).trans hx,fun e=>?_⟩;rcases VP.nx n1 b e with h2 | h2
 ·exact hb h2
 have:b<w.heap.size:=hlt;omega
theorem dL.Jf (h:dL w0 w vb db cb kb kt S v):¬VP vb db cb v w.heap.size:=by
 rintro (e | e | e | e)
 ·have:=h.aQ.lt (by omega);omega
 ·have:=h.dev.lt;omega
 ·have:=h.iN.lt (by omega);omega
 have:=h.dev.glt _ e;omega
theorem dB.go (h:dB w0 w w' vb db cb kb kt S v)(hs:Since w' w''):dB w0 w w'' vb db cb kb kt S v:=h.then fun v1 h1=>h1.to hs
theorem dB.pre (hs:Since w w')(h:dB w0 w' w'' vb db cb kb kt S v):dB w0 w w'' vb db cb kb kt S v:=by
 obtain⟨v1,h1,f1,n1⟩:=h;refine⟨v1,h1,(Fs.ag hs).trans f1,fun k hk=>?_⟩;rcases n1 k hk with h2 | h2
 ·exact Or.inl h2
 exact Or.inr (Nat.le_trans hs.size h2)
theorem dL.Ei {D':Dv}(h:dL w0 w vb db cb kb kt S v)(hd:Dev w' db D' v')(hf:Fr db v.ownBlock w w')(hn:Nx w v.ownBlock v'.ownBlock):dB w0 w w' vb db cb kb kt { S with D:=D' } v:=by
 have hF:Fs (fun k=>k=db∨v.ownBlock=some k) w w':=Fs.kU hf (Or.inl rfl) (fun k hk=>Or.inr hk);have hlt:=h.aQ.lt (by omega);have hlc:=h.iN.lt (by omega);have hvo:v'.ownBlock≠some vb∧v'.ownBlock≠some cb:=by
  refine⟨fun e=>?_,fun e=>?_⟩
  ·rcases hn _ e with h1 | h1
   ·exact h.own.1 h1
   omega
  rcases hn _ e with h1 | h1
  ·exact h.own.2 h1
  omega
 have Qx:¬(vb=db∨v.ownBlock=some vb):=by
  rintro (e | e)
  ·exact h.ne.1 e
  exact h.own.1 e
 refine⟨v',⟨rY h.aQ hF Qx,hd,rY h.iN hF ?_,h.ne,hvo,h.ty.blk (hF.block vb hlt Qx),hF.since h.since ?_,h.lo.1,h.lo.2.1,h.lo.2.2.1,fun k hk=>?_⟩,⟨hF.os,hF.tape,hF.output,hF.size,fun k hk hs=>hF.block k hk (fun e=>hs ?_)⟩,hn⟩
 ·rintro (e | e)
  ·exact h.ne.2.2 e.symm
  exact h.own.2 e
 ·rintro k (e | e)
  ·rw[e];exact h.lo.2.1
  exact h.lo.2.2.2 k e
 ·rcases hn k hk with h1 | h1
  ·exact h.lo.2.2.2 k h1
  exact Nat.le_trans h.since.size h1
 rcases e with e | e
 ·exact Or.inr (Or.inl e)
 exact Or.inr (Or.inr (Or.inr e))
theorem dL.nJ {T':Tb}{X':Nat→ByteArray}{f':Bool}(h:dL w0 w vb db cb kb kt S v)(hc:aA w' vb 102 (dR db cb kb kt T' X' f'))(hf:Fr vb none w w')(ht:Ty w' vb 165):dB w0 w w' vb db cb kb kt { S with T:=T',X:=X',dead:=f' } v:=by
 have hF:Fs (fun k=>k=vb) w w':=Fs.kU hf rfl (fun k hk=>by cases hk);refine⟨v,⟨hc,SK h.dev hF (fun e=>h.ne.1 e.symm) (fun k hk e=>h.own.1 (hk.trans (by rw[e]))),rY h.iN hF (fun e=>h.ne.2.1 e.symm),h.ne,h.own,ht,hF.since h.since (fun k e=>by rw[e];exact h.lo.1),h.lo⟩,⟨hF.os,hF.tape,hF.output,hF.size,fun k hk hs=>hF.block k hk (fun e=>hs (Or.inl e))⟩,Nx.refl _ _⟩
theorem dL.Ab {c':Int}(h:dL w0 w vb db cb kb kt S v):dB w0 w (w.setCell ⟨cb,0,none⟩ (.int .i64 c')) vb db cb kb kt { S with c:=c' } v:=by
 have hF:Fs (fun k=>k=cb) w (w.setCell ⟨cb,0,none⟩ (.int .i64 c')):=Fs.kU (Fr.setCell cb none 0 w _) rfl (fun k hk=>by cases hk);refine⟨v,⟨rY h.aQ hF h.ne.2.1,SK h.dev hF h.ne.2.2 (fun k hk e=>h.own.2 (hk.trans (by rw[e]))),(h.iN.set 0 (by omega) _).congr (fun j hj=>by
  obtain rfl:j=0:=by omega
  rfl),h.ne,h.own,h.ty.setCell _ _,hF.since h.since (fun k e=>by rw[e];exact h.lo.2.2.1),h.lo⟩,⟨hF.os,hF.tape,hF.output,hF.size,fun k hk hs=>hF.block k hk (fun e=>hs (Or.inr (Or.inr (Or.inl e))))⟩,Nx.refl _ _⟩
end
end Vl
end
section
namespace Vl
open Go.RowKit
open Tw (Tb ae aY aU)
theorem aV (a:Addr)(w:World):Calls Tryz.prog 118 #[.pointer (some a)] w fun e w'=>e=.returned (.pointer (some a))∧w'=w:=by
 go_enter Tryz.func118,Tryz.ntmps118
 go_wp2_with fail
 go_ret;exact⟨rfl,rfl⟩
theorem oF (z:Int)(w:World):Calls Tryz.prog 161 #[.int .i64 z] w fun e w'=>e=.returned (.bool (decide (0≤z)&&decide (z<24)))∧w'=w:=by
 by_cases h:0≤z
 ·go_enter Tryz.func161,Tryz.ntmps161
  go_wp2_with fail
  go_ret;exact⟨by simp[h],rfl⟩
 go_enter Tryz.func161,Tryz.ntmps161
 go_wp2_with fail
 go_ret;exact⟨by simp;omega,rfl⟩
theorem MJ {z:Int}(h:0≤z∧z<24):(decide (0≤z)&&decide (z<24))=true:=by simp;omega
theorem Ej {z:Int}(h:¬(0≤z∧z<24)):(decide (0≤z)&&decide (z<24))=false:=by simp;omega
theorem SL (n:Int)(h:0≤n):n.tmod 2=n % 2:=Int.tmod_eq_emod_of_nonneg h
theorem mQ (n:Int)(w:World)(h:0≤n):Calls Tryz.prog 195 #[.int .i64 n] w fun e w'=>e=.returned (.int .i64 (n % 2))∧w'=w:=by
 have e:=SL n h;have hr:wrap64 (n % 2)=n % 2:=by unfold wrap64;omega
 go_enter Tryz.func195,Tryz.ntmps195
 go_wp2_with fail
 go_ret;exact⟨rfl,rfl⟩
section
variable {w0 w:World} {vb db cb:Nat} {kb kt:ByteArray} {S:Vs} {v:Value}
theorem dL.c0 (h:dL w0 w vb db cb kb kt S v):w.cell? ⟨vb,0,none⟩=some (.pointer (some ⟨db,0,none⟩)):=h.aQ.cell 0 (by omega)
theorem dL.c1 (h:dL w0 w vb db cb kb kt S v):w.cell? ⟨vb,1,none⟩=some (.pointer (some ⟨cb,0,none⟩)):=h.aQ.cell 1 (by omega)
theorem dL.c2 (h:dL w0 w vb db cb kb kt S v):w.cell? ⟨vb,2,none⟩=some (.string kb):=h.aQ.cell 2 (by omega)
theorem dL.c3 (h:dL w0 w vb db cb kb kt S v):w.cell? ⟨vb,3,none⟩=some (.string kt):=h.aQ.cell 3 (by omega)
theorem dL.c4 (h:dL w0 w vb db cb kb kt S v):w.cell? ⟨vb,4,none⟩=some (.int .i64 S.T.count):=h.aQ.cell 4 (by omega)
theorem dL.cf (h:dL w0 w vb db cb kb kt S v):w.cell? ⟨vb,101,none⟩=some (.bool S.dead):=h.aQ.cell 101 (by omega)
theorem dL.cx (h:dL w0 w vb db cb kb kt S v)(i:Nat)(hi:i<24):w.cell? ⟨vb,77+i,none⟩=some (.string (S.X i)):=by
 rw[h.aQ.cell (77+i) (by omega),qM _ _ _ _ _ _ _ i hi]
theorem dL.tab (h:dL w0 w vb db cb kb kt S v):w.rangeAt vb 4 (ak 73 (ae S.T)):=by
 have:=h.aQ.range 4 73 (by omega);rw[show ak 73 (fun j=>dR db cb kb kt S.T S.X S.dead (4+j))=ak 73 (ae S.T) from Tw.wH (fun j hj=>ui _ _ _ _ _ _ _ j hj)] at this;exact this
theorem kg (h:dL w0 w vb db cb kb kt S v):Calls Tryz.prog 119 #[.pointer (some ⟨vb,0,none⟩)] w fun e w'=>e=.returned (.bool (!S.dead))∧w'=w:=by
 have q0:=h.c0;have q1:=h.cf;clear h;generalize S.dead=x at *;cases x
 ·go_enter Tryz.func119,Tryz.ntmps119
  go_wp2_with fail
  go_ret;exact⟨rfl,rfl⟩
 go_enter Tryz.func119,Tryz.ntmps119
 go_wp2_with fail
 go_ret;exact⟨rfl,rfl⟩
theorem OP (h:dL w0 w vb db cb kb kt S v):Calls Tryz.prog 80 #[.pointer (some ⟨vb,0,none⟩)] w fun e w'=>e=.returned (.int .i64 S.T.count)∧w'=w:=by
 have q0:=h.c4;clear h;go_enter Tryz.func80,Tryz.ntmps80
 go_wp2_with fail
 refine(aV _ _).mono ?_;rintro e w' ⟨rfl,rfl⟩;go_wp2_with fail
 go_ret;exact⟨rfl,rfl⟩
theorem lS (n:Int)(h:dL w0 w vb db cb kb kt S v):Calls Tryz.prog 120 #[.pointer (some ⟨vb,0,none⟩),ev n] w fun e w'=>e=.returned (ev n)∧dB w0 w w' vb db cb kb kt { S with dead:=S.dead||decide (n=14) } v:=by
 by_cases h0:n=0
 ·subst h0;have e0:ev 0=.nilIface:=by unfold ev;rw[if_pos rfl]
  rw[e0];have H:=hid h;clear h;go_enter Tryz.func120,Tryz.ntmps120
  go_wp2_with fail
  refine(a0c _ _).mono ?_;rintro e w' ⟨rfl,rfl⟩;go_wp2_with fail
  go_ret;refine⟨rfl,?_⟩;have:=H.o.self
  simpa using this
 have e0:ev n=.iface 32 (.int .i64 n):=by unfold ev;rw[if_neg h0]
 rw[e0];have H:=hid h;have q1:=h.cf;have q2:=h.aQ.frozen 101 (by omega);clear h;by_cases WY:n=14
 ·subst WY;go_enter Tryz.func120,Tryz.ntmps120
  go_wp2_with fail
  refine(SI _ _ _).mono ?_;rintro e w' ⟨rfl,rfl⟩;rw[decide_eq_true rfl];go_wp2_with fail
  go_ret;refine⟨rfl,?_⟩;have hto:=H.o.nJ (T':=S.T) (X':=S.X) (f':=true) (((H.o.aQ.set 101 (by omega) (.bool true))).congr (fun j hj=>by
   unfold aJ;by_cases e:j=101
   ·subst e;rfl
   rw[if_neg e];unfold dR;by_cases e2:j<101
   ·simp only[if_pos e2]
   omega)) (Fr.setCell _ _ _ _ _) (H.o.ty.setCell _ _)
  simpa using hto
 go_enter Tryz.func120,Tryz.ntmps120
 go_wp2_with fail
 refine(SI _ _ _).mono ?_;rintro e w' ⟨rfl,rfl⟩;rw[decide_eq_false WY];go_wp2_with fail
 go_ret;refine⟨rfl,?_⟩;have:=H.o.self
 simpa [WY] using this
theorem xh (h:dL w0 w vb db cb kb kt S v):Calls Tryz.prog 135 #[.pointer (some ⟨vb,0,none⟩)] w fun e w'=>(∃x,e=.returned x∧Sp.Ls w' w'.heap.size x 8 S.uf)∧Since w w':=by
 have q0:=h.c0;have H:=hid h.dev;have HL:=hid (h.aQ.lt (by omega));clear h;have hmk:=Sp.pM w;have HD:Hid (aA (w.alloc (.cells (madeCells #[Value.int .i64 0] 8) 3)) w.heap.size 8 (fun j=>if j<0 then .int .i64 (S.D.cnt j) else .int .i64 0)):=by
  refine aA.new _ _ _ _ _ (fun j hj=>?_) _ rfl;rw[if_neg (Nat.not_lt_zero _)];exact Sp.Ea 8 j hj
 have HS:Hid (Since w (w.alloc (.cells (madeCells #[Value.int .i64 0] 8) 3))):=(Since.refl w).alloc _;go_enter Tryz.func135,Tryz.ntmps135
 go_wp2_with fail
 clear hmk;generalize w.alloc (.cells (madeCells #[Value.int .i64 0] 8) 3)=w1 at *;go_loopw [11,4,14] (fun i _ _ wr=>∃k:Nat,k≤8∧i=.int .i64 k∧aA wr w.heap.size 8 (fun j=>if j<k then .int .i64 (S.D.cnt j) else .int .i64 0)∧Since w wr) (fun i _ _ _=>8-(intOf i).toNat)
 case atStart=>exact⟨0,by omega,rfl,HD.o,HS.o⟩
 clear HD HS;obtain⟨k,hk,rfl,hd,hs⟩:=hrel;have HD:=hid hd;have HS:=hid hs;clear hd hs;by_cases hlt:k<8
 ·have hlt2:(k:Int)<8:=by omega
  have p0:=q0;rw[←HS.o.cell (p:=⟨vb,0,none⟩) HL.o] at p0;have q1:=HD.o.cell k hlt;have q2:=HD.o.frozen k hlt;go_wp2_with fail
  refine(Go.Proofs.YtlgbfkcpdelcbaaGreatDoor.xh S.D v db k _ (H.o.since HS.o) hlt).mono ?_;rintro e w2 ⟨rfl,rfl⟩;go_wp2_with fail
  go_roundw
  case rel=>
   refine⟨k+1,by omega,by go_num,(HD.o.set k hlt _).congr (fun j hj=>?_),HS.o.setCell (Nat.le_refl _) _⟩;unfold aJ;by_cases e:j=k
   ·subst e;rw[if_pos rfl,if_pos (by omega)]
   rw[if_neg e];show (if j<k then Value.int .i64 (S.D.cnt j) else .int .i64 0)=_
   by_cases h1:j<k
   ·rw[if_pos h1,if_pos (by omega)]
   rw[if_neg h1,if_neg (by omega)]
  case measure=>simp[intOf];omega
 have hke:k=8:=by omega
 subst hke;go_wp2_with fail
 go_ret;refine⟨⟨_,rfl,⟨_,_,rfl,by omega,fun _=>⟨w.heap.size,0,rfl,HD.o.lt (by omega),fun j hj=>?_⟩⟩⟩,HS.o⟩;rw[Nat.zero_add,HD.o.cell j hj,if_pos hj]
 rfl
theorem lM (h:dL w0 w vb db cb kb kt S v):Calls Tryz.prog 81 #[.pointer (some ⟨vb,0,none⟩)] w fun e w'=>e=.returned (.int .i64 S.free)∧Since w w':=by
 have H:=hid h;clear h;go_enter Tryz.func81,Tryz.ntmps81
 go_wp2_with fail
 refine(aV _ _).mono ?_;rintro e w' ⟨rfl,rfl⟩;go_wp2_with fail
 refine(xh H.o).mono ?_;rintro e w1 ⟨⟨x,rfl,hx⟩,hs⟩;have HX:=hid hx;have HS:=hid hs;clear hx hs;go_wp2_with fail
 refine(Sp.lM x 8 _ _ _ HX.o (by omega)).mono ?_;rintro e w2 ⟨rfl,rfl⟩;go_wp2_with fail
 go_ret;exact⟨rfl,HS.o⟩
theorem OQ (i:Int)(h:dL w0 w vb db cb kb kt S v):Calls Tryz.prog 95 #[.pointer (some ⟨vb,0,none⟩),.int .i64 i] w fun e w'=>e=.returned (.tuple #[.string (S.read i).1,ev (S.read i).2])∧w'=w:=by
 unfold Vs.read;by_cases hi:0≤i∧i<24
 ·rw[if_neg (by omega)];have hh:=MJ hi;obtain⟨k,rfl⟩:=Int.eq_ofNat_of_zero_le hi.1;have hk:(k:Int)<24:=hi.2;have q:=h.cx k (by omega);rw[Int.toNat_natCast];clear h hi;go_enter Tryz.func95,Tryz.ntmps95
  go_wp2_with fail
  refine(oF _ _).mono ?_;rintro e w' ⟨rfl,rfl⟩;rw[hh];go_wp2_with fail
  refine(aV _ _).mono ?_;rintro e w' ⟨rfl,rfl⟩;go_wp2_with fail
  go_ret2;exact⟨rfl,rfl⟩
 rw[if_pos hi];have hh:=Ej hi;clear h;go_enter Tryz.func95,Tryz.ntmps95
 go_wp2_with fail
 refine(oF _ _).mono ?_;rintro e w' ⟨rfl,rfl⟩;rw[hh];go_wp2_with fail
 go_ret2;exact⟨rfl,rfl⟩
end
end Vl
end
section
namespace Vl
open Go.RowKit
open Tw (Tb ae aY aU)
theorem OT (db cb:Nat)(kb kt:ByteArray)(T:Tb)(X:Nat→ByteArray)(f:Bool)(i:Nat)(hi:i<24)(z o:Int)(t:ByteArray)(j:Nat)(hj:j<102) :
  aJ (aJ (aJ (dR db cb kb kt T X f) (5+i*3) (.int .i64 z)) (5+i*3+1) (.int .i64 o)) (5+i*3+2) (.string t) j=dR db cb kb kt (dD T i z o t) X f j:=by
 unfold aJ;by_cases hr:5≤j∧j<77
 ·have e:∀U,dR db cb kb kt U X f j=Tw.eY U ((j-5) / 3) ((j-5) % 3):=fun U=>by
   have:=ui db cb kb kt U X f (j-4) (by omega);rw[show 4+(j-4)=j by omega] at this;rw[this];unfold ae;rw[if_neg (by omega),show j-4-1=j-5 by omega]
  rw[e,e];by_cases h2:j=5+i*3+2
  ·subst h2;rw[if_pos rfl,show (5+i*3+2-5) / 3=i by omega,show (5+i*3+2-5) % 3=2 by omega];simp[Tw.eY,dD]
  rw[if_neg h2];by_cases h1:j=5+i*3+1
  ·subst h1;rw[if_pos rfl,show (5+i*3+1-5) / 3=i by omega,show (5+i*3+1-5) % 3=1 by omega];simp[Tw.eY,dD]
  rw[if_neg h1];by_cases h0:j=5+i*3
  ·subst h0;rw[if_pos rfl,show (5+i*3-5) / 3=i by omega,show (5+i*3-5) % 3=0 by omega];simp[Tw.eY,dD]
  rw[if_neg h0];have hne:¬(j-5) / 3=i:=by omega
  unfold Tw.eY dD;simp only[if_neg hne]
 rw[if_neg (by omega),if_neg (by omega),if_neg (by omega)];unfold dR;by_cases h4:j<77
 ·have h44:j≤4:=by omega
  by_cases h5:j=4
  ·subst h5;rfl
  match j,(show j<4 by omega) with
  | 0,_=>rfl
  | 1,_=>rfl
  | 2,_=>rfl
  | 3,_=>rfl
 simp only[if_neg h4]
theorem Jg (db cb:Nat)(kb kt:ByteArray)(T:Tb)(X:Nat→ByteArray)(f:Bool)(i:Nat)(hi:i<24)(t:ByteArray)(j:Nat)(hj:j<102) :
  aJ (dR db cb kb kt T X f) (77+i) (.string t) j=dR db cb kb kt T (lN X i t) f j:=by
 unfold aJ;by_cases e:j=77+i
 ·subst e;rw[if_pos rfl,qM _ _ _ _ _ _ _ i hi];simp[lN]
 rw[if_neg e];unfold dR;by_cases h4:j<77
 ·simp only[if_pos h4]
 by_cases h5:j<101
 ·have hne:¬j-77=i:=by omega
  simp only[if_neg h4,if_pos h5,lN,if_neg hne]
 simp only[if_neg h4,if_neg h5]
section
variable {w0 w:World} {vb db cb:Nat} {kb kt:ByteArray} {S:Vs} {v:Value}
theorem MK (i:Nat)(z o:Int)(tag t:ByteArray)(hi:i<24)(hg:tag.size≤600)(ht:t.size≤600)(h:dL w0 w vb db cb kb kt S v) :
  Calls Tryz.prog 168 #[.pointer (some ⟨vb,0,none⟩),.int .i64 (i:Int),.agg #[.int .i64 z,.int .i64 o,.string tag],.string t] w fun e w'=>e=.returned (.tuple #[])∧dB w0 w w' vb db cb kb kt (S.set i z o tag t) v:=by
 have hi2:(i:Int)<24:=by omega
 have HCT:Hid (∀W,Calls Tryz.prog 49 #[.string tag] W fun e w'=>e=.returned (.string tag)∧Since W w'):=fun W=>Tw.fI tag W hg
 have HCX:Hid (∀W,Calls Tryz.prog 49 #[.string t] W fun e w'=>e=.returned (.string t)∧Since W w'):=fun W=>Tw.fI t W ht
 have H:=hid h;have HV:=hid (h.aQ.lt (by omega));clear h hg ht;have HB:Hid (aA (w.alloc (.cells #[.int .i64 z,.int .i64 o,.string tag] 69)) w.heap.size 3 (fun j=>if j=0 then .int .i64 z else if j=1 then .int .i64 o else .string tag)):=aA.new w _ _ _ _ (fun j hj=>by
  match j,hj with
  | 0,_=>rfl
  | 1,_=>rfl
  | 2,_=>rfl) _ rfl
 have HS:Hid (Since w (w.alloc (.cells #[.int .i64 z,.int .i64 o,.string tag] 69))):=(Since.refl w).alloc _;go_enter Tryz.func168,Tryz.ntmps168
 go_wp2_with fail
 refine(HCT.o _).mono ?_;rintro e w1 ⟨rfl,h1⟩;have HB1:=hid (HB.o.since h1);have cK:=hid (HS.o.trans h1);clear h1 HB HS HCT;have b0:=HB1.o.cell 2 (by omega);have b1:=HB1.o.frozen 2 (by omega);have HB2:Hid (aA (w1.setCell ⟨w.heap.size,2,none⟩ (.string tag)) w.heap.size 3 (fun j=>if j=0 then .int .i64 z else if j=1 then .int .i64 o else .string tag)):=(HB1.o.set 2 (by omega) (.string tag)).congr (fun j hj=>by
  match j,hj with
  | 0,_=>rfl
  | 1,_=>rfl
  | 2,_=>rfl)
 have HS2:Hid (Since w (w1.setCell ⟨w.heap.size,2,none⟩ (.string tag))):=cK.o.setCell (Nat.le_refl _) _;go_wp2_with fail
 clear HB1 cK b0 b1;generalize w1.setCell ⟨w.heap.size,2,none⟩ (.string tag)=w2 at *;have HD:=hid ((Since.refl w2).drew);have HB3:=hid (HB2.o.since HD.o);have jR:=hid (H.o.aQ.since (HS2.o.trans HD.o));have nO:=hid (H.o.aQ.since HS2.o);have a0:w2.cell? ⟨w.heap.size,0,none⟩=some (.int .i64 z):=HB2.o.cell 0 (by omega);have a1:w2.cell? ⟨w.heap.size,1,none⟩=some (.int .i64 o):=HB2.o.cell 1 (by omega);have a2:w2.cell? ⟨w.heap.size,2,none⟩=some (.string tag):=HB2.o.cell 2 (by omega);have b0:w2.drew.cell? ⟨w.heap.size,0,none⟩=some (.int .i64 z):=HB3.o.cell 0 (by omega);have b1:w2.drew.cell? ⟨w.heap.size,1,none⟩=some (.int .i64 o):=HB3.o.cell 1 (by omega);have b2:w2.drew.cell? ⟨w.heap.size,2,none⟩=some (.string tag):=HB3.o.cell 2 (by omega);have c0:=nO.o.cell (5+i*3) (by omega);have c1:=nO.o.cell (5+i*3+1) (by omega);have c2:=nO.o.cell (5+i*3+2) (by omega)
 have d0:=jR.o.cell (5+i*3) (by omega);have d1:=jR.o.cell (5+i*3+1) (by omega);have d2:=jR.o.cell (5+i*3+2) (by omega);have f0:=nO.o.frozen (5+i*3) (by omega);have f1:=nO.o.frozen (5+i*3+1) (by omega);have f2:=nO.o.frozen (5+i*3+2) (by omega);have g0:=jR.o.frozen (5+i*3) (by omega);have g1:=jR.o.frozen (5+i*3+1) (by omega);have g2:=jR.o.frozen (5+i*3+2) (by omega);clear HB2 HB3 nO jR HD;go_region
 have Jh:Hid (dB w0 w (((w2.setCell ⟨vb,5+i*3,none⟩ (.int .i64 z)).setCell ⟨vb,5+i*3+1,none⟩ (.int .i64 o)).setCell ⟨vb,5+i*3+2,none⟩ (.string tag)).drew vb db cb kb kt { S with T:=dD S.T i z o tag } v):=by
  refine(H.o.to HS2.o).then fun v1 h1=>?_
  refine dB.go ?_ (Since.refl _).drew;exact h1.nJ (T':=dD S.T i z o tag) (X':=S.X) (f':=S.dead) ((((h1.aQ.set (5+i*3) (by omega) _).set (5+i*3+1) (by omega) _).set (5+i*3+2) (by omega) _).congr (fun j hj=>OT _ _ _ _ _ _ _ i hi z o tag j hj)) (((Fr.setCell _ _ _ _ _).trans' (Fr.setCell _ _ _ _ _)).trans' (Fr.setCell _ _ _ _ _)) (((h1.ty.setCell _ _).setCell _ _).setCell _ _)
 clear a0 a1 a2 b0 b1 b2 c0 c1 c2 d0 d1 d2 f0 f1 f2 g0 g1 g2 HS2 H;go_wp2_with fail
 generalize (((w2.setCell ⟨vb,5+i*3,none⟩ (.int .i64 z)).setCell ⟨vb,5+i*3+1,none⟩ (.int .i64 o)).setCell ⟨vb,5+i*3+2,none⟩ (.string tag)).drew=w3 at *;obtain⟨v3,h3,F3⟩:=Jh.o.cont;have H3:=hid h3;have HF3:=hid F3;clear h3 F3 Jh;go_region_held3 (fun _=>True) (trivial) (first
  | (go_simp;go_at_call 49;refine(HCX.o _).mono ?_;rintro e w4 ⟨rfl,h4⟩;have H4:Hid (Since w3 w4):=(Since.refl w3).drew.trans h4;have k0:=(H3.o.aQ.since H4.o).cell (77+i) (by omega);have k1:=(H3.o.aQ.since H4.o).frozen (77+i) (by omega);clear h4;dsimp only))
 all_goals
  go_wp2_with fail
  go_end0
  refine⟨rfl,HF3.o _ _ ((H3.o.to H4.o).then fun v5 h5=>?_)⟩;exact h5.nJ (T':=dD S.T i z o tag) (X':=lN S.X i t) (f':=S.dead) ((h5.aQ.set (77+i) (by omega) _).congr (fun j hj=>Jg _ _ _ _ _ _ _ i hi t j hj)) (Fr.setCell _ _ _ _ _) (h5.ty.setCell _ _)
end
end Vl
end
section
namespace Vl
open Go.RowKit
open Tw (Tb ae aY aU)
theorem uK:ev 0=.nilIface:=by unfold ev;rw[if_pos rfl]
theorem pO (n:Int)(h:n≠0):ev n=.iface 32 (.int .i64 n):=by unfold ev;rw[if_neg h]
section
variable {w0 w:World} {vb db cb:Nat} {kb kt:ByteArray} {S:Vs} {v:Value}
theorem dL.SN (B:Base w0 kb kt)(h:dL w0 w vb db cb kb kt S v):Sm.kM w:=B.tab.since h.since
theorem rJ (B:Base w0 kb kt)(i:Nat)(t:ByteArray)(but:Int)(hi:i<24)(ht:t.size≤80)(h:dL w0 w vb db cb kb kt S v) :
  Calls Tryz.prog 138 #[.pointer (some ⟨vb,0,none⟩),.int .i64 (i:Int),.string t,.int .i64 but] w fun e w'=>e=.returned (ev (S.put kb i but t).1)∧dB w0 w w' vb db cb kb kt (S.put kb i but t).2 v:=by
 have H:=hid h;have HB:=hid B;clear h B;go_enter Tryz.func138,Tryz.ntmps138
 go_wp2_with fail
 refine(xh H.o).mono ?_;rintro e w1 ⟨⟨x,rfl,hx⟩,hs⟩;have HX:=hid hx;have HS:=hid hs;clear hx hs;go_wp2_with fail
 refine(Sp.rQ x 8 _ _ but _ HX.o (by omega)).mono ?_;rintro e w2 ⟨⟨z,ok,rfl,hr⟩,rfl⟩;have HR:Hid _:=MG hr;clear hr;rcases HR.o with⟨rfl,k,rfl,hk⟩ | ⟨rfl,rfl,hk⟩
 ·have hk3:=jh hk;have HK:=hid hk;have Hg:=hid hk3;clear hk hk3 HR;have H1:=hid (H.o.go HS.o);have q2:=H1.o.c2;go_wp2_with fail
  have hi0:(0:Int)≤(i:Int):=by omega
  refine(Sl.VY kb i t _ HB.o.kb (by omega) (by omega) ht (H1.o.SN HB.o)).mono ?_;rintro e w3 ⟨rfl,h3⟩;have H3:=hid (H1.o.go h3);have dZ:=hid (HS.o.trans h3);have q0:=H3.o.c0;have HZ:=hid (Sl.iH kb i t);have HP:Hid (S.put kb i but t=if S.D.may=false then (14,{ S with dead:=true }) else (0,{ S with D:=S.D.ai.app k (Sl.bL kb i t),T:=dD S.T i k (S.D.cnt k) ((Sl.bL kb i t).extract 0 16),X:=lN S.X i t })):=by
   show S.put kb i but t=_
   unfold Vs.put;rw[HK.o]
  clear h3 q2 H1;generalize Sl.bL kb i t=s at *;have WZ:Hid (S.D.cnt k<16):=by
   have:=Hg.o.2.2;unfold Vs.uf at this;show S.D.cnt k<16
   omega
  cases hm:S.D.may with
  | false=>
   have HM:=hid hm;clear hm;go_wp2_with fail
   refine(BI S.D v db k s _ H3.o.dev Hg.o.1 (by have:=HZ.o;omega) WZ.o HM.o).mono ?_;rintro e w4 ⟨rfl,rfl⟩;go_wp2_with fail
   have hh:=lS 14 H3.o;rw[pO 14 (by decide)] at hh;refine hh.mono ?_;clear hh;rintro e w5 ⟨rfl,h5⟩;go_wp2_with fail
   go_ret;refine⟨?_,?_⟩
   ·rw[HP.o,if_pos HM.o,pO 14 (by decide)];rfl
   rw[HP.o,if_pos HM.o];have h6:=dB.pre dZ.o h5
   simpa using h6
  | true=>
   have HM:=hid hm;clear hm;go_wp2_with fail
   refine(Iy S.D v db k s _ H3.o.dev Hg.o.1 (by have:=HZ.o;omega) WZ.o HM.o).mono ?_;rintro e w4 ⟨rfl,hd4,Hf⟩;have HT4:Hid (dB w0 w3 w4 vb db cb kb kt { S with D:=S.D.ai.app k s } v):=H3.o.Ei hd4 (Fr.wide Hf) (Nx.refl _ _);clear hd4 Hf;obtain⟨v4,h4,F4⟩:=(dB.pre dZ.o HT4.o).cont;have H4:=hid h4;have WB:=hid F4;clear h4 F4 HT4;go_wp2_with fail
   have hh:=lS 0 H4.o;rw[uK] at hh;refine hh.mono ?_;clear hh;rintro e w5 ⟨rfl,h5⟩;obtain⟨v5,h6,F5⟩:=h5.cont;have h66:dL w0 w5 vb db cb kb kt { S with D:=S.D.ai.app k s } v5:=by simpa using h6
   have H5:=hid h66;have HF5:Hid (∀w' S',dB w0 w5 w' vb db cb kb kt S' v5→dB w0 w w' vb db cb kb kt S' v):=fun w' S' h7=>WB.o w' S' (F5 w' S' h7)
   clear h5 h6 h66 F5 WB H4 q0;have a4e:(16:Int)≤s.size:=by have:=HZ.o;omega
   have HE:Hid ((s.extract 0 16).size≤600):=by
    show (s.extract 0 16).size≤600
    rw[ByteArray.size_extract];omega
   go_wp2_with fail
   refine(MK i k (S.D.cnt k) (s.extract 0 16) t hi HE.o (by omega) H5.o).mono ?_;rintro e w6 ⟨rfl,h7⟩;go_wp2_with fail
   go_ret;refine⟨?_,?_⟩
   ·rw[HP.o,if_neg (by rw[HM.o];decide),uK];rfl
   rw[HP.o,if_neg (by rw[HM.o];decide)];exact HF5.o _ _ h7
 have HK:=hid hk;clear hk HR;go_wp2_with fail
 go_ret;have HP:S.put kb i but t=(12,S):=by unfold Vs.put;rw[HK.o]
 rw[HP];exact⟨by rw[pO 12 (by decide)];rfl,H.o.to HS.o⟩
end
end Vl
end
section
namespace Vl
open Go.RowKit
open Tw (Tb ae aY aU)
theorem dm {w w':World}{b o:Nat}{l:List Value}(h:w.rangeAt b o l)(hs:Since w w'):w'.rangeAt b o l:=fun j x hj=>by
 have:=h j x hj;rw[hs.cell (p:=⟨b,o+j,none⟩) (World.block_lt_of_cell? w _ this)];exact this
def SQ (key:ByteArray)(U:Tb)(A:ByteArray):Prop:=∀W,Sm.kM W→Calls Tryz.prog 193 #[.string key,.agg (ak 73 (ae U)).toArray] W fun e w'=>e=.returned (.tuple #[.string A,.nilIface])∧Since W w'
def Ct (D:Dv)(k:Nat)(s:ByteArray):Int × Dv:=if D.may=false then (14,D) else (0,D.ai.wrote k s)
def rZ (D:Dv):Int × Dv:=if D.may=false then (14,D) else (0,D.ai.synced)
def Cu (D:Dv)(k:Nat):Int × Dv:=if D.may=false then (14,D) else (0,D.ai.reset k)
section
variable {w0 w:World} {vb db cb:Nat} {kb kt:ByteArray} {S:Vs} {v:Value}
theorem SV (k:Nat)(s:ByteArray)(hk:k<2)(hs:s.size≤500)(hn:S.D.ws.length<1000)(h:dL w0 w vb db cb kb kt S v) :
  Calls Tryz.prog 194 #[.pointer (some ⟨db,0,none⟩),.int .i64 (k:Int),.string s] w fun e w'=>e=.returned (ev (Ct S.D k s).1)∧dB w0 w w' vb db cb kb kt { S with D:=(Ct S.D k s).2 } v:=by
 unfold Ct;cases hm:S.D.may with
 | false=>
  rw[if_pos rfl,pO 14 (by decide)];refine(Oe S.D v db k s w h.dev hk hs hm).mono ?_;rintro e w' ⟨rfl,rfl⟩;exact⟨rfl,h.self⟩
 | true=>
  rw[if_neg (by decide),uK];refine(Go.Proofs.YtlgbfkcpdelcbaaGreatDoor.rJ S.D v db k s w h.dev hk hs hm hn).mono ?_;rintro e w' ⟨rfl,v',hd,hf,hx⟩;exact⟨rfl,h.Ei hd hf hx⟩
theorem Ac (h:dL w0 w vb db cb kb kt S v) :
  Calls Tryz.prog 121 #[.pointer (some ⟨db,0,none⟩)] w fun e w'=>e=.returned (ev (rZ S.D).1)∧dB w0 w w' vb db cb kb kt { S with D:=(rZ S.D).2 } v:=by
 unfold rZ;cases hm:S.D.may with
 | false=>
  rw[if_pos rfl,pO 14 (by decide)];refine(IB S.D v db w h.dev hm).mono ?_;rintro e w' ⟨rfl,rfl⟩;exact⟨rfl,h.self⟩
 | true=>
  rw[if_neg (by decide),uK];refine(RS S.D v db w h.dev hm).mono ?_;rintro e w' ⟨rfl,hd,hf⟩;exact⟨rfl,h.Ei hd (Fr.wide hf) (Nx.none _ _)⟩
theorem Ji (k:Nat)(hk:k<8)(h:dL w0 w vb db cb kb kt S v) :
  Calls Tryz.prog 139 #[.pointer (some ⟨db,0,none⟩),.int .i64 (k:Int)] w fun e w'=>e=.returned (ev (Cu S.D k).1)∧dB w0 w w' vb db cb kb kt { S with D:=(Cu S.D k).2 } v:=by
 unfold Cu;cases hm:S.D.may with
 | false=>
  rw[if_pos rfl,pO 14 (by decide)];refine(Dz S.D v db k w h.dev hk hm).mono ?_;rintro e w' ⟨rfl,rfl⟩;exact⟨rfl,h.self⟩
 | true=>
  rw[if_neg (by decide),uK];refine(Oh S.D v db k w h.dev hk hm).mono ?_;rintro e w' ⟨rfl,hd,hf⟩;exact⟨rfl,h.Ei hd (Fr.wide hf) (Nx.refl _ _)⟩
theorem SX (B:Base w0 kb kt)(U:Tb)(hU:Tw.Rt U)(hc:S.c<U.count)(hws:S.D.ws.length<1000)(h:dL w0 w vb db cb kb kt S v) :
  Calls Tryz.prog 122 #[.pointer (some ⟨vb,0,none⟩),aY U] w fun e w'=>e=.returned (ev (S.tell kt U).1)∧dB w0 w w' vb db cb kb kt (S.tell kt U).2 v:=by
 have H:Hid (dL w0 w vb db cb kb kt S v):=h;have HB:Hid (Base w0 kb kt):=B;have HW:Hid (SQ kt U (Tw.text kt U)):=fun W hW=>Tw.wV kt U W B.kt hU hW
 have HZ:Hid ((Tw.text kt U).size≤500):=by
  show (Tw.text kt U).size≤500
  rw[Tw.gG hU.2];omega
 have HC:Hid (S.c<U.count∧1≤U.count):=⟨hc,hU.1.1⟩
 have HN:Hid (S.D.ws.length<1000):=hws;have HP:Hid (S.tell kt U=if S.D.may=false then (14,{ S with dead:=true }) else
  if (S.D.ai.wrote (U.count % 2).toNat (Tw.text kt U)).may=false then (14,{ S with D:=S.D.ai.wrote (U.count % 2).toNat (Tw.text kt U),dead:=true }) else
   (0,{ S with D:=(S.D.ai.wrote (U.count % 2).toNat (Tw.text kt U)).ai.synced,c:=U.count })):=by
  show S.tell kt U=_
  rfl
 have HR:Hid ((w.alloc (.cells (ak 73 (ae U)).toArray 72)).rangeAt w.heap.size 0 (ak 73 (ae U))):=Tw.bJ (Tw.dP U w);have hq0:(w.alloc (.cells (ak 73 (ae U)).toArray 72)).cell? ⟨w.heap.size,0,none⟩=some (.int .i64 U.count):=(Tw.dP U w).cell 0 (by omega);have HQ0:Hid ((w.alloc (.cells (ak 73 (ae U)).toArray 72)).cell? ⟨w.heap.size,0,none⟩=some (.int .i64 U.count)):=hq0;have HS:Hid (Since w (w.alloc (.cells (ak 73 (ae U)).toArray 72))):=(Since.refl w).alloc _;have hL:=Tw.jc U;clear h B hU hc hws hq0;unfold aY;generalize Tw.text kt U=s at *;have HBR:Hid (∀W,Sm.kM W→Calls Tryz.prog 193 #[.string kt,.agg (ak 73 (ae U)).toArray] W fun e w'=>e=.returned (.tuple #[.string s,.nilIface])∧Since W w'):=HW.o;clear HW;generalize ak 73 (ae U)=cs at *;generalize hcn:U.count=n at *;clear hcn
 have H1:Hid (dL w0 (w.alloc (.cells cs.toArray 72)) vb db cb kb kt S v):=H.o.go HS.o;go_enter Tryz.func122,Tryz.ntmps122
 go_wp2_with fail
 generalize w.alloc (.cells cs.toArray 72)=w1 at *;have H1d:Hid (dL w0 w1.drew vb db cb kb kt S v):=H1.o.go (Since.refl _).drew;have HSd:Hid (Since w w1.drew):=HS.o.drew;have HQd:Hid (w1.drew.cell? ⟨w.heap.size,0,none⟩=some (.int .i64 n)):=HQ0.o;have hS1:(fun W:World=>W.rangeAt w.heap.size 0 cs∧W.cell? ⟨vb,3,none⟩=some (.string kt)) w1.drew:=⟨dm HR.o (Since.refl _).drew,H1d.o.c3⟩
 refine wp_region_held (S:=fun W:World=>W.rangeAt w.heap.size 0 cs∧W.cell? ⟨vb,3,none⟩=some (.string kt)) (by kernel_rfl) ?_;refine Tw.tk 0 10 hS1 ?_;refine Tw.tk 1 11 hS1 ?_;refine Tw.tk 2 12 hS1 ?_;refine Tw.tk 3 13 hS1 ?_;refine Tw.takeD (i:=4) (d:=14) (v:=.agg cs.toArray) rfl rfl (by kernel_rfl) (by kernel_rfl) (by kernel_rfl) (fun _ _ _ h=>h) (yieldsIf_load_mid (by rfl) 72 _ (by rfl) w.heap.size 0 (by rfl) _ _ (fun w hSw=>hSw.1) Tryz.underlying72 (by rfl) (by rw[hL];kernel_rfl)) hS1 ?q5;simp only[Act.put,List.setIfInBounds_toArray,List.set_cons_zero,List.set_cons_succ];refine Tw.ry 5 (fun K hK=>?_);rw[if_pos (by rfl)];go_simp
 refine(HBR.o _ (H1d.o.SN HB.o)).mono ?_;rintro e w2 ⟨rfl,h2⟩;simp only[];have H2:Hid (dL w0 w2 vb db cb kb kt S v):=H1d.o.go h2;have HS2:Hid (Since w w2):=HSd.o.trans h2;have WC:Hid (w2.cell? ⟨w.heap.size,0,none⟩=some (.int .i64 n)):=by
  show w2.cell? ⟨w.heap.size,0,none⟩=some (.int .i64 n)
  rw[h2.cell (p:=⟨w.heap.size,0,none⟩) (World.block_lt_of_cell? _ _ HQd.o)];exact HQd.o
 have hS2:(fun W:World=>W.rangeAt w.heap.size 0 cs∧W.cell? ⟨vb,3,none⟩=some (.string kt)) w2:=⟨dm hS1.1 h2,H2.o.c3⟩
 clear h2;refine hK.out _ _ hS2 (fun _=>?_);clear hK K;refine Tw.nz ?_;refine Tw.tk 6 9 hS2 ?_;refine Tw.tk 7 16 hS2 ?_;refine Tw.tk 8 17 hS2 ?_;refine Tw.tk 9 5 hS2 ?_;refine Tw.tk 10 6 hS2 ?_;refine wpAnyH_done (by kernel_rfl) ?_ _;clear hS1 hS2 H1 H1d HS HSd HQ0 HQd HR HBR hL;have hn1:0≤n:=by have:=HC.o.2;omega
 obtain⟨kk,hkk,hk2⟩:∃k:Nat,n % 2=k∧k<2:=⟨(n % 2).toNat,by omega,by omega⟩
 have HKK:Hid (n % 2=(kk:Int)):=hkk;have Hl:Hid (kk<2):=hk2;clear hkk hk2;go_wp2_with fail
 have H2d:Hid (dL w0 w2.drew vb db cb kb kt S v):=H2.o.go (Since.refl _).drew;have a4g:Hid (Since w w2.drew):=HS2.o.drew;have hS2:(fun W:World=>W.cell? ⟨vb,0,none⟩=some (.pointer (some ⟨db,0,none⟩))∧W.cell? ⟨w.heap.size,0,none⟩=some (.int .i64 n)) w2.drew:=⟨H2d.o.c0,WC.o⟩
 refine wp_region_held (S:=fun W:World=>W.cell? ⟨vb,0,none⟩=some (.pointer (some ⟨db,0,none⟩))∧W.cell? ⟨w.heap.size,0,none⟩=some (.int .i64 n)) (by kernel_rfl) ?_;refine Tw.tk 0 21 hS2 ?_;refine Tw.tk 1 22 hS2 ?_;refine Tw.tk 2 23 hS2 ?_;refine Tw.tk 3 24 hS2 ?_;refine Tw.tk 4 25 hS2 ?_;refine Tw.tk 5 26 hS2 ?_;refine Tw.tk 6 27 hS2 ?_;refine Tw.tk 8 29 hS2 ?_;refine Tw.ry 7 (fun K hK=>?_);rw[if_pos (by rfl)];go_simp
 refine(mQ n _ hn1).mono ?_;rintro e w3 ⟨rfl,rfl⟩;simp only[];refine hK.out _ _ hS2 (fun _=>?_);clear hK K;refine Tw.nz ?_;refine Tw.ry 9 (fun K hK=>?_);rw[if_pos (by rfl)];go_simp
 rw[HKK.o];refine(SV kk s Hl.o HZ.o HN.o H2d.o).mono ?_;rintro e w4 ⟨rfl,h4⟩;simp only[];obtain⟨v4,h4v,F4,x4,y4⟩:=h4.Eh H.o.Jf WC.o;have H4:Hid (dL w0 w4 vb db cb kb kt { S with D:=(Ct S.D kk s).2 } v4):=h4v;have WB:Hid (∀w' S',dB w0 w4 w' vb db cb kb kt S' v4→dB w0 w w' vb db cb kb kt S' v):=fun w' S' h=>dB.pre a4g.o (F4 w' S' h)
 have HQ4:Hid (w4.cell? ⟨w.heap.size,0,none⟩=some (.int .i64 n)∧¬VP vb db cb v4 w.heap.size):=⟨x4,y4⟩
 have cz:(fun W:World=>W.cell? ⟨vb,0,none⟩=some (.pointer (some ⟨db,0,none⟩))∧W.cell? ⟨w.heap.size,0,none⟩=some (.int .i64 n)) w4:=⟨H4.o.c0,HQ4.o.1⟩
 clear h4v F4 h4 hS2 x4 y4;refine hK.out _ _ cz (fun _=>?_);clear hK K;refine Tw.nz ?_;refine Tw.ry 10 (fun K hK=>?_);rw[if_pos (by rfl)];go_simp
 refine(lS (Ct S.D kk s).1 H4.o).mono ?_;rintro e w5 ⟨rfl,h5⟩;simp only[];obtain⟨v5,h5v,F5,x5,y5⟩:=h5.Eh HQ4.o.2 HQ4.o.1;have H5:Hid (dL w0 w5 vb db cb kb kt { S with D:=(Ct S.D kk s).2,dead:=S.dead||decide ((Ct S.D kk s).1=14) } v5):=h5v;have HF5:Hid (∀w' S',dB w0 w5 w' vb db cb kb kt S' v5→dB w0 w w' vb db cb kb kt S' v):=fun w' S' h=>WB.o w' S' (F5 w' S' h)
 have HQ5:Hid (w5.cell? ⟨w.heap.size,0,none⟩=some (.int .i64 n)∧¬VP vb db cb v5 w.heap.size):=⟨x5,y5⟩
 have hS5:(fun W:World=>W.cell? ⟨vb,0,none⟩=some (.pointer (some ⟨db,0,none⟩))∧W.cell? ⟨w.heap.size,0,none⟩=some (.int .i64 n)) w5:=⟨H5.o.c0,HQ5.o.1⟩
 clear h5 h5v F5 x5 y5;refine hK.out _ _ hS5 (fun _=>?_);clear hK K;refine Tw.nz ?_;refine Tw.tk 11 7 hS5 ?_;refine wpAnyH_done (by kernel_rfl) ?_ _;clear hS5 cz H2 H2d HS2 a4g WC HQ4 H4 WB;have HKE:Hid ((n % 2).toNat=kk):=by
  show (n % 2).toNat=kk
  rw[HKK.o,Int.toNat_natCast]
 cases hm:S.D.may with
 | false=>
  have e1:Ct S.D kk s=(14,S.D):=by unfold Ct;rw[if_pos hm]
  rw[e1] at H5 ⊢;rw[pO 14 (by decide)];have HE:Hid (S.tell kt U=(14,{ S with dead:=true })):=by
   show S.tell kt U=_
   rw[HP.o,if_pos hm]
  clear e1 hm HP;go_wp2_with fail
  go_ret;rw[HE.o,pO 14 (by decide)];refine⟨rfl,?_⟩;have:=HF5.o _ _ H5.o.self
  simpa using this
 | true=>
  have e1:Ct S.D kk s=(0,S.D.ai.wrote kk s):=by unfold Ct;rw[if_neg (by rw[hm];decide)]
  rw[e1] at H5 ⊢;rw[uK];have HE:Hid (S.tell kt U=if (S.D.ai.wrote kk s).may=false then (14,{ S with D:=S.D.ai.wrote kk s,dead:=true }) else (0,{ S with D:=(S.D.ai.wrote kk s).ai.synced,c:=n })):=by
   show S.tell kt U=_
   rw[HP.o,if_neg (by rw[hm];decide),HKE.o]
  clear e1 hm HP;have h5:dL w0 w5 vb db cb kb kt { S with D:=S.D.ai.wrote kk s } v5:=by
   have:=H5.o
   simpa using this
  generalize S.D.ai.wrote kk s=D2 at *;clear H5;have H5:Hid (dL w0 w5 vb db cb kb kt { S with D:=D2 } v5):=h5;clear h5;have q0:=H5.o.c0;go_wp2_with fail
  refine(Ac H5.o).mono ?_;rintro e w6 ⟨rfl,h6⟩;obtain⟨v6,YQ,F6,x6,y6⟩:=h6.Eh HQ5.o.2 HQ5.o.1;have H6:Hid (dL w0 w6 vb db cb kb kt { S with D:=(rZ D2).2 } v6):=YQ;have HF6:Hid (∀w' S',dB w0 w6 w' vb db cb kb kt S' v6→dB w0 w w' vb db cb kb kt S' v):=fun w' S' h=>HF5.o w' S' (F6 w' S' h)
  have HQ6:Hid (w6.cell? ⟨w.heap.size,0,none⟩=some (.int .i64 n)∧¬VP vb db cb v6 w.heap.size):=⟨x6,y6⟩
  clear h6 YQ F6 x6 y6 q0 H5 HF5 HQ5;go_wp2_with fail
  refine(lS (rZ D2).1 H6.o).mono ?_;rintro e w7 ⟨rfl,h7⟩;obtain⟨v7,h7v,F7,x7,y7⟩:=h7.Eh HQ6.o.2 HQ6.o.1;have H7:Hid (dL w0 w7 vb db cb kb kt { S with D:=(rZ D2).2,dead:=S.dead||decide ((rZ D2).1=14) } v7):=h7v;have Jj:Hid (∀w' S',dB w0 w7 w' vb db cb kb kt S' v7→dB w0 w w' vb db cb kb kt S' v):=fun w' S' h=>HF6.o w' S' (F7 w' S' h)
  have HQ7:Hid (w7.cell? ⟨w.heap.size,0,none⟩=some (.int .i64 n)∧¬VP vb db cb v7 w.heap.size):=⟨x7,y7⟩
  clear h7 h7v F7 x7 y7 H6 HF6 HQ6;cases hm:D2.may with
  | false=>
   have e1:rZ D2=(14,D2):=by unfold rZ;rw[if_pos hm]
   rw[e1] at H7 ⊢;rw[pO 14 (by decide)];have HE2:Hid (S.tell kt U=(14,{ S with D:=D2,dead:=true })):=by
    show S.tell kt U=_
    rw[HE.o,if_pos hm]
   clear e1 hm HE;go_wp2_with fail
   go_ret;rw[HE2.o,pO 14 (by decide)];refine⟨rfl,?_⟩;have:=Jj.o _ _ H7.o.self
   simpa using this
  | true=>
   have e1:rZ D2=(0,D2.ai.synced):=by unfold rZ;rw[if_neg (by rw[hm];decide)]
   rw[e1] at H7 ⊢;rw[uK];have HE2:Hid (S.tell kt U=(0,{ S with D:=D2.ai.synced,c:=n })):=by
    show S.tell kt U=_
    rw[HE.o,if_neg (by rw[hm];decide)]
   clear e1 hm HE;have h7:dL w0 w7 vb db cb kb kt { S with D:=D2.ai.synced } v7:=by
    have:=H7.o
    simpa using this
   generalize D2.ai.synced=D3 at *;clear H7;have H7:Hid (dL w0 w7 vb db cb kb kt { S with D:=D3 } v7):=h7;clear h7;go_wp2_with fail
   have H7d:Hid (dL w0 w7.drew vb db cb kb kt { S with D:=D3 } v7):=H7.o.go (Since.refl _).drew;have a4k:Hid (w7.drew.cell? ⟨w.heap.size,0,none⟩=some (.int .i64 n)):=HQ7.o.1;have sU:(fun W:World=>W.cell? ⟨vb,1,none⟩=some (.pointer (some ⟨cb,0,none⟩))∧W.cell? ⟨w.heap.size,0,none⟩=some (.int .i64 n)) w7.drew:=⟨H7d.o.c1,a4k.o⟩
   refine wp_region_held (S:=fun W:World=>W.cell? ⟨vb,1,none⟩=some (.pointer (some ⟨cb,0,none⟩))∧W.cell? ⟨w.heap.size,0,none⟩=some (.int .i64 n)) (by kernel_rfl) ?_;refine Tw.tk 0 45 sU ?_;refine Tw.tk 1 46 sU ?_;refine Tw.tk 2 47 sU ?_;refine Tw.tk 3 48 sU ?_;refine Tw.tk 4 49 sU ?_;refine Tw.tk 5 50 sU ?_;refine Tw.ry 6 (fun K hK=>?_);rw[if_pos (by rfl)];go_simp
   refine(Mt.CE cb S.c n _ (H7d.o.iN.cell 0 (by omega)) (H7d.o.iN.frozen 0 (by omega)) (by have:=HC.o.1;omega)).mono ?_;rintro e w8 ⟨rfl,h8⟩;simp only[];have SY:Hid (dB w0 w w8 vb db cb kb kt { S with D:=D3,c:=n } v):=by
    rw[h8];exact Jj.o _ _ (dB.pre (Since.refl _).drew (H7d.o.Ab (c':=n)))
   have Ad:(fun W:World=>W.cell? ⟨vb,1,none⟩=some (.pointer (some ⟨cb,0,none⟩))∧W.cell? ⟨w.heap.size,0,none⟩=some (.int .i64 n)) w8:=by
    have h9:=H7d.o.Ab (c':=n);rw[←h8] at h9;obtain⟨v9,h9v,F9,x9,y9⟩:=h9.Eh HQ7.o.2 a4k.o;exact⟨h9v.c1,x9⟩
   clear h8;refine hK.out _ _ Ad (fun _=>?_);clear hK K;refine Tw.nz ?_;refine Tw.tk 7 4 Ad ?_;refine wpAnyH_done (by kernel_rfl) ?_ _;go_wp2_with fail
   go_ret;rw[HE2.o,uK];exact⟨rfl,SY.o⟩
end
end Vl
end
section
namespace Vl
open Go.RowKit
open Tw (Tb ae aY aU)
theorem uj (D:Dv):D.synced.ws=[]:=rfl
theorem next_cell (S:Vs)(j:Nat)(hj:j<73):aJ (ae S.T) 0 (.int .i64 (S.T.count+1)) j=ae S.next j:=by
 unfold aJ ae Tw.eY Vs.next;by_cases e:j=0
 ·rw[if_pos e,if_pos e]
 rw[if_neg e,if_neg e,if_neg e]
theorem xG (db cb:Nat)(kb kt:ByteArray)(T U:Tb)(X:Nat→ByteArray)(f:Bool)(j:Nat)(hj:j<102) :
  fP (dR db cb kb kt T X f) 4 73 (ae U) j=dR db cb kb kt U X f j:=by
 unfold fP;by_cases h:4≤j∧j<4+73
 ·rw[if_pos h];have:=ui db cb kb kt U X f (j-4) (by omega);rw[show 4+(j-4)=j by omega] at this;rw[this]
 rw[if_neg h];unfold dR;by_cases h4:j<77
 ·match j,(show j<4 by omega) with
  | 0,_=>rfl
  | 1,_=>rfl
  | 2,_=>rfl
  | 3,_=>rfl
 simp only[if_neg h4]
section
variable {w0 w:World} {vb db cb:Nat} {kb kt:ByteArray} {S:Vs} {v:Value}
theorem Jk (h:dL w0 w vb db cb kb kt S v)(hd:S.dead=true) :
  Calls Tryz.prog 60 #[.pointer (some ⟨vb,0,none⟩)] w fun e w'=>e=.returned (ev 6)∧w'=w:=by
 have H:=hid h;have HD:=hid hd;clear h hd;go_enter Tryz.func60,Tryz.ntmps60
 go_wp2_with fail
 refine(aV _ _).mono ?_;rintro e w' ⟨rfl,rfl⟩;go_wp2_with fail
 refine(kg H.o).mono ?_;rintro e w' ⟨rfl,rfl⟩;rw[HD.o];go_wp2_with fail
 go_ret;exact⟨by rw[pO 6 (by decide)];rfl,rfl⟩
theorem Ae (B:Base w0 kb kt)(hr:Tw.Rt S.next)(hc:S.c<S.T.count+1)(h:dL w0 w vb db cb kb kt S v) :
  Calls Tryz.prog 60 #[.pointer (some ⟨vb,0,none⟩)] w fun e w'=>e=.returned (ev (S.flush kt).1)∧dB w0 w w' vb db cb kb kt (S.flush kt).2 v:=by
 cases hd:S.dead with
 | true=>
  have e1:S.flush kt=(6,S):=by unfold Vs.flush;rw[hd];rfl
  rw[e1];refine(Jk h hd).mono ?_;rintro e w' ⟨rfl,rfl⟩;exact⟨rfl,h.self⟩
 | false=>
  have HB:=hid B;have NN:=hid hr;have HC:=hid hc;have HN:=hid (an hr.1.2 hr.1.1);have HP:Hid (S.flush kt=if S.D.may=false then (14,{ S with dead:=true }) else if (({ S with D:=S.D.ai.synced }:Vs).tell kt S.next).1=0 then (0,{ (({ S with D:=S.D.ai.synced }:Vs).tell kt S.next).2 with T:=S.next }) else ({ S with D:=S.D.ai.synced }:Vs).tell kt S.next):=by
   show S.flush kt=_
   unfold Vs.flush;rw[hd]
   rfl
  have H:=hid h;have HD:=hid hd;clear h hd B hr hc;go_enter Tryz.func60,Tryz.ntmps60
  go_wp2_with fail
  refine(aV _ _).mono ?_;rintro e wx ⟨rfl,hw⟩;rw[hw];clear hw wx;go_wp2_with fail
  refine(kg H.o).mono ?_;rintro e wx ⟨rfl,hw⟩;rw[hw];clear hw wx;rw[HD.o];have q0:=H.o.c0;go_wp2_with fail
  refine(Ac H.o).mono ?_;rintro e w1 ⟨rfl,h1⟩;obtain⟨v1,h1v,F1⟩:=h1.cont;have H1:=hid h1v;have Qv:=hid F1;clear h1 h1v F1 q0;go_wp2_with fail
  refine(lS (rZ S.D).1 H1.o).mono ?_;rintro e w2 ⟨rfl,h2⟩;obtain⟨v2,h2v,F2⟩:=h2.cont;have H2:=hid h2v;have lh:Hid (∀w'' S',dB w0 w2 w'' vb db cb kb kt S' v2→dB w0 w w'' vb db cb kb kt S' v):=fun w'' S' h=>Qv.o _ _ (F2 w'' S' h)
  clear h2 h2v F2 H1 Qv;cases hm:S.D.may with
  | false=>
   have e1:rZ S.D=(14,S.D):=by unfold rZ;rw[if_pos hm]
   rw[e1] at H2 ⊢;rw[pO 14 (by decide)];have HE:Hid (S.flush kt=(14,{ S with dead:=true })):=by
    show S.flush kt=_
    rw[HP.o,if_pos hm]
   clear e1 hm HP;go_wp2_with fail
   go_ret;rw[HE.o,pO 14 (by decide)];refine⟨rfl,?_⟩;have:=lh.o _ _ H2.o.self
   simpa using this
  | true=>
   have e1:rZ S.D=(0,S.D.ai.synced):=by unfold rZ;rw[if_neg (by rw[hm];decide)]
   rw[e1] at H2 ⊢;rw[uK];have HE:Hid (S.flush kt=if (({ S with D:=S.D.ai.synced }:Vs).tell kt S.next).1=0 then (0,{ (({ S with D:=S.D.ai.synced }:Vs).tell kt S.next).2 with T:=S.next }) else ({ S with D:=S.D.ai.synced }:Vs).tell kt S.next):=by
    show S.flush kt=_
    rw[HP.o,if_neg (by rw[hm];decide)]
   clear e1 hm HP;have h2:dL w0 w2 vb db cb kb kt { S with D:=S.D.ai.synced } v2:=by
    have:=H2.o
    simpa using this
   clear H2;have HTL:Hid (∀W V,dL w0 W vb db cb kb kt { S with D:=S.D.ai.synced } V→Calls Tryz.prog 122 #[.pointer (some ⟨vb,0,none⟩),.agg (ak 73 (ae S.next)).toArray] W fun e w'=>e=.returned (ev (({ S with D:=S.D.ai.synced }:Vs).tell kt S.next).1)∧dB w0 W w' vb db cb kb kt (({ S with D:=S.D.ai.synced }:Vs).tell kt S.next).2 V):=fun W V hV=>SX HB.o S.next NN.o HC.o (by show (S.D.ai.synced).ws.length<1000;rw[uj];decide) hV
   generalize ({ S with D:=S.D.ai.synced }:Vs).tell kt S.next=R at *;generalize S.D.ai.synced=D1 at *;have H2:=hid h2;clear h2;have hR:=H2.o.tab;have hL:=Tw.jc S.T;have gW:=Tw.bA w2 w2.heap.size rfl;obtain⟨hst,tF⟩:=Tw.di gW S.T;have qZ:=hid tF;have fO:Hid (Since w2 ((w2.alloc (.cells Tryz.zeroCells72 72)).setCells w2.heap.size 0 (ak 73 (ae S.T)))):=((Since.refl w2).alloc _).setCells (Nat.le_refl _) _ _;clear gW tF;have c0:((w2.alloc (.cells Tryz.zeroCells72 72)).setCells w2.heap.size 0 (ak 73 (ae S.T))).cell? ⟨w2.heap.size,0,none⟩=some (.int .i64 S.T.count):=qZ.o.cell 0 (by omega);have f0:=qZ.o.frozen 0 (by omega);have hn0:S.T.count+1≤1099511627776:=HN.o.1;have hn1:1≤S.T.count+1:=HN.o.2
   have iM:Hid (aA (((w2.alloc (.cells Tryz.zeroCells72 72)).setCells w2.heap.size 0 (ak 73 (ae S.T))).setCell ⟨w2.heap.size,0,none⟩ (.int .i64 (S.T.count+1))) w2.heap.size 73 (ae S.next)):=(qZ.o.set 0 (by omega) _).congr (next_cell S);have jX:Hid (Since w2 (((w2.alloc (.cells Tryz.zeroCells72 72)).setCells w2.heap.size 0 (ak 73 (ae S.T))).setCell ⟨w2.heap.size,0,none⟩ (.int .i64 (S.T.count+1)))):=fO.o.setCell (Nat.le_refl _) _;generalize hcs:ak 73 (ae S.T)=cs at *;clear hcs;generalize ((w2.alloc (.cells Tryz.zeroCells72 72)).setCells w2.heap.size 0 cs)=w3 at *;have hR2:=Tw.bJ iM.o;have hL2:=Tw.jc S.next;generalize hcs2:ak 73 (ae S.next)=cs2 at *;generalize hw4:w3.setCell ⟨w2.heap.size,0,none⟩ (.int .i64 (S.T.count+1))=w4 at *;have H4:=hid (H2.o.go jX.o);have BN:=hid hcs2;have HW4:=hid hw4;clear hcs2 hw4;go_wp2_with (first
    | refine wpList_load_mid (by rfl) 72 _ (by rfl) vb 4 (by rfl) _ _ hR Tryz.underlying72 (by rfl) (by rw[hL];kernel_rfl) ?_
    | (rw[HW4.o];refine wpList_load_mid (by rfl) 72 _ (by rfl) w2.heap.size 0 (by rfl) _ _ hR2 Tryz.underlying72 (by rfl) (by rw[hL2];kernel_rfl) ?_))
   refine(HTL.o w4 v2 H4.o).mono ?_;rintro e w5 ⟨rfl,h5⟩;have VZ:=hid H2.o.Jf;obtain⟨v5,h5v,F5,n5⟩:=h5;have Hd:=hid (rY iM.o F5 VZ.o);have We:Hid (∀w' S',dB w0 w5 w' vb db cb kb kt S' v5→dB w0 w w' vb db cb kb kt S' v):=fun w' S' ⟨v6,h6,F6,n6⟩=>lh.o _ _ (dB.pre jX.o ⟨v6,h6,F5.trans' F6 (VP.nx n5),n5.trans n6 F5.size⟩)
   have H5:=hid h5v;clear h5v F5 n5 hR hR2 hL c0 f0 hst qZ fO iM jX H4 H2 lh HTL HW4;by_cases h0:R.1=0
   ·rw[h0,uK];have HE2:Hid (S.flush kt=(0,{ R.2 with T:=S.next })):=by
     show S.flush kt=_
     rw[HE.o,if_pos h0]
    clear h0 HE;have hR:=Tw.bJ Hd.o;rw[BN.o] at hR;have hst:=H5.o.aQ.store Tryz.prog 4 73 (by omega) (ae S.next) (fun j _=>Tw.jd _ j);rw[BN.o] at hst;have Qw:Hid (aA (w5.setCells vb 4 cs2) vb 102 (dR db cb kb kt S.next R.2.X R.2.dead)):=by
     have:=(H5.o.aQ.setRow 4 73 (by omega) (ae S.next)).congr (fun j hj=>xG db cb kb kt R.2.T S.next R.2.X R.2.dead j hj);rw[BN.o] at this;exact this
    go_wp2_with (refine wpList_load_mid (by rfl) 72 _ (by rfl) w2.heap.size 0 (by rfl) _ _ hR Tryz.underlying72 (by rfl) (by rw[hL2];kernel_rfl) ?_)
    go_ret;rw[HE2.o,uK];exact⟨rfl,We.o _ _ (H5.o.nJ Qw.o (Fr.setCells _ _ _ _ _) (Ty.setCells _ _ _ _ H5.o.ty))⟩
   have HE2:Hid (S.flush kt=R):=by
    show S.flush kt=_
    rw[HE.o,if_neg h0]
   rw[pO _ h0];have HE3:Hid (ev R.1=.iface 32 (.int .i64 R.1)):=pO _ h0;clear h0 HE;go_wp2_with fail
   go_ret;rw[HE2.o,HE3.o];exact⟨rfl,We.o _ _ H5.o.self⟩
end
end Vl
end
section
namespace Vl
open Go.RowKit
open Tw (Tb ae aY aU)
theorem eO {w:World}{base n:Nat}{v:Value}{l:List Nat}(h:w.ownsRow base 3 1 v n (Sp.vals l))(hn:n=l.length) :
  ∃a c,v=.slice a n c∧(0<n→∃k,a=some ⟨k,0,none⟩∧base≤k∧k<w.heap.size∧∀j (hj:j<l.length),w.cell? ⟨k,j,none⟩=some (.int .i64 (l[j]:Int))):=by
 rcases h.2 with⟨rfl,rfl⟩ | ⟨g,cap,cur,rfl,hg,hh,h1,h2,h3,h4⟩
 ·exact⟨_,_,rfl,fun h=>by omega⟩
 refine⟨_,_,rfl,fun _=>⟨g,rfl,hg,(Array.getElem?_eq_some_iff.1 hh).1,fun j hj=>?_⟩⟩;have e:(Sp.vals l)[j]?=some (.int .i64 (l[j]:Int)):=by unfold Sp.vals;rw[List.getElem?_map,List.getElem?_eq_getElem hj];rfl
 rw[←h4,List.getElem?_take_of_lt (by omega),Array.getElem?_toList] at e;simp[World.cell?,hh,e]
section
variable {w0 w:World} {vb db cb:Nat} {kb kt:ByteArray} {S:Vs} {v:Value}
theorem dB.YR {S1:Vs}{w1:World}{b:Nat}(h:dB w0 w w1 vb db cb kb kt S1 v)(hb:¬VP vb db cb v b)(hlt:b<w.heap.size) :
  ∃v1,dL w0 w1 vb db cb kb kt S1 v1∧(∀w' S',dB w0 w1 w' vb db cb kb kt S' v1→dB w0 w w' vb db cb kb kt S' v)∧(∀o,w1.cell? ⟨b,o,none⟩=w.cell? ⟨b,o,none⟩)∧¬VP vb db cb v1 b∧w.heap.size≤w1.heap.size:=by
 obtain⟨v1,h1,f1,n1⟩:=h;refine⟨v1,h1,fun w' S' ⟨v2,h2,f2,n2⟩=>⟨v2,h2,f1.trans' f2 (VP.nx n1),n1.trans n2 f1.size⟩,fun o=>f1.cell (p:=⟨b,o,none⟩) hlt hb,fun e=>?_,f1.size⟩;rcases VP.nx n1 b e with h2 | h2
 ·exact hb h2
 omega
theorem dL.qi (h:dL w0 w vb db cb kb kt S v){b:Nat}(hb:w.heap.size≤b):¬VP vb db cb v b:=by
 rintro (e | e | e | e)
 ·have:=h.aQ.lt (by omega);omega
 ·have:=h.dev.lt;omega
 ·have:=h.iN.lt (by omega);omega
 have:=h.dev.glt _ e;omega
def RL (w0 w wr:World)(vb db cb:Nat)(kb kt:ByteArray)(S:Vs)(v:Value)(n:Int)(z:Nat)(L:List Nat)(a:Option Addr)(k:Nat):Prop:=
 ∃Sk vk,dL w0 wr vb db cb kb kt Sk vk∧Sk.ok n∧Sk.moves kb z (L.drop k)=S.moves kb z L∧(∀w' S',dB w0 wr w' vb db cb kb kt S' vk→dB w0 w w' vb db cb kb kt S' v)∧
  (0<L.length→∃g,a=some ⟨g,0,none⟩∧¬VP vb db cb vk g∧g<wr.heap.size∧∀j (hj:j<L.length),wr.cell? ⟨g,j,none⟩=some (.int .i64 (L[j]:Int)))
theorem mW {z:Nat}(hd:S.dead=false)(hv:oC S.uf S.live 8=some z):S.au kb kt=if (S.moves kb z (Sp.eX S.T (z:Int) 24)).1≠0 then ((0,false,(S.moves kb z (Sp.eX S.T (z:Int) 24)).1),(S.moves kb z (Sp.eX S.T (z:Int) 24)).2) else
  if ((S.moves kb z (Sp.eX S.T (z:Int) 24)).2.flush kt).1≠0 then ((0,false,((S.moves kb z (Sp.eX S.T (z:Int) 24)).2.flush kt).1),((S.moves kb z (Sp.eX S.T (z:Int) 24)).2.flush kt).2) else
   if ((S.moves kb z (Sp.eX S.T (z:Int) 24)).2.flush kt).2.D.may=false then ((0,false,14),{ ((S.moves kb z (Sp.eX S.T (z:Int) 24)).2.flush kt).2 with dead:=true }) else
    ((((Sp.eX S.T (z:Int) 24).length:Int),true,0),{ ((S.moves kb z (Sp.eX S.T (z:Int) 24)).2.flush kt).2 with D:=((S.moves kb z (Sp.eX S.T (z:Int) 24)).2.flush kt).2.D.ai.reset z }):=by
 unfold Vs.au;rw[hd,hv]
 rfl
theorem BO (h:dL w0 w vb db cb kb kt S v)(hd:S.dead=true) :
  Calls Tryz.prog 72 #[.pointer (some ⟨vb,0,none⟩)] w fun e w'=>e=.returned (.tuple #[.int .i64 0,.bool false,ev 6])∧w'=w:=by
 have H:=hid h;have HD:=hid hd;clear h hd;go_enter Tryz.func72,Tryz.ntmps72
 go_wp2_with fail
 refine(aV _ _).mono ?_;rintro e wx ⟨rfl,hw⟩;rw[hw];clear hw wx;go_wp2_with fail
 refine(kg H.o).mono ?_;rintro e wx ⟨rfl,hw⟩;rw[hw];clear hw wx;rw[HD.o];go_wp2_with fail
 go_ret3;exact⟨by rw[pO 6 (by decide)];rfl,rfl⟩
theorem uL (B:Base w0 kb kt)(n:Int)(ho:S.ok n)(hn:n<1000000000)(h:dL w0 w vb db cb kb kt S v) :
  Calls Tryz.prog 72 #[.pointer (some ⟨vb,0,none⟩)] w fun e w'=>e=.returned (.tuple #[.int .i64 (S.au kb kt).1.1,.bool (S.au kb kt).1.2.1,ev (S.au kb kt).1.2.2])∧dB w0 w w' vb db cb kb kt (S.au kb kt).2 v:=by
 cases hd:S.dead with
 | true=>
  have e1:S.au kb kt=((0,false,6),S):=by unfold Vs.au;rw[hd];rfl
  rw[e1];refine(BO h hd).mono ?_;rintro e w' ⟨rfl,rfl⟩;exact⟨rfl,h.self⟩
 | false=>
  have HB:=hid B;have HO:=hid (an ho hn);have H:=hid h;have HD:=hid hd;clear h hd B ho hn;go_enter Tryz.func72,Tryz.ntmps72
  go_wp2_with fail
  refine(aV _ _).mono ?_;rintro e wx ⟨rfl,hw⟩;rw[hw];clear hw wx;go_wp2_with fail
  refine(kg H.o).mono ?_;rintro e wx ⟨rfl,hw⟩;rw[hw];clear hw wx;rw[HD.o];go_wp2_with fail
  have H1:Hid (dL w0 w.drew vb db cb kb kt S v):=H.o.go (Since.refl _).drew;have cK:Hid (Since w w.drew):=(Since.refl _).drew;have hL:=Tw.jc S.T;have HLV:Hid (∀W,Calls Tryz.prog 136 #[.agg (ak 73 (ae S.T)).toArray] W fun e w'=>∃x,e=.returned x∧Sp.Ls w' w'.heap.size x 8 S.live∧Since W w'):=fun W=>(Sp.Sn S.T W).mono fun e w' ⟨x,h1,⟨b,h2,h3⟩,h4⟩=>⟨x,h1,⟨_,_,h2,by omega,fun _=>⟨b,0,rfl,h3.lt (by omega),fun j hj=>by rw[Nat.zero_add];exact h3.cell j hj⟩⟩,h4⟩
  have DY:Hid (∀(z:Int) W,Calls Tryz.prog 137 #[.agg (ak 73 (ae S.T)).toArray,.int .i64 z] W fun e w'=>∃x,e=.returned x∧w'.ownsRow W.heap.size 3 1 x (Sp.eX S.T z 24).length (Sp.vals (Sp.eX S.T z 24))∧Since W w'):=fun z W=>Sp.fu S.T z W
  have HR1:=hid H1.o.tab;generalize hcs:ak 73 (ae S.T)=cs at *;have BN:=hid hcs;clear hcs;have hS1:(fun W:World=>W.rangeAt vb 4 cs) w.drew:=HR1.o;refine wp_region_held (S:=fun W:World=>W.rangeAt vb 4 cs) (by kernel_rfl) ?_;refine Tw.tk 0 20 hS1 ?_;refine Tw.tk 2 22 hS1 ?_;refine Tw.tk 3 23 hS1 ?_;refine Tw.tk 4 24 hS1 ?_;refine Tw.takeD (i:=5) (d:=25) (v:=.agg cs.toArray) rfl rfl (by kernel_rfl) (by kernel_rfl) (by kernel_rfl) (fun _ _ _ h=>h) (yieldsIf_load_mid (by rfl) 72 _ (by rfl) vb 4 (by rfl) _ _ (fun w hSw=>hSw) Tryz.underlying72 (by rfl) (by rw[hL];kernel_rfl)) hS1 ?q5;simp only[Act.put,List.setIfInBounds_toArray,List.set_cons_zero,List.set_cons_succ];refine Tw.ry 1 (fun K hK=>?_);rw[if_pos (by rfl)];go_simp
  refine(xh H1.o).mono ?_;rintro e w2 ⟨⟨x,rfl,hx⟩,h2⟩;simp only[];have H2:=hid (H1.o.go h2);have HS2:=hid (cK.o.trans h2);have zt:=hid hx;have hS2:(fun W:World=>W.rangeAt vb 4 cs) w2:=dm HR1.o h2;clear h2 hx;refine hK.out _ _ hS2 (fun _=>?_);clear hK K;refine Tw.nz ?_;refine Tw.ry 6 (fun K hK=>?_);rw[if_pos (by rfl)];go_simp
  refine(HLV.o _).mono ?_;rintro e w3 ⟨y,rfl,hy,h3⟩;simp only[];have H3:=hid (H2.o.go h3);have dZ:=hid (HS2.o.trans h3);have ML:=hid (an (zt.o.since h3) h3.size);have HY3:=hid hy;have bQ:(fun W:World=>W.rangeAt vb 4 cs) w3:=dm hS2 h3;clear h3 hy;refine hK.out _ _ bQ (fun _=>?_);clear hK K;refine Tw.nz ?_;refine Tw.ry 7 (fun K hK=>?_);rw[if_pos (by rfl)];go_simp
  refine(Sp.IW x y 8 8 w3.heap.size S.uf S.live _ (by
   obtain⟨a,c,hv,hc,h⟩:=ML.o.1;exact⟨a,c,hv,hc,fun hn=>by
    obtain⟨k,o,ha,hk,hcc⟩:=h hn;exact⟨k,o,ha,Nat.lt_of_lt_of_le hk ML.o.2,hcc⟩⟩) HY3.o (by omega) (by omega)).mono ?_
  rintro e w4 ⟨⟨z,ok,rfl,hz⟩,h4⟩;simp only[];have H4:=hid (H3.o.go h4);have fO:=hid (dZ.o.trans h4);have cz:(fun W:World=>W.rangeAt vb 4 cs) w4:=dm bQ h4;have HZ:Hid _:=Sq hz;clear h4 hz;refine hK.out _ _ cz (fun _=>?_);clear hK K;refine Tw.nz ?_;refine Tw.tk 8 19 cz ?_;refine Tw.tk 9 28 cz ?_;refine Tw.tk 10 29 cz ?_;refine Tw.tk 11 5 cz ?_;refine Tw.tk 12 6 cz ?_;refine wpAnyH_done (by kernel_rfl) ?_ _;clear hS1 hS2 bQ H1 H2 H3 cK HS2 dZ zt ML HY3 HLV HR1;rcases HZ.o with⟨rfl,zz,rfl,Ro,hv⟩ | ⟨rfl,rfl,hv⟩
  ·have HV:=hid (an hv Ro);clear hv Ro HZ;have OU:w4.rangeAt vb 4 cs:=cz;clear cz;go_wp2_with (refine wpList_load_mid (by rfl) 72 _ (by rfl) vb 4 (by rfl) _ _ OU Tryz.underlying72 (by rfl) (by rw[hL];kernel_rfl) ?_)
   refine(DY.o _ _).mono ?_;rintro e w5 ⟨x5,rfl,OV,h5⟩;have H5:=hid (H4.o.go h5);have jX:=hid (fO.o.trans h5);have HG:Hid (∀b,w4.heap.size≤b→¬VP vb db cb v b):=fun b hb=>H4.o.qi hb
   have HP:Hid _:=mW (kb:=kb) (kt:=kt) HD.o HV.o.1;have a0d:Hid (∀i ∈ Sp.eX S.T (zz:Int) 24,i<24):=fun i hi=>(rW.1 hi).1
   have He:Hid ((Sp.eX S.T (zz:Int) 24).length≤24):=Sp.mV _ _ _;generalize Sp.eX S.T (zz:Int) 24=L at *;obtain⟨a5,c5,rfl,BP⟩:=eO OV rfl;have HRL:Hid (RL w0 w w5 vb db cb kb kt S v n zz L a5 0):=⟨S,v,H5.o,HO.o.1,rfl,fun w' S' h=>dB.pre jX.o h,fun h0=>by
    obtain⟨g,hg1,hg2,hg3,hg4⟩:=BP h0;exact⟨g,hg1,HG.o g hg2,hg3,hg4⟩⟩
   clear BP OV h5 OU H4 fO HG H5 jX DY BN hL;go_wp2_with fail
   go_loopw [40,9,10] (fun i _ _ wr=>∃k:Nat,k≤L.length∧i=.int .i64 (k:Int)∧RL w0 w wr vb db cb kb kt S v n zz L a5 k) (fun i _ _ _=>L.length-(intOf i).toNat)
   case atStart=>exact⟨0,by omega,rfl,HRL.o⟩
   clear HRL;obtain⟨k,hk,rfl,Sk,vk,vF,hok,hmv,hto,hrow⟩:=hrel;have HVK:=hid vF;have cO:=hid hok;have Xa:=hid hmv;have Jh:=hid hto;have HRW:=hid hrow;clear vF hok hmv hto hrow;by_cases hlt:k<L.length
   ·have hlt2:(k:Int)<L.length:=by omega
    have a7p:(k:Int)<24:=by have:=He.o;omega
    obtain⟨g,rfl,hg2,hg3,hg4⟩:=HRW.o (by omega);have OW:=hid (an hg2 (an hg3 hg4));have q1:=hg4 k hlt;clear hg2 hg3 hg4 HRW;have Jl:L[k]<24:=a0d.o _ (List.getElem_mem _);have HDR:=hid (List.drop_eq_getElem_cons hlt);generalize L[k]=ii at *;have hi2:(ii:Int)<24:=by omega
    have q2:=HVK.o.cx ii Jl;go_wp2_with fail
    refine(rJ HB.o ii (Sk.X ii) zz Jl (cO.o.txt ii) HVK.o).mono ?_;rintro e w6 ⟨rfl,h6⟩;have Xb:=hid (cO.o.put kb ii Jl zz (Sk.X ii) (cO.o.txt ii));have Cr:Hid (S.moves kb zz L=if (Sk.put kb ii zz (Sk.X ii)).1=0 then (Sk.put kb ii zz (Sk.X ii)).2.moves kb zz (L.drop (k+1)) else Sk.put kb ii zz (Sk.X ii)):=by
     show S.moves kb zz L=_
     rw[←Xa.o,HDR.o,kG]
    obtain⟨v6,YQ,F6,x6,y6,z6⟩:=h6.YR OW.o.1 OW.o.2.1;have H6:=hid YQ;have vN:Hid (∀w' S',dB w0 w6 w' vb db cb kb kt S' v6→dB w0 w w' vb db cb kb kt S' v):=fun w' S' h=>Jh.o _ _ (F6 w' S' h)
    have HG6:Hid (¬VP vb db cb v6 g∧g<w6.heap.size∧∀j (hj:j<L.length),w6.cell? ⟨g,j,none⟩=some (.int .i64 (L[j]:Int))):=⟨y6,Nat.lt_of_lt_of_le OW.o.2.1 z6,fun j hj=>(x6 j).trans (OW.o.2.2 j hj)⟩
    clear h6 YQ F6 x6 y6 z6 OW q1 q2 HVK Jh cO Xa HDR;generalize Sk.put kb ii zz (Sk.X ii)=R at *;by_cases h0:R.1=0
    ·rw[h0,uK];have Xc:Hid (R.2.moves kb zz (L.drop (k+1))=S.moves kb zz L):=by
      show R.2.moves kb zz (L.drop (k+1))=S.moves kb zz L
      rw[Cr.o,if_pos h0]
     clear h0 Cr;go_wp2_with fail
     go_roundw
     case rel=>exact⟨k+1,by omega,by go_num,R.2,v6,H6.o,Xb.o,Xc.o,vN.o,fun _=>⟨g,rfl,HG6.o⟩⟩
     case measure=>simp[intOf];omega
    rw[pO _ h0];have HE:Hid (S.au kb kt=((0,false,R.1),R.2)∧ev R.1=.iface 32 (.int .i64 R.1)):=by
     refine⟨?_,pO _ h0⟩;rw[HP.o,Cr.o,if_neg h0,if_pos h0]
    clear h0 HP Cr;go_wp2_with fail
    go_ret3;rw[HE.o.1,HE.o.2];exact⟨rfl,vN.o _ _ H6.o.self⟩
   have hke:k=L.length:=by omega
   subst hke;have Xc:Hid (S.moves kb zz L=(0,Sk)):=by
    show S.moves kb zz L=(0,Sk)
    rw[←Xa.o,List.drop_length,lQ]
   clear Xa HRW hlt;go_wp2_with fail
   refine(Ae HB.o (cO.o.next (by have:=HO.o.2;omega)) cO.o.nc HVK.o).mono ?_;rintro e w6 ⟨rfl,h6⟩;obtain⟨v6,YQ,F6⟩:=h6.cont;have H6:=hid YQ;have vN:Hid (∀w' S',dB w0 w6 w' vb db cb kb kt S' v6→dB w0 w w' vb db cb kb kt S' v):=fun w' S' h=>Jh.o _ _ (F6 w' S' h)
   have Xd:Hid (S.au kb kt=if (Sk.flush kt).1≠0 then ((0,false,(Sk.flush kt).1),(Sk.flush kt).2) else if (Sk.flush kt).2.D.may=false then ((0,false,14),{ (Sk.flush kt).2 with dead:=true }) else (((L.length:Int),true,0),{ (Sk.flush kt).2 with D:=(Sk.flush kt).2.D.ai.reset zz })):=by
    show S.au kb kt=_
    rw[HP.o,Xc.o,if_neg (fun h=>h rfl)]
   clear h6 YQ F6 Jh HVK cO Xc HP;generalize Sk.flush kt=R at *;by_cases h0:R.1=0
   ·rw[h0,uK];have Xe:Hid (S.au kb kt=if R.2.D.may=false then ((0,false,14),{ R.2 with dead:=true }) else (((L.length:Int),true,0),{ R.2 with D:=R.2.D.ai.reset zz })):=by
     show S.au kb kt=_
     rw[Xd.o,if_neg (by rw[h0];decide)]
    clear h0 Xd;have q0:=H6.o.c0;go_wp2_with fail
    refine(Ji zz HV.o.2 H6.o).mono ?_;rintro e w7 ⟨rfl,h7⟩;obtain⟨v7,h7v,F7⟩:=h7.cont;have H7:=hid h7v;have YS:Hid (∀w' S',dB w0 w7 w' vb db cb kb kt S' v7→dB w0 w w' vb db cb kb kt S' v):=fun w' S' h=>vN.o _ _ (F7 w' S' h)
    clear h7 h7v F7 vN H6 q0;go_wp2_with fail
    refine(lS (Cu R.2.D zz).1 H7.o).mono ?_;rintro e w8 ⟨rfl,h8⟩;have SY:Hid (dB w0 w w8 vb db cb kb kt { R.2 with D:=(Cu R.2.D zz).2,dead:=R.2.dead||decide ((Cu R.2.D zz).1=14) } v):=YS.o _ _ h8;clear h8 YS H7;cases hm:R.2.D.may with
    | false=>
     have e1:Cu R.2.D zz=(14,R.2.D):=by unfold Cu;rw[if_pos hm]
     rw[e1] at SY ⊢;rw[pO 14 (by decide)];have HE:Hid (S.au kb kt=((0,false,14),{ R.2 with dead:=true })):=by
      show S.au kb kt=_
      rw[Xe.o,if_pos hm]
     clear e1 hm Xe;go_wp2_with fail
     go_ret3;rw[HE.o,pO 14 (by decide)];refine⟨rfl,?_⟩;have:=SY.o
     simpa using this
    | true=>
     have e1:Cu R.2.D zz=(0,R.2.D.ai.reset zz):=by unfold Cu;rw[if_neg (by rw[hm];decide)]
     rw[e1] at SY ⊢;rw[uK];have HE:Hid (S.au kb kt=(((L.length:Int),true,0),{ R.2 with D:=R.2.D.ai.reset zz })):=by
      show S.au kb kt=_
      rw[Xe.o,if_neg (by rw[hm];decide)]
     clear e1 hm Xe;go_wp2_with fail
     go_ret3;rw[HE.o,uK];refine⟨rfl,?_⟩;have:=SY.o
     simpa using this
   rw[pO _ h0];have HE:Hid (S.au kb kt=((0,false,R.1),R.2)∧ev R.1=.iface 32 (.int .i64 R.1)):=by
    refine⟨?_,pO _ h0⟩;rw[Xd.o,if_pos h0]
   clear h0 Xd;go_wp2_with fail
   go_ret3;rw[HE.o.1,HE.o.2];exact⟨rfl,vN.o _ _ H6.o.self⟩
  have HV:=hid hv;clear hv HZ;go_wp2_with fail
  go_ret3;have HP:S.au kb kt=((0,false,0),S):=by
   unfold Vs.au;rw[HD.o,HV.o]
   rfl
  rw[HP,uK];exact⟨rfl,H.o.to fO.o⟩
end
end Vl
end
section
namespace Vl
open Go.RowKit
open Tw (Tb ae aY aU)
theorem uk {s:ByteArray}(h:¬s=⟨#[]⟩):s.toList.isEmpty=false∧¬s.toList=[]:=by
 have h1:¬s.toList=[]:=fun e=>h (ByteArray.ext (by
  rw[ByteArray.toList_eq] at e;exact Array.toList_eq_nil_iff.1 e))
 exact⟨by simpa using h1,h1⟩
section
variable {w0 w:World} {vb db cb:Nat} {kb kt:ByteArray} {S:Vs} {v:Value}
theorem OX (B:Base w0 kb kt)(n:Int)(ho:S.ok n)(hn:n<1000000000)(i:Int)(t:ByteArray)(h:dL w0 w vb db cb kb kt S v) :
  Calls Tryz.prog 105 #[.pointer (some ⟨vb,0,none⟩),.int .i64 i,.string t] w fun e w'=>e=.returned (ev (S.write kb kt i t).1)∧dB w0 w w' vb db cb kb kt (S.write kb kt i t).2 v:=by
 have HB:=hid B;have HO:=hid (an ho hn);have H:=hid h;clear h B ho hn;cases hd:S.dead with
 | true=>
  have HE:Hid (S.write kb kt i t=(6,S)):=by show S.write kb kt i t=_;unfold Vs.write;rw[hd];rfl
  have HD:=hid hd;clear hd;go_enter Tryz.func105,Tryz.ntmps105
  go_wp2_with fail
  refine(aV _ _).mono ?_;rintro e wx ⟨rfl,hw⟩;rw[hw];clear hw wx;go_wp2_with fail
  refine(kg H.o).mono ?_;rintro e wx ⟨rfl,hw⟩;rw[hw];clear hw wx;rw[HD.o];go_wp2_with fail
  go_ret;rw[HE.o,pO 6 (by decide)];exact⟨rfl,H.o.self⟩
 | false=>
  have HD:=hid hd;clear hd;go_enter Tryz.func105,Tryz.ntmps105
  go_wp2_with fail
  refine(aV _ _).mono ?_;rintro e wx ⟨rfl,hw⟩;rw[hw];clear hw wx;go_wp2_with fail
  refine(kg H.o).mono ?_;rintro e wx ⟨rfl,hw⟩;rw[hw];clear hw wx;rw[HD.o];go_wp2_with fail
  refine(oF _ _).mono ?_;rintro e wx ⟨rfl,hw⟩;rw[hw];clear hw wx;by_cases hi:0≤i∧i<24
  ·rw[MJ hi];obtain⟨k,rfl⟩:=Int.eq_ofNat_of_zero_le hi.1;have hk:(k:Int)<24:=hi.2;have HK:Hid (k<24):=by show k<24;omega
   have HI:Hid (¬¬(0≤(k:Int)∧(k:Int)<24)):=fun q=>q hi
   clear hi;by_cases ht:80<t.size
   ·have ht2:(80:Int)<t.size:=by omega
    have HE:Hid (S.write kb kt k t=(4,S)):=by show S.write kb kt k t=_;unfold Vs.write;rw[HD.o,if_neg (by decide),if_neg HI.o,if_pos ht]
    clear ht;go_wp2_with fail
    go_ret;rw[HE.o,pO 4 (by decide)];exact⟨rfl,H.o.self⟩
   have ht2:¬(80:Int)<t.size:=by omega
   have HT:=hid ht;clear ht;have q:=H.o.cx k HK.o;by_cases hx:t=S.X k
   ·have HE:Hid (S.write kb kt k t=(0,S)):=by show S.write kb kt k t=_;unfold Vs.write;rw[HD.o,if_neg (by decide),if_neg HI.o,if_neg HT.o,Int.toNat_natCast,if_pos hx]
    rw[←hx] at q;clear hx;go_wp2_with fail
    go_ret;rw[HE.o,uK];exact⟨rfl,H.o.self⟩
   have hxl:=Tw.fD hx;have HX:=hid hx;clear hx;by_cases he:t=⟨#[]⟩
   ·have HE:Hid (S.write kb kt k t=(0,S.set k 0 0 ⟨#[]⟩ ⟨#[]⟩)):=by show S.write kb kt k t=_;unfold Vs.write;rw[HD.o,if_neg (by decide),if_neg HI.o,if_neg HT.o,Int.toNat_natCast,if_neg HX.o,if_pos he]
    subst he;obtain⟨g1,g2⟩:=uk (fun q:S.X k=⟨#[]⟩=>HX.o q.symm);clear hxl;go_wp2_with fail
    refine(MK k 0 0 ⟨#[]⟩ ⟨#[]⟩ HK.o (by decide) (by decide) H.o).mono ?_;rintro e w1 ⟨rfl,h1⟩;have H1:=hid h1;clear h1;go_wp2_with fail
    go_ret;rw[HE.o,uK];exact⟨rfl,H1.o⟩
   obtain⟨g1,g2⟩:=uk he;have HP:Hid (S.write kb kt k t=if S.free≤20 then (if (S.au kb kt).1.2.2≠0 then ((S.au kb kt).1.2.2,(S.au kb kt).2) else (S.au kb kt).2.put kb k (-1) t) else S.put kb k (-1) t):=by
    show S.write kb kt k t=_
    unfold Vs.write;rw[HD.o,if_neg (by decide),if_neg HI.o,if_neg HT.o,Int.toNat_natCast,if_neg HX.o,if_neg he]
   clear he;go_wp2_with fail
   refine(lM H.o).mono ?_;rintro e w1 ⟨rfl,h1⟩;have H1:=hid (H.o.go h1);have cK:=hid h1;clear h1 q hxl g1 g2;by_cases hf:S.free≤20
   ·have hfd:decide (S.free≤20)=true:=decide_eq_true hf;have Jm:Hid (S.write kb kt k t=if (S.au kb kt).1.2.2≠0 then ((S.au kb kt).1.2.2,(S.au kb kt).2) else (S.au kb kt).2.put kb k (-1) t):=by
     show S.write kb kt k t=_
     rw[HP.o,if_pos hf]
    clear HP;generalize S.free=fr at *;go_wp2_with fail
    refine(uL HB.o n HO.o.1 HO.o.2 H1.o).mono ?_;rintro e w2 ⟨rfl,h2⟩;obtain⟨v2,h2v,F2⟩:=(dB.pre cK.o h2).cont;have H2:=hid h2v;have HT2:=hid F2;clear h2 h2v F2 hf hfd;generalize S.au kb kt=R at *;obtain⟨⟨r1,r2,r3⟩,R2⟩:=R;dsimp only at H2 Jm ⊢;by_cases h0:r3=0
    ·subst h0;rw[uK];have YT:Hid (S.write kb kt k t=R2.put kb k (-1) t):=by
      show S.write kb kt k t=_
      rw[Jm.o,if_neg (fun q=>q rfl)]
     clear Jm;go_wp2_with fail
     refine(rJ HB.o k t (-1) HK.o (by have:=HT.o;omega) H2.o).mono ?_;rintro e w3 ⟨rfl,h3⟩;have H3:Hid (dB w0 w w3 vb db cb kb kt (R2.put kb k (-1) t).2 v):=HT2.o _ _ h3;clear h3;go_wp2_with fail
     go_ret;rw[YT.o];exact⟨rfl,H3.o⟩
    have YT:Hid (S.write kb kt k t=(r3,R2)∧ev r3=.iface 32 (.int .i64 r3)):=by
     refine⟨?_,pO _ h0⟩;rw[Jm.o,if_pos h0]
    rw[pO _ h0];clear Jm h0;go_wp2_with fail
    go_ret;rw[YT.o.1,YT.o.2];exact⟨rfl,HT2.o _ _ H2.o.self⟩
   have hfd:decide (S.free≤20)=false:=decide_eq_false hf;have Jm:Hid (S.write kb kt k t=S.put kb k (-1) t):=by
    show S.write kb kt k t=_
    rw[HP.o,if_neg hf]
   clear HP;generalize S.free=fr at *;go_wp2_with fail
   refine(rJ HB.o k t (-1) HK.o (by have:=HT.o;omega) H1.o).mono ?_;rintro e w2 ⟨rfl,h2⟩;have H2:=hid (dB.pre cK.o h2);clear h2;go_wp2_with fail
   go_ret;rw[Jm.o];exact⟨rfl,H2.o⟩
  have HE:Hid (S.write kb kt i t=(2,S)):=by show S.write kb kt i t=_;unfold Vs.write;rw[HD.o,if_neg (by decide),if_pos hi]
  rw[Ej hi];go_wp2_with fail
  go_ret;rw[HE.o,pO 2 (by decide)];exact⟨rfl,H.o.self⟩
end
end Vl
end
section
namespace Vl
open Go.RowKit
open Tw (Tb ae aY aU)
def MM (D:Dv)(z o:Int):ByteArray × Int:=if ¬(0≤z∧z<8) then (⟨#[]⟩,2) else if ¬(0≤o∧o<D.cnt z.toNat) then (⟨#[]⟩,7) else (gm D z o,0)
theorem OY {w:World}{db:Nat}{D:Dv}{v:Value}(z o:Int)(h:Dev w db D v) :
  Calls Tryz.prog 273 #[.pointer (some ⟨db,0,none⟩),.int .i64 z,.int .i64 o] w fun e w'=>e=.returned (.tuple #[.string (MM D z o).1,ev (MM D z o).2])∧w'=w:=by
 unfold MM;by_cases hz:0≤z∧z<8
 ·rw[if_neg (fun q=>q hz)];obtain⟨k,rfl⟩:=Int.eq_ofNat_of_zero_le hz.1;rw[Int.toNat_natCast];by_cases ho:0≤o∧o<D.cnt k
  ·rw[if_neg (fun q=>q ho)];obtain⟨j,rfl⟩:=Int.eq_ofNat_of_zero_le ho.1;rw[uK];exact Go.Proofs.YtlgbfkcpdelcbaaGreatDoor.nY D v db k j w h (by omega) (by omega)
  rw[if_pos ho,pO 7 (by decide)];exact Oc D v db k o w h (by omega) ho
 rw[if_pos hz,pO 2 (by decide)];exact RJ db z o w hz
def z24:Array Value:=#[.string ⟨#[]⟩,.string ⟨#[]⟩,.string ⟨#[]⟩,.string ⟨#[]⟩,.string ⟨#[]⟩,.string ⟨#[]⟩,.string ⟨#[]⟩,.string ⟨#[]⟩,.string ⟨#[]⟩,.string ⟨#[]⟩,.string ⟨#[]⟩,.string ⟨#[]⟩,.string ⟨#[]⟩,.string ⟨#[]⟩,.string ⟨#[]⟩,.string ⟨#[]⟩,.string ⟨#[]⟩,.string ⟨#[]⟩,.string ⟨#[]⟩,.string ⟨#[]⟩,.string ⟨#[]⟩,.string ⟨#[]⟩,.string ⟨#[]⟩,.string ⟨#[]⟩]
theorem MN:z24.toList=ak 24 (fun _=>.string ⟨#[]⟩):=by kernel_rfl
theorem Xf (j:Nat)(hj:j<24):z24[j]?=some (.string ⟨#[]⟩):=by
 rw[←Array.getElem?_toList,MN];exact bM _ _ _ hj
def aW (X:Nat→ByteArray)(j:Nat):Value:=.string (X j)
def Xg (X:Nat→ByteArray):Value:=.agg (ak 24 (aW X)).toArray
theorem si (w:World)(b:Nat)(hb:b=w.heap.size):aA (w.alloc (.cells z24 73)) b 24 (aW (fun _=>⟨#[]⟩)):=aA.new w _ _ _ _ Xf _ hb
theorem Jn (X:Nat→ByteArray):(ak 24 (aW X)).length=24:=ax _ _
theorem El (kb:ByteArray)(D:Dv)(T:Tb)(k:Nat)(s:ByteArray)(hs:s=if T.tag k=⟨#[]⟩ then ⟨#[]⟩ else Sl.textOf kb (gm D (T.az k) (T.off k)))(j:Nat):aJ (aW (aM kb D T k)) k (.string s) j=aW (aM kb D T (k+1)) j:=by
 unfold aJ aW aM;by_cases e:j=k
 ·subst e;rw[if_pos rfl,if_pos (by omega),hs]
 rw[if_neg e];by_cases h:j<k
 ·simp only[if_pos h,if_pos (show j<k+1 by omega)]
 simp only[if_neg h,if_neg (show ¬j<k+1 by omega)]
theorem Af (kb:ByteArray)(D:Dv)(T:Tb)(k:Nat)(hs:T.tag k=⟨#[]⟩)(j:Nat):aW (aM kb D T k) j=aW (aM kb D T (k+1)) j:=by
 unfold aW aM;by_cases e:j=k
 ·subst e;rw[if_neg (by omega),if_pos (by omega),if_pos hs]
 by_cases h:j<k
 ·simp only[if_pos h,if_pos (show j<k+1 by omega)]
 simp only[if_neg h,if_neg (show ¬j<k+1 by omega)]
theorem lT (X:Nat→ByteArray)(j:Nat):(aW X j).oneCell'=true:=rfl
theorem xH {X:Nat→ByteArray}{w:World}{b:Nat}(h:aA w b 24 (aW X)):w.rangeAt b 0 (ak 24 (aW X)):=by
 have:=h.range 0 24 (by omega)
 simpa only[Nat.zero_add] using this
theorem sj {w:World}{b:Nat}{X:Nat→ByteArray}(h:aA w b 24 (aW X))(Y:Nat→ByteArray):(storeCells ⟨b,0,none⟩ (ak 24 (aW Y))).run Tryz.prog w=.ok () (w.setCells b 0 (ak 24 (aW Y)))∧aA (w.setCells b 0 (ak 24 (aW Y))) b 24 (aW Y):=
 ⟨h.store Tryz.prog 0 24 (by omega) (aW Y) (fun j _=>lT _ j),(h.setRow 0 24 (by omega) (aW Y)).congr (fun j hj=>by unfold fP;rw[if_pos (by omega)];rfl)⟩
theorem xI {w:World}{b:Nat}{X:Nat→ByteArray}(h:aA w b 24 (aW X)):aA (w.setCells b 0 z24.toList) b 24 (aW (fun _=>⟨#[]⟩)):=by
 rw[MN];exact(sj h (fun _=>⟨#[]⟩)).2
theorem BQ {w:World}{b:Nat}{X:Nat→ByteArray}(h:aA w b 24 (aW X)):w.there b 0 z24.size:=h.there 0 24 (by omega)
section
variable {w0 w:World} {vb db cb:Nat} {kb kt:ByteArray} {S:Vs} {v:Value}
theorem Jo (B:Base w0 kb kt)(T:Tb)(h:dL w0 w vb db cb kb kt S v) :
  Calls Tryz.prog 226 #[.pointer (some ⟨vb,0,none⟩),aY T] w fun e w'=>(((∀i,i<24→there kb S.D T i)∧e=.returned (.tuple #[Xg (aM kb S.D T 24),.bool true]))∨((¬∀i,i<24→there kb S.D T i)∧e=.returned (.tuple #[Xg (fun _=>⟨#[]⟩),.bool false])))∧Since w w':=by
 have HB:=hid B;have H:=hid h;clear h B;have hC:=Tw.dP T w;have hR:=Tw.fJ hC;unfold aY;generalize (ak 73 (ae T)).toArray=cs0 at *;have hsz:(w.alloc (.cells cs0 72)).heap.size=w.heap.size+1:=World.size_alloc _ _;have hsz2:((w.alloc (.cells cs0 72)).alloc (.cells z24 73)).heap.size=w.heap.size+1+1:=by rw[World.size_alloc,hsz]
 have kN:Hid (Since (w.alloc (.cells cs0 72)) (((w.alloc (.cells cs0 72)).alloc (.cells z24 73)).alloc (.cells z24 73))):=((Since.refl _).alloc _).alloc _;have HS:Hid (Since w (((w.alloc (.cells cs0 72)).alloc (.cells z24 73)).alloc (.cells z24 73))):=(((Since.refl w).alloc _).alloc _).alloc _;have HR1:Hid (aA (((w.alloc (.cells cs0 72)).alloc (.cells z24 73)).alloc (.cells z24 73)) (w.heap.size+1) 24 (aW (fun _=>⟨#[]⟩))):=(si _ _ hsz.symm).since ((Since.refl _).alloc _);have rU:Hid (aA (((w.alloc (.cells cs0 72)).alloc (.cells z24 73)).alloc (.cells z24 73)) (w.heap.size+1+1) 24 (aW (aM kb S.D T 0))):=(si _ _ hsz2.symm).congr (fun j hj=>by unfold aW aM;rw[if_neg (by omega)]);have yZ:=dm hR kN.o;clear hC hR kN;have hL:(ak 72 (aU T)).length=72:=ax _ _
 have NL:Hid (∀(k:Nat) (hk:k<24) (w:World),(Instr.index 70 (.agg (ak 72 (aU T)).toArray) (.int .i64 (k:Int))).run Tryz.prog w=.ok (.agg #[.int .i64 (T.az k),.int .i64 (T.off k),.string (T.tag k)]) w):=fun k hk w=>Tw.gX T k hk w
 generalize hcs:ak 72 (aU T)=cs at *;clear hcs;have vG:z24=#[.string ⟨#[]⟩,.string ⟨#[]⟩,.string ⟨#[]⟩,.string ⟨#[]⟩,.string ⟨#[]⟩,.string ⟨#[]⟩,.string ⟨#[]⟩,.string ⟨#[]⟩,.string ⟨#[]⟩,.string ⟨#[]⟩,.string ⟨#[]⟩,.string ⟨#[]⟩,.string ⟨#[]⟩,.string ⟨#[]⟩,.string ⟨#[]⟩,.string ⟨#[]⟩,.string ⟨#[]⟩,.string ⟨#[]⟩,.string ⟨#[]⟩,.string ⟨#[]⟩,.string ⟨#[]⟩,.string ⟨#[]⟩,.string ⟨#[]⟩,.string ⟨#[]⟩]:=rfl;rw[vG] at HS HR1 rU yZ;go_enter Tryz.func226,Tryz.ntmps226
 go_wp2_with (refine wpList_load_mid (by rfl) 70 _ (by rfl) w.heap.size 1 (by rfl) _ _ yZ Tryz.underlying70 (by rfl) (by rw[hL];kernel_rfl) ?_)
 rw[←vG] at HS HR1 rU yZ;rw[←vG];clear yZ hL vG hsz hsz2;generalize (((w.alloc (.cells cs0 72)).alloc (.cells z24 73)).alloc (.cells z24 73))=w1 at *;go_loopw [15,7,8,9,10,11,12] (fun i _ _ _ _ _ _ wr=>∃k:Nat,k≤24∧i=.int .i64 k∧(∀i,i<k→there kb S.D T i)∧aA wr (w.heap.size+1) 24 (aW (fun _=>⟨#[]⟩))∧aA wr (w.heap.size+1+1) 24 (aW (aM kb S.D T k))∧Since w wr) (fun i _ _ _ _ _ _ _=>24-(intOf i).toNat)
 case atStart=>exact⟨0,by omega,rfl,fun i hi=>by omega,HR1.o,rU.o,HS.o⟩
 clear HR1 rU HS;obtain⟨k,hk,rfl,hth,hr1,hx1,hs1⟩:=hrel;have HTH:=hid hth;have HR:=hid hr1;have HX:=hid hx1;have HS:=hid hs1;clear hth hr1 hx1 hs1;by_cases hlt:k<24
 ·have hlt2:(k:Int)<24:=by omega
  have hix:=NL.o k hlt;by_cases te:T.tag k=⟨#[]⟩
  ·have OZ:=hid te;rw[te] at hix;clear te;go_wp2_with fail
   go_roundw
   case rel=>
    refine⟨k+1,by omega,by go_num,fun i hi=>?_,HR.o.since ((Since.refl _).alloc _),(HX.o.congr (fun j _=>Af kb S.D T k OZ.o j)).since ((Since.refl _).alloc _),HS.o.alloc _⟩;by_cases e:i=k
    ·subst e;exact Or.inl OZ.o
    exact HTH.o i (by omega)
   case measure=>simp[intOf];omega
  obtain⟨g1,g2⟩:=uk te;have OZ:=hid te;clear te;go_wp2_with fail
  have nO:Hid (aA (wr.alloc (.cells #[.int .i64 (T.az k),.int .i64 (T.off k),.string (T.tag k)] 69)) wr.heap.size 3 (fun j=>if j=0 then .int .i64 (T.az k) else if j=1 then .int .i64 (T.off k) else .string (T.tag k))):=aA.new wr _ _ _ _ (fun j hj=>by
   match j,hj with
   | 0,_=>rfl
   | 1,_=>rfl
   | 2,_=>rfl) _ rfl
  have HS2:Hid (Since wr (wr.alloc (.cells #[.int .i64 (T.az k),.int .i64 (T.off k),.string (T.tag k)] 69)).drew):=((Since.refl wr).alloc _).drew;generalize hw2:wr.alloc (.cells #[.int .i64 (T.az k),.int .i64 (T.off k),.string (T.tag k)] 69)=w2 at *;clear hw2;have jR:Hid (aA w2.drew wr.heap.size 3 (fun j=>if j=0 then .int .i64 (T.az k) else if j=1 then .int .i64 (T.off k) else .string (T.tag k))):=nO.o.since (Since.refl _).drew;have H3:=hid (H.o.go (HS.o.trans HS2.o));have bQ:(fun W:World=>W.cell? ⟨vb,0,none⟩=some (.pointer (some ⟨db,0,none⟩))∧W.cell? ⟨wr.heap.size,0,none⟩=some (.int .i64 (T.az k))∧W.cell? ⟨wr.heap.size,1,none⟩=some (.int .i64 (T.off k))) w2.drew:=⟨H3.o.c0,jR.o.cell 0 (by omega),jR.o.cell 1 (by omega)⟩
  refine wp_region_held (S:=fun W:World=>W.cell? ⟨vb,0,none⟩=some (.pointer (some ⟨db,0,none⟩))∧W.cell? ⟨wr.heap.size,0,none⟩=some (.int .i64 (T.az k))∧W.cell? ⟨wr.heap.size,1,none⟩=some (.int .i64 (T.off k))) (by kernel_rfl) ?_;refine Tw.tk 0 23 bQ ?_;refine Tw.tk 1 24 bQ ?_;refine Tw.tk 2 25 bQ ?_;refine Tw.tk 3 26 bQ ?_;refine Tw.tk 4 27 bQ ?_;refine Tw.tk 5 28 bQ ?_;refine Tw.tk 6 29 bQ ?_;refine Tw.tk 7 30 bQ ?_;refine Tw.ry 8 (fun K hK=>?_);rw[if_pos (by rfl)];go_simp
  refine(OY (T.az k) (T.off k) H3.o.dev).mono ?_;rintro e w3 ⟨rfl,hw3⟩;rw[hw3];clear hw3 w3;simp only[];refine hK.out _ _ bQ (fun _=>?_);clear hK K;refine Tw.nz ?_;refine Tw.tk 9 22 bQ ?_;refine Tw.tk 10 32 bQ ?_;refine Tw.tk 11 33 bQ ?_;refine Tw.tk 12 9 bQ ?_;refine Tw.tk 13 10 bQ ?_;refine wpAnyH_done (by kernel_rfl) ?_ _;clear bQ g1 g2 hix nO;have dZ:=hid (HS.o.trans HS2.o);have HR3:=hid (HR.o.since HS2.o);have ML:=hid (HX.o.since HS2.o);clear HS HR HX HS2;generalize w2.drew=w3 at *;by_cases hz:0≤T.az k∧T.az k<8∧0≤T.off k∧T.off k<S.D.cnt (T.az k).toNat
  ·have e1:MM S.D (T.az k) (T.off k)=(gm S.D (T.az k) (T.off k),0):=by
    unfold MM;rw[if_neg (fun q=>q ⟨hz.1,hz.2.1⟩),if_neg (fun q=>q ⟨hz.2.2.1,hz.2.2.2⟩)]
   rw[e1,uK];have HZ:=hid hz;have Mw:Hid ((gm S.D (T.az k) (T.off k)).size=128):=bG _ _;have ul:Hid (there kb S.D T k↔((gm S.D (T.az k) (T.off k)).extract 0 16=Sl.kT kb k (gm S.D (T.az k) (T.off k))∧(gm S.D (T.az k) (T.off k)).extract 0 16=T.tag k)):=by
    constructor
    ·rintro (q | q)
     ·exact absurd q OZ.o
     exact q.2
    exact fun q=>Or.inr ⟨HZ.o,q⟩
   have Zz:Hid (∀j,aJ (aW (aM kb S.D T k)) k (.string (Sl.textOf kb (gm S.D (T.az k) (T.off k)))) j=aW (aM kb S.D T (k+1)) j):=fun j=>El kb S.D T k _ (by rw[if_neg OZ.o]) j
   clear hz e1;have q2:=H3.o.c2;have qt:w3.cell? ⟨wr.heap.size,2,none⟩=some (.string (T.tag k)):=jR.o.cell 2 (by omega);generalize hbb:gm S.D (T.az k) (T.off k)=bb at *;clear hbb;by_cases hg:bb.extract 0 16=Sl.kT kb k bb
   ·go_wp2_with fail
    refine(Sl.Mr kb k bb _ HB.o.kb (by have:=Mw.o;omega) (by have:=Mw.o;omega) hg (H3.o.SN HB.o)).mono ?_;rintro e w4 ⟨rfl,h4⟩;have fO:=hid (dZ.o.trans h4);have HR4:=hid (HR3.o.since h4);have HX4:=hid (ML.o.since h4);have qt4:w4.cell? ⟨wr.heap.size,2,none⟩=some (.string (T.tag k)):=(jR.o.since h4).cell 2 (by omega);have HG:=hid hg;clear h4 hg qt q2 dZ HR3 ML jR H3;by_cases Pb:bb.extract 0 16=T.tag k
    ·have HTK:=hid (ul.o.2 ⟨HG.o,Pb⟩);rw[Pb];clear Pb ul HG;generalize Sl.textOf kb bb=tx at *;have qx:=HX4.o.cell k hlt;have qf:=HX4.o.frozen k hlt;go_wp2_with fail
     go_roundw
     case rel=>
      refine⟨k+1,by omega,by go_num,fun i hi=>?_,HR4.o.other (by show w.heap.size+1+1≠w.heap.size+1;omega) _,(HX4.o.set k hlt _).congr (fun j _=>Zz.o j),fO.o.setCell (by show w.heap.size≤w.heap.size+1+1;omega) _⟩;by_cases e:i=k
      ·subst e;exact HTK.o
      exact HTH.o i (by omega)
     case measure=>simp[intOf];omega
    have hnl:=Tw.fD Pb;have Ta:Hid (¬∀i,i<24→there kb S.D T i):=fun q=>Pb (ul.o.1 (q k hlt)).2
    clear Pb ul HG;generalize Sl.textOf kb bb=tx at *;generalize bb.extract 0 16=tg at *;have uH:=xI HR4.o;have hth:=BQ HR4.o;have rF:=hid (xH uH);have iL:Hid (Since w (w4.setCells (w.heap.size+1) 0 z24.toList)):=fO.o.setCells (by omega) _ _;clear uH;go_wp2_with (refine wpList_store_mid (by rfl) 73 _ _ (by rfl) (w.heap.size+1) 0 z24 (by rfl) (by rfl) hth (by kernel_rfl) (by kernel_rfl) ?_)
    exact bodyPost_ret (Tw.aR Tryz.results226 _ _ _ (w.heap.size+1) _ _ _ (by rfl) rF.o Tryz.underlying73 (by rfl) (by rw[Jn];kernel_rfl) rfl) rfl ⟨Or.inr ⟨Ta.o,rfl⟩,iL.o⟩
   have Ta:Hid (¬∀i,i<24→there kb S.D T i):=fun q=>hg (ul.o.1 (q k hlt)).1
   go_wp2_with fail
   refine(Sl.Ra kb k bb _ HB.o.kb (by have:=Mw.o;omega) (by have:=Mw.o;omega) hg (H3.o.SN HB.o)).mono ?_;rintro e w4 ⟨rfl,h4⟩;have fO:=hid (dZ.o.trans h4);have HR4:=hid (HR3.o.since h4);clear h4 hg qt q2 dZ HR3 ML jR H3 ul Zz;have uH:=xI HR4.o;have hth:=BQ HR4.o;have rF:=hid (xH uH);have iL:Hid (Since w (w4.setCells (w.heap.size+1) 0 z24.toList)):=fO.o.setCells (by omega) _ _;clear uH;go_wp2_with (refine wpList_store_mid (by rfl) 73 _ _ (by rfl) (w.heap.size+1) 0 z24 (by rfl) (by rfl) hth (by kernel_rfl) (by kernel_rfl) ?_)
   exact bodyPost_ret (Tw.aR Tryz.results226 _ _ _ (w.heap.size+1) _ _ _ (by rfl) rF.o Tryz.underlying73 (by rfl) (by rw[Jn];kernel_rfl) rfl) rfl ⟨Or.inr ⟨Ta.o,rfl⟩,iL.o⟩
  obtain⟨er,he1,he2⟩:∃er:Int,MM S.D (T.az k) (T.off k)=(⟨#[]⟩,er)∧er≠0:=by
   unfold MM;by_cases h8:0≤T.az k∧T.az k<8
   ·rw[if_neg (fun q=>q h8)];rw[if_pos (fun q=>hz ⟨h8.1,h8.2,q.1,q.2⟩)];exact⟨7,rfl,by decide⟩
   rw[if_pos h8];exact⟨2,rfl,by decide⟩
  rw[he1,pO _ he2];have Ta:Hid (¬∀i,i<24→there kb S.D T i):=fun q=>by
   rcases q k hlt with h6 | h6
   ·exact OZ.o h6
   exact hz h6.1
  clear he1 he2 hz;have uH:=xI HR3.o;have hth:=BQ HR3.o;have rF:=hid (xH uH);have iL:Hid (Since w (w3.setCells (w.heap.size+1) 0 z24.toList)):=dZ.o.setCells (by omega) _ _;clear uH;go_wp2_with (refine wpList_store_mid (by rfl) 73 _ _ (by rfl) (w.heap.size+1) 0 z24 (by rfl) (by rfl) hth (by kernel_rfl) (by kernel_rfl) ?_)
  exact bodyPost_ret (Tw.aR Tryz.results226 _ _ _ (w.heap.size+1) _ _ _ (by rfl) rF.o Tryz.underlying73 (by rfl) (by rw[Jn];kernel_rfl) rfl) rfl ⟨Or.inr ⟨Ta.o,rfl⟩,iL.o⟩
 have hke:k=24:=by omega
 subst hke;have hR:=xH HX.o;have hL:=Jn (aM kb S.D T 24);obtain⟨hst,uH⟩:=sj HR.o (aM kb S.D T 24);have rF:=hid (xH uH);have iL:Hid (Since w (wr.setCells (w.heap.size+1) 0 (ak 24 (aW (aM kb S.D T 24))))):=HS.o.setCells (by omega) _ _;clear uH;have HV:Hid (Xg (aM kb S.D T 24)=.agg (ak 24 (aW (aM kb S.D T 24))).toArray):=show Xg (aM kb S.D T 24)=_ from rfl
 generalize ak 24 (aW (aM kb S.D T 24))=cs4 at *;go_wp2_with (refine wpList_load_mid (by rfl) 73 _ (by rfl) (w.heap.size+1+1) 0 (by rfl) _ _ hR Tryz.underlying73 (by rfl) (by rw[hL];kernel_rfl) ?_)
 exact bodyPost_ret (Tw.aR Tryz.results226 _ _ _ (w.heap.size+1) _ _ _ (by rfl) rF.o Tryz.underlying73 (by rfl) (by rw[hL];kernel_rfl) rfl) rfl ⟨Or.inl ⟨HTH.o,by rw[HV.o];rfl⟩,iL.o⟩
end
end Vl
end
section
namespace Vl
open Go.RowKit
open Tw (Tb ae aY aU)
def kV (kt s:ByteArray):Prop:=Tw.wJ s∧Tw.uG (Tw.rd s)=true∧Tw.text kt (Tw.rd s)=s.extract 0 456
theorem Pf (kt s:ByteArray)(w:World)(hk:kt.size=32)(hs:s.size=500)(hT:Sm.kM w) :
  Calls Tryz.prog 225 #[.string kt,.string s] w fun e w'=>((kV kt s∧e=.returned (.tuple #[aY (Tw.rd s),.nilIface]))∨(¬kV kt s∧e=.returned (.tuple #[aY Tb.zero,.iface 32 (.int .i64 15)])))∧Since w w':=by
 by_cases ht:Tw.wJ s
 ·by_cases hr:Tw.uG (Tw.rd s)=true
  ·by_cases he:Tw.text kt (Tw.rd s)=s.extract 0 456
   ·refine(Tw.qH kt s w hk (by omega) (by omega) ht hT (Tw.text kt (Tw.rd s)) .nilIface _ (fun W hW=>Tw.wV kt (Tw.rd s) W hk ((Tw.mF _).1 hr) hW) (Or.inr (Or.inr ⟨rfl,he,rfl⟩))).mono ?_;rintro e w' ⟨rfl,h⟩;exact⟨Or.inl ⟨⟨ht,hr,he⟩,rfl⟩,h⟩
   refine(Tw.qH kt s w hk (by omega) (by omega) ht hT (Tw.text kt (Tw.rd s)) .nilIface _ (fun W hW=>Tw.wV kt (Tw.rd s) W hk ((Tw.mF _).1 hr) hW) (Or.inr (Or.inl ⟨rfl,he,rfl⟩))).mono ?_;rintro e w' ⟨rfl,h⟩;exact⟨Or.inr ⟨fun q=>he q.2.2,rfl⟩,h⟩
  have hr2:Tw.uG (Tw.rd s)=false:=by simpa using hr
  refine(Tw.qH kt s w hk (by omega) (by omega) ht hT ⟨#[]⟩ (.iface 32 (.int .i64 1)) _ (fun W hW=>Tw.NM kt (Tw.rd s) W hk hr2) (Or.inl ⟨rfl,rfl⟩)).mono ?_;rintro e w' ⟨rfl,h⟩;exact⟨Or.inr ⟨fun q=>hr q.2.1,rfl⟩,h⟩
 refine(Tw.Il kt s w hk (by omega) (by omega) ht).mono ?_;rintro e w' ⟨rfl,h⟩;exact⟨Or.inr ⟨fun q=>ht q.1,rfl⟩,h⟩
theorem Ag (D:Dv)(n:Int):(aX D n).size=500:=bG _ _
theorem Jp (db cb:Nat)(kb kt:ByteArray)(T U:Tb)(X Y:Nat→ByteArray)(f:Bool)(j:Nat)(hj:j<102) :
  fP (dR db cb kb kt T X f) 77 24 (aW Y) j=dR db cb kb kt T Y f j:=by
 unfold fP;by_cases h:77≤j∧j<77+24
 ·rw[if_pos h];have:=qM db cb kb kt T Y f (j-77) (by omega);rw[show 77+(j-77)=j by omega] at this;rw[this]
  rfl
 rw[if_neg h];unfold dR;by_cases h4:j<77
 ·simp only[if_pos h4]
 have h5:¬j<101:=by omega
 simp only[if_neg h4,if_neg h5]
theorem dw {w:World}{b o b':Nat}{l:List Value}(h:w.rangeAt b o l)(hb:b'≠b)(o':Nat)(vs:List Value):(w.setCells b' o' vs).rangeAt b o l:=fun j x hj=>by
 rw[World.cell?_setCells_out b' _ o' w _ (fun e _=>absurd e.symm hb)];exact h j x hj
section
variable {w0 w:World} {vb db cb:Nat} {kb kt:ByteArray} {S:Vs} {v:Value}
theorem su (B:Base w0 kb kt)(n:Int)(hn:0≤n)(h:dL w0 w vb db cb kb kt S v) :
  Calls Tryz.prog 159 #[.pointer (some ⟨vb,0,none⟩),.int .i64 n] w fun e w'=>(whole kb kt S.D n∧e=.returned (.bool true)∧dB w0 w w' vb db cb kb kt { S with T:=dz S.D n,X:=aM kb S.D (dz S.D n) 24 } v)∨(¬whole kb kt S.D n∧e=.returned (.bool false)∧Since w w'):=by
 have HB:=hid B;have H:=hid h;have hn1:0≤n:=hn;obtain⟨kk,hkk,hk2⟩:∃k:Nat,n % 2=k∧k<2:=⟨(n % 2).toNat,by omega,by omega⟩
 have HKK:=hid (an hkk hk2);have HST:Hid (aX S.D n=txt 500 (S.D.aL kk (fun _=>true))):=by
  show aX S.D n=_
  unfold aX;rw[hkk,Int.toNat_natCast]
 clear hkk hk2 h B hn;go_enter Tryz.func159,Tryz.ntmps159
 go_wp2_with fail
 have H1:Hid (dL w0 w.drew vb db cb kb kt S v):=H.o.go (Since.refl _).drew;have hS1:(fun W:World=>W.cell? ⟨vb,0,none⟩=some (.pointer (some ⟨db,0,none⟩))) w.drew:=H1.o.c0;refine wp_region_held (S:=fun W:World=>W.cell? ⟨vb,0,none⟩=some (.pointer (some ⟨db,0,none⟩))) (by kernel_rfl) ?_;refine Tw.tk 0 11 hS1 ?_;refine Tw.tk 1 12 hS1 ?_;refine Tw.tk 2 13 hS1 ?_;refine Tw.tk 3 14 hS1 ?_;refine Tw.tk 4 15 hS1 ?_;refine Tw.ry 5 (fun K hK=>?_);rw[if_pos (by rfl)];go_simp
 refine(mQ n _ hn1).mono ?_;rintro e w1 ⟨rfl,hw1⟩;rw[hw1];clear hw1 w1;simp only[];refine hK.out _ _ hS1 (fun _=>?_);clear hK K;refine Tw.nz ?_;refine Tw.ry 6 (fun K hK=>?_);rw[if_pos (by rfl)];go_simp
 rw[HKK.o.1];refine(Bb S.D v db kk _ H1.o.dev HKK.o.2).mono ?_;rintro e w2 ⟨rfl,h2⟩;simp only[];have H2:=hid (H1.o.go h2);have HS2:Hid (Since w w2):=(Since.refl _).drew.trans h2;have hS2:(fun W:World=>W.cell? ⟨vb,0,none⟩=some (.pointer (some ⟨db,0,none⟩))) w2:=H2.o.c0;clear h2;refine hK.out _ _ hS2 (fun _=>?_);clear hK K;refine Tw.nz ?_;refine Tw.tk 7 10 hS2 ?_;refine Tw.tk 8 18 hS2 ?_;refine Tw.tk 9 19 hS2 ?_;refine Tw.tk 10 5 hS2 ?_;refine Tw.tk 11 6 hS2 ?_;refine wpAnyH_done (by kernel_rfl) ?_ _;rw[←HST.o];clear hS1 hS2 H1;have Em:Hid (whole kb kt S.D n↔(kV kt (aX S.D n)∧(dz S.D n).count=n)∧∀i,i<24→there kb S.D (dz S.D n) i):=by
  show whole kb kt S.D n↔_
  unfold whole Eb kV dz;constructor
  ·rintro ⟨⟨a,b,c,d⟩,e⟩;exact⟨⟨⟨a,b,c⟩,d⟩,e⟩
  rintro ⟨⟨⟨a,b,c⟩,d⟩,e⟩;exact⟨⟨a,b,c,d⟩,e⟩
 have HZ:Hid ((aX S.D n).size=500):=Ag _ _;have HTA:Hid (Tw.rd (aX S.D n)=dz S.D n):=show Tw.rd (aX S.D n)=dz S.D n from rfl
 have MO:Hid (∀W,Sm.kM W→Calls Tryz.prog 225 #[.string kt,.string (aX S.D n)] W fun e w'=>((kV kt (aX S.D n)∧e=.returned (.tuple #[aY (dz S.D n),.nilIface]))∨(¬kV kt (aX S.D n)∧e=.returned (.tuple #[aY Tb.zero,.iface 32 (.int .i64 15)])))∧Since W w'):=fun W hW=>Pf kt (aX S.D n) W HB.o.kt HZ.o hW
 generalize aX S.D n=sl at *;generalize hTT:dz S.D n=T at *;have YI:=hid hTT;clear hTT;have q3:=H2.o.c3;go_wp2_with fail
 refine(MO.o _ (H2.o.SN HB.o)).mono ?_;rintro e w3 ⟨hor,h3⟩;have H3:=hid (H2.o.go h3);have dZ:=hid (HS2.o.trans h3);clear h3 q3 H2 HS2 MO;rcases hor with⟨xJ,rfl⟩ | ⟨xJ,rfl⟩
 ·have a0f:=hid xJ;clear xJ;have gW:=Tw.bA w3 w3.heap.size rfl;obtain⟨hst,tF⟩:=Tw.di gW T;have qZ:=hid tF;have fO:Hid (Since w3 ((w3.alloc (.cells Tryz.zeroCells72 72)).setCells w3.heap.size 0 (ak 73 (ae T)))):=((Since.refl w3).alloc _).setCells (Nat.le_refl _) _ _;clear gW tF;have c0:((w3.alloc (.cells Tryz.zeroCells72 72)).setCells w3.heap.size 0 (ak 73 (ae T))).cell? ⟨w3.heap.size,0,none⟩=some (.int .i64 T.count):=qZ.o.cell 0 (by omega);have hL:=Tw.jc T;have hV:aY T=.agg (ak 73 (ae T)).toArray:=rfl;rw[hV]
  have Ah:Hid (∀W,dL w0 W vb db cb kb kt S v→Calls Tryz.prog 226 #[.pointer (some ⟨vb,0,none⟩),.agg (ak 73 (ae T)).toArray] W fun e w'=>(((∀i,i<24→there kb S.D T i)∧e=.returned (.tuple #[.agg (ak 24 (aW (aM kb S.D T 24))).toArray,.bool true]))∨((¬∀i,i<24→there kb S.D T i)∧e=.returned (.tuple #[.agg (ak 24 (aW (fun _=>⟨#[]⟩))).toArray,.bool false])))∧Since W w'):=fun W hW=>Jo HB.o T hW
  clear hV;have OU:=Tw.bJ qZ.o;generalize hcs:ak 73 (ae T)=cs at *;have BN:=hid hcs;clear hcs;generalize ((w3.alloc (.cells Tryz.zeroCells72 72)).setCells w3.heap.size 0 cs)=w4 at *;have H4:=hid (H3.o.go fO.o);have jX:=hid (dZ.o.trans fO.o);by_cases hc:T.count=n
  ·have HCN:=hid hc;rw[hc] at c0;clear hc;go_wp2_with (refine wpList_load_mid (by rfl) 72 _ (by rfl) w3.heap.size 0 (by rfl) _ _ OU Tryz.underlying72 (by rfl) (by rw[hL];kernel_rfl) ?_)
   refine(Ah.o _ H4.o).mono ?_;rintro e w5 ⟨hor,h5⟩;have iM:=hid (qZ.o.since h5);have H5:=hid (H4.o.go h5);have iL:=hid (jX.o.trans h5);have HN5:Hid (vb≠w3.heap.size∧vb<w5.heap.size):=by
    refine⟨fun e=>?_,H5.o.aQ.lt (by omega)⟩;have:=H3.o.aQ.lt (by omega);omega
   clear h5 OU c0 hst qZ fO H4 jX Ah H3 dZ;rcases hor with⟨hth,rfl⟩ | ⟨hth,rfl⟩
   ·have HW:Hid (whole kb kt S.D n):=Em.o.2 ⟨⟨a0f.o,HCN.o⟩,hth⟩;clear hth Em;have hzc:=si w5 w5.heap.size rfl;have uH:=(sj hzc (aM kb S.D T 24)).2;have hL5:=Jn (aM kb S.D T 24);have h15:(ak 24 (aW (aM kb S.D T 24))).toArray.all (·.oneCell')=true:=all_oneCell_toArray (lu _ _ (fun j _=>lT _ j));have Xh:(w5.alloc (.cells z24 73)).there w5.heap.size 0 (ak 24 (aW (aM kb S.D T 24))).toArray.size:=by
     have e5:∀l:List Value,l.length=24→l.toArray.size=24:=fun l hl=>by rw[List.size_toArray];exact hl
     rw[e5 _ hL5];exact hzc.there 0 24 (by omega)
    have Hd:=hid uH;have mH:Hid (Since w5 ((w5.alloc (.cells z24 73)).setCells w5.heap.size 0 (ak 24 (aW (aM kb S.D T 24))))):=((Since.refl w5).alloc _).setCells (Nat.le_refl _) _ _;clear hzc uH;generalize hcx:ak 24 (aW (aM kb S.D T 24))=cx at *;have HCX:=hid hcx;clear hcx;go_wp2_with (refine wpList_store_mid (by rfl) 73 _ _ (by rfl) w5.heap.size 0 cx.toArray (by rfl) (by rfl) Xh (by rw[List.size_toArray,hL5];kernel_rfl) h15 ?_)
    have vG:z24=#[.string ⟨#[]⟩,.string ⟨#[]⟩,.string ⟨#[]⟩,.string ⟨#[]⟩,.string ⟨#[]⟩,.string ⟨#[]⟩,.string ⟨#[]⟩,.string ⟨#[]⟩,.string ⟨#[]⟩,.string ⟨#[]⟩,.string ⟨#[]⟩,.string ⟨#[]⟩,.string ⟨#[]⟩,.string ⟨#[]⟩,.string ⟨#[]⟩,.string ⟨#[]⟩,.string ⟨#[]⟩,.string ⟨#[]⟩,.string ⟨#[]⟩,.string ⟨#[]⟩,.string ⟨#[]⟩,.string ⟨#[]⟩,.string ⟨#[]⟩,.string ⟨#[]⟩]:=rfl;rw[←vG];clear vG Xh h15;generalize (w5.alloc (.cells z24 73)).setCells w5.heap.size 0 cx=w6 at *;have H6:Hid (dL w0 w6.drew vb db cb kb kt S v):=(H5.o.go mH.o).go (Since.refl _).drew;have MP:=hid ((iL.o.trans mH.o).drew);have rF:Hid (w6.drew.rangeAt w3.heap.size 0 cs):=by
     have:=Tw.bJ (iM.o.since (mH.o.trans (Since.refl w6).drew));rw[BN.o] at this;exact this
    have Tc:Hid (w6.drew.rangeAt w5.heap.size 0 cx):=by
     have:=xH (Hd.o.since (Since.refl w6).drew);rw[HCX.o] at this;exact this
    have Xi:=H6.o.aQ.store Tryz.prog 4 73 (by omega) (ae T) (fun j _=>Tw.jd _ j);rw[BN.o] at Xi;have Qw:Hid (aA (w6.drew.setCells vb 4 cs) vb 102 (dR db cb kb kt T S.X S.dead)):=by
     have:=(H6.o.aQ.setRow 4 73 (by omega) (ae T)).congr (fun j hj=>xG db cb kb kt S.T T S.X S.dead j hj);rw[BN.o] at this;exact this
    have Xj:=Qw.o.store Tryz.prog 77 24 (by omega) (aW (aM kb S.D T 24)) (fun j _=>lT _ j);rw[HCX.o] at Xj;have HC8:Hid (aA ((w6.drew.setCells vb 4 cs).setCells vb 77 cx) vb 102 (dR db cb kb kt T (aM kb S.D T 24) S.dead)):=by
     have:=(Qw.o.setRow 77 24 (by omega) (aW (aM kb S.D T 24))).congr (fun j hj=>Jp db cb kb kt T T S.X (aM kb S.D T 24) S.dead j hj);rw[HCX.o] at this;exact this
    have HF8:Hid (Fr vb none w6.drew ((w6.drew.setCells vb 4 cs).setCells vb 77 cx)):=(Fr.setCells _ _ _ _ _).trans' (Fr.setCells _ _ _ _ _);have a0h:Hid (Ty ((w6.drew.setCells vb 4 cs).setCells vb 77 cx) vb 165):=Ty.setCells _ _ _ _ (Ty.setCells _ _ _ _ H6.o.ty);have Cv:Hid (vb≠w3.heap.size∧vb≠w5.heap.size):=⟨HN5.o.1,by have:=HN5.o.2;omega⟩
    have gH:(fun W:World=>W.rangeAt w3.heap.size 0 cs∧W.rangeAt w5.heap.size 0 cx) w6.drew:=⟨rF.o,Tc.o⟩
    have Td:Hid ((fun W:World=>W.rangeAt w3.heap.size 0 cs∧W.rangeAt w5.heap.size 0 cx) (w6.drew.setCells vb 4 cs)):=⟨dw rF.o Cv.o.1 _ _,dw Tc.o Cv.o.2 _ _⟩
    have Te:Hid ((fun W:World=>W.rangeAt w3.heap.size 0 cs∧W.rangeAt w5.heap.size 0 cx) ((w6.drew.setCells vb 4 cs).setCells vb 77 cx)):=⟨dw (dw rF.o Cv.o.1 _ _) Cv.o.1 _ _,dw (dw Tc.o Cv.o.2 _ _) Cv.o.2 _ _⟩
    clear iM Hd mH iL H5 HN5;refine wp_region_held (S:=fun W:World=>W.rangeAt w3.heap.size 0 cs∧W.rangeAt w5.heap.size 0 cx) (by kernel_rfl) ?_;refine Tw.tk 0 47 gH ?_;refine Tw.tk 1 48 gH ?_;refine Tw.takeD (i:=2) (d:=49) (v:=.agg cs.toArray) rfl rfl (by kernel_rfl) (by kernel_rfl) (by kernel_rfl) (fun _ _ _ h=>h) (yieldsIf_load_mid (by rfl) 72 _ (by rfl) w3.heap.size 0 (by rfl) _ _ (fun w hSw=>hSw.1) Tryz.underlying72 (by rfl) (by rw[hL];kernel_rfl)) gH ?q18;simp only[Act.put,List.setIfInBounds_toArray,List.set_cons_zero,List.set_cons_succ];refine Tw.takeD (i:=3) (d:=50) (v:=.agg cx.toArray) rfl rfl (by kernel_rfl) (by kernel_rfl) (by kernel_rfl) (fun _ _ _ h=>h) (yieldsIf_load_mid (by rfl) 73 _ (by rfl) w5.heap.size 0 (by rfl) _ _ (fun w hSw=>hSw.2) Tryz.underlying73 (by rfl) (by rw[hL5];kernel_rfl)) gH ?q19
    simp only[Act.put,List.setIfInBounds_toArray,List.set_cons_zero,List.set_cons_succ];refine Tw.tk 4 51 gH ?_;refine Tw.tk 5 52 gH ?_;refine Tw.ry 6 (fun K hK=>?_);rw[if_pos (by rfl)];go_simp
    have sU:(fun W:World=>W.rangeAt w3.heap.size 0 cs∧W.rangeAt w5.heap.size 0 cx) (w6.drew.setCells vb 4 cs):=Td.o;refine hK.out _ _ sU (fun _=>?_);clear hK K;refine Tw.nz ?_;refine Tw.tk 7 53 sU ?_;refine Tw.tk 8 54 sU ?_;refine Tw.ry 9 (fun K hK=>?_);rw[if_pos (by rfl)];go_simp
    have Ad:(fun W:World=>W.rangeAt w3.heap.size 0 cs∧W.rangeAt w5.heap.size 0 cx) ((w6.drew.setCells vb 4 cs).setCells vb 77 cx):=Te.o;refine hK.out _ _ Ad (fun _=>?_);clear hK K;refine Tw.nz ?_;refine wpAnyH_done (by kernel_rfl) ?_ _;clear Xi Xj gH sU Ad Td Te;generalize (w6.drew.setCells vb 4 cs).setCells vb 77 cx=w7 at *;go_wp2_with fail
    go_ret;rw[YI.o];exact Or.inl ⟨HW.o,rfl,dB.pre MP.o (H6.o.nJ HC8.o HF8.o a0h.o)⟩
   have HW:Hid (¬whole kb kt S.D n):=fun q=>hth (Em.o.1 q).2
   clear hth Em;have hzc:=si w5 w5.heap.size rfl;have uH:=(sj hzc (fun _=>⟨#[]⟩)).2;have hL5:=Jn (fun _=>⟨#[]⟩);have h15:(ak 24 (aW (fun _=>⟨#[]⟩))).toArray.all (·.oneCell')=true:=all_oneCell_toArray (lu _ _ (fun j _=>lT _ j));have Xh:(w5.alloc (.cells z24 73)).there w5.heap.size 0 (ak 24 (aW (fun _=>⟨#[]⟩))).toArray.size:=by
    have e5:∀l:List Value,l.length=24→l.toArray.size=24:=fun l hl=>by rw[List.size_toArray];exact hl
    rw[e5 _ hL5];exact hzc.there 0 24 (by omega)
   have Hd:=hid uH;have mH:Hid (Since w5 ((w5.alloc (.cells z24 73)).setCells w5.heap.size 0 (ak 24 (aW (fun _=>⟨#[]⟩))))):=((Since.refl w5).alloc _).setCells (Nat.le_refl _) _ _;clear hzc uH;generalize hcx:ak 24 (aW (fun _=>⟨#[]⟩))=cx at *;have HCX:=hid hcx;clear hcx;have MP:=hid (iL.o.trans mH.o);go_wp2_with (refine wpList_store_mid (by rfl) 73 _ _ (by rfl) w5.heap.size 0 cx.toArray (by rfl) (by rfl) Xh (by rw[List.size_toArray,hL5];kernel_rfl) h15 ?_)
   go_ret;exact Or.inr ⟨HW.o,rfl,MP.o⟩
  have HW:Hid (¬whole kb kt S.D n):=fun q=>hc (Em.o.1 q).1.2
  go_wp2_with fail
  go_ret;exact Or.inr ⟨HW.o,rfl,jX.o⟩
 have HW:Hid (¬whole kb kt S.D n):=fun q=>xJ (Em.o.1 q).1.1
 clear xJ Em;have gW:=Tw.bA w3 w3.heap.size rfl;obtain⟨hst,tF⟩:=Tw.di gW Tb.zero;have fO:Hid (Since w ((w3.alloc (.cells Tryz.zeroCells72 72)).setCells w3.heap.size 0 (ak 73 (ae Tb.zero)))):=(dZ.o.alloc _).setCells (dZ.o.size) _ _;clear gW tF;have hV:aY Tb.zero=.agg (ak 73 (ae Tb.zero)).toArray:=rfl;rw[hV];clear hV;have hL:=Tw.jc Tb.zero;generalize ak 73 (ae Tb.zero)=cs at *;go_wp2_with fail
 go_ret;exact Or.inr ⟨HW.o,rfl,fO.o⟩
end
end Vl
end
section
namespace Vl
open Go.RowKit
open Tw (Tb ae aY aU)
section
variable {w0 w:World} {vb db cb:Nat} {kb kt:ByteArray} {S:Vs} {v:Value}
def gM (kb kt:ByteArray)(S:Vs)(r:Int)(S':Vs):Prop:=
 (whole kb kt S.D (S.c+1)∧r=0∧S'={ S with T:=dz S.D (S.c+1),X:=aM kb S.D (dz S.D (S.c+1)) 24,c:=S.c+1 })∨(¬whole kb kt S.D (S.c+1)∧S.c=0∧r=0∧S'=S)∨(¬whole kb kt S.D (S.c+1)∧S.c≠0∧whole kb kt S.D S.c∧r=0∧S'={ S with T:=dz S.D S.c,X:=aM kb S.D (dz S.D S.c) 24 })∨(¬whole kb kt S.D (S.c+1)∧S.c≠0∧¬whole kb kt S.D S.c∧r=15∧S'=S)
theorem Jq (B:Base w0 kb kt)(hc:0≤S.c∧S.c<1000000000)(h:dL w0 w vb db cb kb kt S v) :
  Calls Tryz.prog 94 #[.pointer (some ⟨vb,0,none⟩)] w fun e w'=>∃r S',e=.returned (ev r)∧gM kb kt S r S'∧dB w0 w w' vb db cb kb kt S' v:=by
 have HB:=hid B;have H:=hid h;obtain⟨hc0,hc1⟩:=hc;have q1:=h.c1;have HT1:Hid (∀W V SS,dL w0 W vb db cb kb kt SS V→Calls Tryz.prog 159 #[.pointer (some ⟨vb,0,none⟩),.int .i64 (S.c+1)] W fun e w'=>(whole kb kt SS.D (S.c+1)∧e=.returned (.bool true)∧dB w0 W w' vb db cb kb kt { SS with T:=dz SS.D (S.c+1),X:=aM kb SS.D (dz SS.D (S.c+1)) 24 } V)∨(¬whole kb kt SS.D (S.c+1)∧e=.returned (.bool false)∧Since W w')):=fun W V SS hV=>su B (S.c+1) (by omega) hV
 have HT0:Hid (∀W V SS,dL w0 W vb db cb kb kt SS V→Calls Tryz.prog 159 #[.pointer (some ⟨vb,0,none⟩),.int .i64 S.c] W fun e w'=>(whole kb kt SS.D S.c∧e=.returned (.bool true)∧dB w0 W w' vb db cb kb kt { SS with T:=dz SS.D S.c,X:=aM kb SS.D (dz SS.D S.c) 24 } V)∨(¬whole kb kt SS.D S.c∧e=.returned (.bool false)∧Since W w')):=fun W V SS hV=>su B S.c hc0 hV
 clear h B;go_enter Tryz.func94,Tryz.ntmps94
 go_wp2_with fail
 refine(Mt.Bb cb S.c _ (H.o.iN.cell 0 (by omega))).mono ?_;rintro e wx ⟨rfl,hw⟩;rw[hw];clear hw wx;go_wp2_with fail
 refine(HT1.o _ _ _ H.o).mono ?_;rintro e w1 (⟨hw1,rfl,h1⟩ | ⟨hw1,rfl,h1⟩)
 ·have HW:=hid hw1;obtain⟨v1,h1v,F1⟩:=h1.cont;have H1:=hid h1v;have Qv:=hid F1;clear hw1 h1 h1v F1 q1;have q2:=H1.o.c1;go_wp2_with fail
  refine(Mt.CE cb S.c (S.c+1) _ (H1.o.iN.cell 0 (by omega)) (H1.o.iN.frozen 0 (by omega)) (by omega)).mono ?_;rintro e w2 ⟨rfl,h2⟩;have HT2:Hid (dB w0 w w2 vb db cb kb kt { S with T:=dz S.D (S.c+1),X:=aM kb S.D (dz S.D (S.c+1)) 24,c:=S.c+1 } v):=by
   rw[h2];exact Qv.o _ _ (H1.o.Ab (c':=S.c+1))
  clear h2;go_wp2_with fail
  go_ret;exact⟨0,_,by rw[uK];rfl,Or.inl ⟨HW.o,rfl,rfl⟩,HT2.o⟩
 have HW:=hid hw1;have H1:=hid (H.o.go h1);have cK:=hid h1;clear hw1 h1 q1;by_cases h0:S.c=0
 ·have HC:=hid h0;go_wp2_with fail
  go_ret;exact⟨0,S,by rw[uK];rfl,Or.inr (Or.inl ⟨HW.o,HC.o,rfl,rfl⟩),H1.o.self |> dB.pre cK.o⟩
 have HC:=hid h0;go_wp2_with fail
 refine(HT0.o _ _ _ H1.o).mono ?_;rintro e w2 (⟨hw2,rfl,h2⟩ | ⟨hw2,rfl,h2⟩)
 ·have HW2:=hid hw2;have HT2:=hid (dB.pre cK.o h2);clear hw2 h2;go_wp2_with fail
  go_ret;exact⟨0,_,by rw[uK];rfl,Or.inr (Or.inr (Or.inl ⟨HW.o,HC.o,HW2.o,rfl,rfl⟩)),HT2.o⟩
 have HW2:=hid hw2;have HS2:=hid (cK.o.trans h2);clear hw2 h2;go_wp2_with fail
 go_ret;exact⟨15,S,by rw[pO 15 (by decide)];rfl,Or.inr (Or.inr (Or.inr ⟨HW.o,HC.o,HW2.o,rfl,rfl⟩)),H.o.to HS2.o⟩
end
def dY (secret:ByteArray):ByteArray:=Mt.keyOf secret Mt.jA
def dM (secret:ByteArray):ByteArray:=Mt.keyOf secret Mt.jO
theorem mX (s u:ByteArray):(Mt.keyOf s u).size=32:=by
 unfold Mt.keyOf;rw[strOfNums_size]
 rfl
end Vl
end
section
namespace Vl
open Go.RowKit
open Tw (Tb ae aY aU)
def a4s (s k:ByteArray)(u:Int):Prop:=∀W,Sm.kM W→Calls Tryz.prog 157 #[.string s,.int .u8 u] W fun e w'=>e=.returned (.tuple #[.string k,.nilIface])∧Since W w'
theorem a7t (s:ByteArray)(h:s.size=16):a4s s (dY s) 98:=fun W hW=>Mt.ME s 98 Mt.jA W h (Or.inl ⟨rfl,rfl⟩) hW
theorem a7u (s:ByteArray)(h:s.size=16):a4s s (dM s) 116:=fun W hW=>Mt.ME s 116 Mt.jO W h (Or.inr ⟨rfl,rfl⟩) hW
theorem Pg (s:ByteArray)(w:World)(h:s.size=16)(hT:Sm.kM w) :
  Calls Tryz.prog 93 #[.string s] w fun e w'=>∃w1,e=.returned (.tuple #[.pointer (some ⟨w1.heap.size,0,none⟩),.nilIface])∧Since w w1∧w'=w1.alloc (.cells ((Tryz.zeroCells165.setIfInBounds 2 (.string (dY s))).setIfInBounds 3 (.string (dM s))) 165):=by
 have YU:=hid (a7t s h);have HKT:=hid (a7u s h);have HT:=hid hT;clear h hT;generalize dY s=kb at *;generalize dM s=kt at *;go_enter Tryz.func93,Tryz.ntmps93
 go_wp2_with fail
 refine(YU.o _ HT.o).mono ?_;rintro e w1 ⟨rfl,h1⟩;have cK:=hid h1;clear h1;go_wp2_with fail
 refine(HKT.o _ (HT.o.since cK.o)).mono ?_;rintro e w2 ⟨rfl,h2⟩;have HS2:=hid (cK.o.trans h2);clear h2;go_wp2_with fail
 go_ret2;exact⟨w2,rfl,HS2.o,rfl⟩
structure DC (w0 w:World)(db cb:Nat)(D:Dv)(c:Int)(v:Value):Prop where
 dev:Dev w db D v
 iN:aA w cb 1 (fun _=>.int .i64 c)
 ne:db≠cb
 own:v.ownBlock≠some cb
 since:Since w0 w
 lo:w0.heap.size≤db∧w0.heap.size≤cb∧∀k,v.ownBlock=some k→w0.heap.size≤k
theorem DC.go {w0 w w':World}{db cb:Nat}{D:Dv}{c:Int}{v:Value}(h:DC w0 w db cb D c v)(hs:Since w w'):DC w0 w' db cb D c v:=⟨h.dev.since hs,h.iN.since hs,h.ne,h.own,h.since.trans hs,h.lo⟩
theorem dL.dc {w0 w:World}{vb db cb:Nat}{kb kt:ByteArray}{S:Vs}{v:Value}(h:dL w0 w vb db cb kb kt S v):DC w0 w db cb S.D S.c v:=⟨h.dev,h.iN,h.ne.2.2,h.own.2,h.since,h.lo.2⟩
theorem Eo (j:Nat)(hj:j<102):Tryz.zeroCells165[j]?=some (if j=0∨j=1 then .pointer none else dR 0 0 ⟨#[]⟩ ⟨#[]⟩ Tb.zero (fun _=>⟨#[]⟩) false j):=by
 have hr:Tryz.zeroCells165.toList=ak 102 (fun j=>if j=0∨j=1 then .pointer none else dR 0 0 ⟨#[]⟩ ⟨#[]⟩ Tb.zero (fun _=>⟨#[]⟩) false j):=by kernel_rfl
 rw[←Array.getElem?_toList,hr];exact bM _ _ _ hj
theorem a0i (w:World)(kb kt:ByteArray)(db cb:Nat)(b:Nat)(hb:b=w.heap.size) :
  aA (((w.alloc (.cells ((Tryz.zeroCells165.setIfInBounds 2 (.string kb)).setIfInBounds 3 (.string kt)) 165)).setCell ⟨b,0,none⟩ (.pointer (some ⟨db,0,none⟩))).setCell ⟨b,1,none⟩ (.pointer (some ⟨cb,0,none⟩))) b 102 (dR db cb kb kt Tb.zero (fun _=>⟨#[]⟩) false):=by
 have h0:aA (w.alloc (.cells ((Tryz.zeroCells165.setIfInBounds 2 (.string kb)).setIfInBounds 3 (.string kt)) 165)) b 102 (fun j=>if j=3 then .string kt else if j=2 then .string kb else if j=0∨j=1 then .pointer none else dR 0 0 ⟨#[]⟩ ⟨#[]⟩ Tb.zero (fun _=>⟨#[]⟩) false j):=by
  refine aA.new w _ _ _ _ (fun j hj=>?_) _ hb;have hz:=Tryz.zeroCells165_size;by_cases h3:j=3
  ·subst h3;rw[if_pos rfl,Array.getElem?_setIfInBounds_self_of_lt (by rw[Array.size_setIfInBounds,hz];omega)]
  rw[if_neg h3,Array.getElem?_setIfInBounds_ne (fun e=>h3 e.symm)];by_cases h2:j=2
  ·subst h2;rw[if_pos rfl,Array.getElem?_setIfInBounds_self_of_lt (by rw[hz];omega)]
  rw[if_neg h2,Array.getElem?_setIfInBounds_ne (fun e=>h2 e.symm)];exact Eo j hj
 refine((h0.set 0 (by omega) _).set 1 (by omega) _).congr (fun j hj=>?_);unfold aJ;by_cases h1:j=1
 ·subst h1;rfl
 rw[if_neg h1];by_cases h00:j=0
 ·subst h00;rfl
 rw[if_neg h00];by_cases h3:j=3
 ·subst h3;rfl
 by_cases h2:j=2
 ·subst h2;rfl
 simp only[if_neg h3,if_neg h2,h00,h1,or_self,if_false];unfold dR;simp only[if_neg h00,if_neg h1,if_neg h2,if_neg h3]
def Jr (w0 w w':World)(db cb:Nat)(s:ByteArray)(D:Dv)(c:Int)(v:Value)(e:Ending):Prop:=
 ∃vb r S' v',gM (dY s) (dM s) (fresh D c) r S'∧((r=0∧e=.returned (.tuple #[.pointer (some ⟨vb,0,none⟩),.nilIface]))∨(r≠0∧e=.returned (.tuple #[.pointer none,ev r])))∧w.heap.size≤vb∧dL w0 w' vb db cb (dY s) (dM s) S' v'∧
  Fs (fun k=>k=db∨k=cb∨v.ownBlock=some k) w w'∧Nx w v.ownBlock v'.ownBlock
theorem rQ {w0 w:World}{db cb:Nat}{D:Dv}{c:Int}{v:Value}(s:ByteArray)(hs:s.size=16)(hT:Sm.kM w0)(hc:0≤c∧c<1000000000)(h:DC w0 w db cb D c v) :
  Calls Tryz.prog 37 #[.pointer (some ⟨db,0,none⟩),.pointer (some ⟨cb,0,none⟩),.string s] w fun e w'=>Jr w0 w w' db cb s D c v e:=by
 have HB:Hid (Base w0 (dY s) (dM s)):=⟨hT,mX _ _,mX _ _⟩
 have H:=hid h;have HC:=hid hc;have HK:Hid (∀W,Sm.kM W→Calls Tryz.prog 93 #[.string s] W fun e w'=>∃w1,e=.returned (.tuple #[.pointer (some ⟨w1.heap.size,0,none⟩),.nilIface])∧Since W w1∧w'=w1.alloc (.cells ((Tryz.zeroCells165.setIfInBounds 2 (.string (dY s))).setIfInBounds 3 (.string (dM s))) 165)):=fun W hW=>Pg s W hs hW
 unfold Jr;generalize dY s=kb at *;generalize dM s=kt at *;clear h hc hs hT;go_enter Tryz.func37,Tryz.ntmps37
 go_wp2_with fail
 refine(HK.o _ (HB.o.tab.since H.o.since)).mono ?_;rintro e w2 ⟨w1,rfl,h1,h2⟩;have H1:=hid (H.o.go h1);have cK:=hid h1;have HN:=a0i w1 kb kt db cb w1.heap.size rfl;rw[←h2] at HN;have hA:aA w2 w1.heap.size 102 (fun j=>((Tryz.zeroCells165.setIfInBounds 2 (.string kb)).setIfInBounds 3 (.string kt))[j]?.getD undef):=by
  rw[h2];refine aA.new w1 _ _ _ _ (fun j hj=>?_) _ rfl;rw[Array.getElem?_eq_getElem (by rw[Array.size_setIfInBounds,Array.size_setIfInBounds,Tryz.zeroCells165_size];exact hj)]
  rfl
 have a0:=hA.cell 0 (by omega);have a1:=hA.cell 1 (by omega);have f0:=hA.frozen 0 (by omega);have f1:=hA.frozen 1 (by omega);have a7v:Hid (Ty w2 w1.heap.size 165):=by
  show Ty w2 w1.heap.size 165
  rw[h2];exact Ty.new _ _ _
 have HS2:Hid (Since w1 w2):=by
  show Since w1 w2
  rw[h2];exact(Since.refl w1).alloc _
 clear hA h1 h2 HK;have HNV:=hid HN;clear HN;generalize (((Tryz.zeroCells165.setIfInBounds 2 (.string kb)).setIfInBounds 3 (.string kt))[0]?.getD undef)=x0 at *;generalize (((Tryz.zeroCells165.setIfInBounds 2 (.string kb)).setIfInBounds 3 (.string kt))[1]?.getD undef)=x1 at *;have b1:(w2.setCell ⟨w1.heap.size,0,none⟩ (.pointer (some ⟨db,0,none⟩))).cell? ⟨w1.heap.size,1,none⟩=some x1:=by
  rw[World.cell?_setCell_other _ _ _ _ (by intro hc;injection hc with _ h2;omega)];exact a1
 have HVL:Hid (dL w0 ((w2.setCell ⟨w1.heap.size,0,none⟩ (.pointer (some ⟨db,0,none⟩))).setCell ⟨w1.heap.size,1,none⟩ (.pointer (some ⟨cb,0,none⟩))) w1.heap.size db cb kb kt (fresh D c) v∧Since w1 ((w2.setCell ⟨w1.heap.size,0,none⟩ (.pointer (some ⟨db,0,none⟩))).setCell ⟨w1.heap.size,1,none⟩ (.pointer (some ⟨cb,0,none⟩)))):=by
  have hS:Since w1 ((w2.setCell ⟨w1.heap.size,0,none⟩ (.pointer (some ⟨db,0,none⟩))).setCell ⟨w1.heap.size,1,none⟩ (.pointer (some ⟨cb,0,none⟩))):=(HS2.o.setCell (Nat.le_refl _) _).setCell (Nat.le_refl _) _;have hd:=H1.o.go hS;have l1:=H1.o.dev.lt;have l2:=H1.o.iN.lt (by omega);refine⟨⟨HNV.o,hd.dev,hd.iN,⟨by omega,by omega,hd.ne⟩,⟨fun e=>?_,hd.own⟩,(a7v.o.setCell _ _).setCell _ _,hd.since,Nat.le_trans H1.o.since.size (Nat.le_refl _),hd.lo⟩,hS⟩;have:=H1.o.dev.glt _ e;omega
 clear HNV a1;go_wp2_with fail
 generalize ((w2.setCell ⟨w1.heap.size,0,none⟩ (.pointer (some ⟨db,0,none⟩))).setCell ⟨w1.heap.size,1,none⟩ (.pointer (some ⟨cb,0,none⟩)))=w3 at *;refine(Jq HB.o (S:=fresh D c) HC.o HVL.o.1).mono ?_;rintro e w4 ⟨r,S',rfl,hop,h4⟩;have Ah:=hid hop;have HF:Hid (∃v',dL w0 w4 w1.heap.size db cb kb kt S' v'∧Fs (fun k=>k=db∨k=cb∨v.ownBlock=some k) w w4∧Nx w v.ownBlock v'.ownBlock):=by
  obtain⟨v',hv,F,n⟩:=h4;have bQ:Since w w3:=cK.o.trans HVL.o.2;refine⟨v',hv,⟨F.os.trans bQ.os,F.tape.trans bQ.tape,F.output.trans bQ.output,Nat.le_trans bQ.size F.size,fun k hk hs=>?_⟩,fun k hk=>?_⟩
  ·rw[F.block k (Nat.lt_of_lt_of_le hk bQ.size) ?_]
   ·exact bQ.block k hk
   rintro (e | e | e | e)
   ·have:=cK.o.size;omega
   ·exact hs (Or.inl e)
   ·exact hs (Or.inr (Or.inl e))
   exact hs (Or.inr (Or.inr e))
  rcases n k hk with h5 | h5
  ·exact Or.inl h5
  exact Or.inr (Nat.le_trans bQ.size h5)
 have HLE:=hid cK.o.size;clear hop h4;by_cases h0:r=0
 ·subst h0;rw[uK];go_wp2_with fail
  go_ret2;obtain⟨v',hv,F,n⟩:=HF.o;exact⟨_,0,S',v',Ah.o,Or.inl ⟨rfl,rfl⟩,HLE.o,hv,F,n⟩
 rw[pO _ h0];have HE:Hid (ev r=.iface 32 (.int .i64 r)∧r≠0):=⟨pO _ h0,h0⟩
 clear h0;go_wp2_with fail
 go_ret2;obtain⟨v',hv,F,n⟩:=HF.o;exact⟨_,r,S',v',Ah.o,Or.inr ⟨HE.o.2,by rw[HE.o.1];rfl⟩,HLE.o,hv,F,n⟩
end Vl
end
section
namespace Vl
open Go.RowKit
open Tw (Tb ig may Same Rt)
section
variable {w0 w w':World} {vb db cb:Nat} {S S':Vs} {v v':Value} {D D':Dv} {c:Int}
theorem Mr {s:ByteArray}{T:Tb}{X:Nat→ByteArray}(hs:s.size=16)(hT:Sm.kM w0)(hc:0≤c∧c<1000000000)(h:DC w0 w db cb D c v)(ht:Told (dY s) (dM s) D c T X)(hl:low D c) :
  Calls Tryz.prog 37 #[.pointer (some ⟨db,0,none⟩),.pointer (some ⟨cb,0,none⟩),.string s] w fun e w'=>∃vb S' v',e=.returned (.tuple #[.pointer (some ⟨vb,0,none⟩),.nilIface])∧w.heap.size≤vb∧dL w0 w' vb db cb (dY s) (dM s) S' v'∧(S'.D=D∧S'.c=c∧S'.dead=false∧S'.T.count=c∧(c=0→S'=fresh D c)∧(∀i,i<24→S'.X i=X i)∧(c≠0→Same S'.T T∧whole (dY s) (dM s) D c∧S'=opened (dY s) D c c))∧Fs (fun k=>k=db∨k=cb∨v.ownBlock=some k) w w'∧Nx w v.ownBlock v'.ownBlock:=by
 refine(rQ s hs hT hc h).mono ?_;rintro e w' ⟨vb,r,S',v',hto,he,hvb,vF,hf,hn⟩;have ho:Ja (dY s) (dM s) D c r S':=hto;obtain⟨hr,h1,h2,h3,h4,h5,h6⟩:=Aa ht hl ho;subst hr;rcases he with⟨_,rfl⟩ | ⟨h0,_⟩
 ·refine⟨vb,S',v',rfl,hvb,vF,⟨h1,h2,h3,?_,h4,h6,h5⟩,hf,hn⟩;by_cases hc0:c=0
  ·rw[h4 hc0,hc0];rfl
  rw[(h5 hc0).1.1];rcases ht with⟨h7,_⟩ | ⟨_,_,h8,_⟩
  ·exact absurd h7 hc0
  exact h8
 exact absurd rfl h0
end
end Vl
end
section
namespace Vl
open Go.RowKit
section
variable {w0 w w':World} {vb db cb:Nat} {kb kt:ByteArray} {S S':Vs} {v:Value}
end
end Vl
end
section
namespace Vl
open Go.RowKit
open Tw (Tb ig may Same Rt)
section
variable {w0 w w':World} {vb db cb:Nat} {kb kt:ByteArray} {S S':Vs} {v v':Value} {D D':Dv} {c n:Int} {k:Nat}
end
end Vl
end
end Go.Proofs.YtlgbfkcpdelcbaaGreatDoor
