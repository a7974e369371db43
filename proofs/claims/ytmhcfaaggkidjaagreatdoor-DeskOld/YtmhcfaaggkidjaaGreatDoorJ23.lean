import Derived.Test.YtmhcfaaggkidjaaGreatDoorJ20
import Derived.Test.YtmhcfaaggkidjaaGreatDoorJ22
set_option linter.unusedSimpArgs false
set_option linter.unusedVariables false
section
namespace Go.Proofs.YtmhcfaaggkidjaaGreatDoor
namespace Vl
open Go.RowKit
open Tw (Tb af bE bO)
def bV (db cb:Nat) (kb kt:ByteArray) (T:Tb) (X:Nat→ByteArray) (f:Bool) (j:Nat):Value:=
 if j=0 then .pointer (some ⟨db,0,none⟩) else if j=1 then .pointer (some ⟨cb,0,none⟩) else if j=2 then .string kb else if j=3 then .string kt
 else if j<77 then af T (j-4) else if j<101 then .string (X (j-77)) else .bool f
theorem tV (db cb:Nat) (kb kt:ByteArray) (T:Tb) (X:Nat→ByteArray) (f:Bool) (j:Nat) (hj:j<73):bV db cb kb kt T X f (4+j)=af T j:=by
 unfold bV;rw[if_neg (by omega),if_neg (by omega),if_neg (by omega),if_neg (by omega),if_pos (by omega),show 4+j-4=j by omega]
theorem ql (db cb:Nat) (kb kt:ByteArray) (T:Tb) (X:Nat→ByteArray) (f:Bool) (j:Nat) (hj:j<24):bV db cb kb kt T X f (77+j)=.string (X j):=by
 unfold bV;rw[if_neg (by omega),if_neg (by omega),if_neg (by omega),if_neg (by omega),if_neg (by omega),if_pos (by omega),show 77+j-77=j by omega]
structure Fs (S:Nat→Prop) (w w':World):Prop where
 os:w'.os=w.os
 tape:w'.tape=w.tape
 output:w'.output=w.output
 size:w.heap.size≤w'.heap.size
 block:∀k,k<w.heap.size→¬S k→w'.heap[k]?=w.heap[k]?
theorem Fs.refl (S:Nat→Prop) (w:World):Fs S w w:=⟨rfl,rfl,rfl,Nat.le_refl _,fun _ _ _=>rfl⟩
theorem Fs.trans {S:Nat→Prop} {w w' w'':World} (h:Fs S w w') (k:Fs S w' w''):Fs S w w'':=
 ⟨k.os.trans h.os,k.tape.trans h.tape,k.output.trans h.output,Nat.le_trans h.size k.size,fun j hj hs=>(k.block j (Nat.lt_of_lt_of_le hj h.size) hs).trans (h.block j hj hs)⟩
theorem Fs.trans' {S S':Nat→Prop} {w w' w'':World} (h:Fs S w w') (k:Fs S' w' w'') (hS:∀j,S' j→S j∨w.heap.size≤j):Fs S w w'':=
 ⟨k.os.trans h.os,k.tape.trans h.tape,k.output.trans h.output,Nat.le_trans h.size k.size,fun j hj hs=>(k.block j (Nat.lt_of_lt_of_le hj h.size) (fun e=>by
  rcases hS j e with h1 | h1
  ·exact hs h1
  omega)).trans (h.block j hj hs)⟩
theorem Fs.ah {S:Nat→Prop} {w w':World} (h:Since w w'):Fs S w w':=⟨h.os,h.tape,h.output,h.size,fun k hk _=>h.block k hk⟩
theorem Fs.xw {S:Nat→Prop} {b:Nat} {g:Option Nat} {w w':World} (h:Fr b g w w') (hb:S b) (hg:∀k,g=some k→S k):Fs S w w':=
 ⟨h.os,h.tape,h.output,h.size,fun k hk hs=>h.block k hk (fun e=>hs (e▸hb)) (fun e=>hs (hg k e.symm))⟩
theorem Fs.since {S:Nat→Prop} {a w w':World} (h:Fs S w w') (hs:Since a w) (hS:∀k,S k→a.heap.size≤k):Since a w':=
 Below.trans (show Below a.heap.size a w from hs) ⟨h.os,h.tape,h.output,h.size,fun k hk=>h.block k (Nat.lt_of_lt_of_le hk hs.size) (fun e=>by have:=hS k e;omega)⟩
theorem Fs.cell {S:Nat→Prop} {w w':World} (h:Fs S w w') {p:Addr} (hp:p.block<w.heap.size) (hb:¬S p.block):w'.cell? p=w.cell? p:=
 World.cell?_of_block (w:=w) (h.block p.block hp hb)
theorem Fs.frozen {S:Nat→Prop} {w w':World} (h:Fs S w w') {p:Addr} (hp:p.block<w.heap.size) (hb:¬S p.block):w'.frozen? p=w.frozen? p:=
 World.frozen?_of_block (w:=w) (h.block p.block hp hb)
theorem iT {S:Nat→Prop} {w w':World} {b n:Nat} {f:Nat→Value} (h:ak w b n f) (hs:Fs S w w') (hb:¬S b):ak w' b n f where
 cell j hj:=by
  have hc:=h.cell j hj;rw[hs.cell (p:=⟨b,j,none⟩) (World.block_lt_of_cell? w _ hc) hb];exact hc
 frozen j hj:=by
  have hc:=h.cell j hj;rw[hs.frozen (p:=⟨b,j,none⟩) (World.block_lt_of_cell? w _ hc) hb];exact h.frozen j hj
theorem Wo {S:Nat→Prop} {w w':World} {base e size n:Nat} {v:Value} {xs:List Value} (h:w.ownsRow base e size v n xs) (hf:Fs S w w') (hv:∀k,v.ownBlock=some k→¬S k):w'.ownsRow base e size v n xs:=by
 refine⟨h.1,?_⟩;rcases h.2 with hn | ⟨k,cap,cur,rfl,hbk,hk,rest⟩
 ·exact .inl hn
 refine .inr ⟨k,cap,cur,rfl,hbk,?_,rest⟩;rw[hf.block k (Array.getElem?_eq_some_iff.1 hk).1 (hv k rfl)];exact hk
theorem Cu {S:Nat→Prop} {w w':World} {b:Nat} {D:Dv} {v:Value} (h:Dev w b D v) (hf:Fs S w w') (hb:¬S b) (hv:∀k,v.ownBlock=some k→¬S k):Dev w' b D v:=
 ⟨iT h.bL hf hb,Wo h.own hf hv,h.ne,h.ok⟩
def Ty (w:World) (b:Nat) (t:TypeId):Prop:=∃arr fz,w.heap[b]?=some (.cells arr t fz)
theorem Ty.blk {w w':World} {b:Nat} {t:TypeId} (h:Ty w b t) (hb:w'.heap[b]?=w.heap[b]?):Ty w' b t:=by
 obtain⟨arr,fz,ha⟩:=h;exact⟨arr,fz,hb.trans ha⟩
theorem Ty.lt {w:World} {b:Nat} {t:TypeId} (h:Ty w b t):b<w.heap.size:=by
 obtain⟨arr,fz,ha⟩:=h;exact(Array.getElem?_eq_some_iff.1 ha).1
theorem Ty.since {w w':World} {b:Nat} {t:TypeId} (h:Ty w b t) (hs:Since w w'):Ty w' b t:=h.blk (hs.block b h.lt)
theorem Ty.setCell {w:World} {b:Nat} {t:TypeId} (h:Ty w b t) (a:Addr) (v:Value):Ty (w.setCell a v) b t:=by
 by_cases e:b=a.block
 ·obtain⟨arr,fz,ha⟩:=h;subst e;refine⟨if a.spot.isSome then arr else arr.setIfInBounds a.off v,fz,?_⟩;unfold World.setCell;simp[Array.getElem?_modify,ha]
 exact h.blk (Below.heap_setCell _ _ _ _ e)
theorem Ty.setCells {b:Nat} {t:TypeId} (b':Nat):∀(vs:List Value) (o:Nat) (w:World),Ty w b t→Ty (w.setCells b' o vs) b t
 | [],_,w,h=>h
 | v::r,o,w,h=>Ty.setCells b' r (o+1) _ (h.setCell _ _)
theorem Ty.new (w:World) (cs:Array Value) (t:TypeId):Ty (w.alloc (.cells cs t)) w.heap.size t:=⟨cs,(0,0),by show (w.heap.push _)[w.heap.size]?=_;simp⟩
structure Base (w0:World) (kb kt:ByteArray):Prop where
 tab:Sm.jW w0
 kb:kb.size=32
 kt:kt.size=32
def VP (vb db cb:Nat) (v:Value) (k:Nat):Prop:=k=vb∨k=db∨k=cb∨v.ownBlock=some k
structure bg (w0 w:World) (vb db cb:Nat) (kb kt:ByteArray) (S:Vs) (v:Value):Prop where
 bL:ak w vb 102 (bV db cb kb kt S.T S.X S.dead)
 dev:Dev w db S.D v
 sQ:ak w cb 1 (fun _=>.int .i64 S.c)
 ne:vb≠db∧vb≠cb∧db≠cb
 own:v.ownBlock≠some vb∧v.ownBlock≠some cb
 ty:Ty w vb 166
 since:Since w0 w
 lo:w0.heap.size≤vb∧w0.heap.size≤db∧w0.heap.size≤cb∧∀k,v.ownBlock=some k→w0.heap.size≤k
theorem bg.go {w0 w w':World} {vb db cb:Nat} {kb kt:ByteArray} {S:Vs} {v:Value} (h:bg w0 w vb db cb kb kt S v) (hs:Since w w'):bg w0 w' vb db cb kb kt S v:=
 ⟨h.bL.since hs,h.dev.since hs,h.sQ.since hs,h.ne,h.own,h.ty.since hs,h.since.trans hs,h.lo⟩
def bF (w0 w w':World) (vb db cb:Nat) (kb kt:ByteArray) (S':Vs) (v:Value):Prop:=∃v',bg w0 w' vb db cb kb kt S' v'∧Fs (VP vb db cb v) w w'∧Nx w v.ownBlock v'.ownBlock
section
variable {w0 w w' w'':World} {vb db cb:Nat} {kb kt:ByteArray} {S S':Vs} {v v':Value}
theorem bg.self (h:bg w0 w vb db cb kb kt S v):bF w0 w w vb db cb kb kt S v:=⟨v,h,Fs.refl _ _,Nx.refl _ _⟩
theorem bg.to (h:bg w0 w vb db cb kb kt S v) (hs:Since w w'):bF w0 w w' vb db cb kb kt S v:=⟨v,h.go hs,Fs.ah hs,Nx.refl _ _⟩
theorem VP.nx (hn:Nx w v.ownBlock v'.ownBlock):∀j,VP vb db cb v' j→VP vb db cb v j∨w.heap.size≤j:=by
 rintro j (h | h | h | h)
 ·exact Or.inl (Or.inl h)
 ·exact Or.inl (Or.inr (Or.inl h))
 ·exact Or.inl (Or.inr (Or.inr (Or.inl h)))
 rcases hn j h with h1 | h1
 ·exact Or.inl (Or.inr (Or.inr (Or.inr h1)))
 exact Or.inr h1
theorem bF.then {S1:Vs} {w1:World} (h:bF w0 w w1 vb db cb kb kt S1 v) (k:∀v1,bg w0 w1 vb db cb kb kt S1 v1→bF w0 w1 w' vb db cb kb kt S' v1):bF w0 w w' vb db cb kb kt S' v:=by
 obtain⟨v1,h1,f1,n1⟩:=h;obtain⟨v2,h2,f2,n2⟩:=k v1 h1;exact⟨v2,h2,f1.trans' f2 (VP.nx n1),n1.trans n2 f1.size⟩
theorem bF.cont {S1:Vs} {w1:World} (h:bF w0 w w1 vb db cb kb kt S1 v):∃v1,bg w0 w1 vb db cb kb kt S1 v1∧∀w' S',bF w0 w1 w' vb db cb kb kt S' v1→bF w0 w w' vb db cb kb kt S' v:=by
 obtain⟨v1,h1,f1,n1⟩:=h;exact⟨v1,h1,fun w' S' ⟨v2,h2,f2,n2⟩=>⟨v2,h2,f1.trans' f2 (VP.nx n1),n1.trans n2 f1.size⟩⟩
theorem bF.DT {S1:Vs} {w1:World} {b o:Nat} {x:Value} (h:bF w0 w w1 vb db cb kb kt S1 v) (hb:¬VP vb db cb v b) (hx:w.cell? ⟨b,o,none⟩=some x) :
  ∃v1,bg w0 w1 vb db cb kb kt S1 v1∧(∀w' S',bF w0 w1 w' vb db cb kb kt S' v1→bF w0 w w' vb db cb kb kt S' v)∧w1.cell? ⟨b,o,none⟩=some x∧¬VP vb db cb v1 b:=by
 obtain⟨v1,h1,f1,n1⟩:=h;have hlt:=World.block_lt_of_cell? w _ hx;refine⟨v1,h1,fun w' S' ⟨v2,h2,f2,n2⟩=>⟨v2,h2,f1.trans' f2 (VP.nx n1),n1.trans n2 f1.size⟩,(f1.cell (p:=⟨b,o,none⟩) hlt hb).trans hx,fun e=>?_⟩;rcases VP.nx n1 b e with h2 | h2
 ·exact hb h2
 have:b<w.heap.size:=hlt;omega
theorem bg.GH (h:bg w0 w vb db cb kb kt S v):¬VP vb db cb v w.heap.size:=by
 rintro (e | e | e | e)
 ·have:=h.bL.lt (by omega);omega
 ·have:=h.dev.lt;omega
 ·have:=h.sQ.lt (by omega);omega
 have:=h.dev.glt _ e;omega
theorem bF.go (h:bF w0 w w' vb db cb kb kt S v) (hs:Since w' w''):bF w0 w w'' vb db cb kb kt S v:=h.then fun v1 h1=>h1.to hs
theorem bF.pre (hs:Since w w') (h:bF w0 w' w'' vb db cb kb kt S v):bF w0 w w'' vb db cb kb kt S v:=by
 obtain⟨v1,h1,f1,n1⟩:=h;refine⟨v1,h1,(Fs.ah hs).trans f1,fun k hk=>?_⟩;rcases n1 k hk with h2 | h2
 ·exact Or.inl h2
 exact Or.inr (Nat.le_trans hs.size h2)
theorem bg.DU {D':Dv} (h:bg w0 w vb db cb kb kt S v) (hd:Dev w' db D' v') (hf:Fr db v.ownBlock w w') (hn:Nx w v.ownBlock v'.ownBlock):bF w0 w w' vb db cb kb kt { S with D:=D' } v:=by
 have hF:Fs (fun k=>k=db∨v.ownBlock=some k) w w':=Fs.xw hf (Or.inl rfl) (fun k hk=>Or.inr hk);have hlt:=h.bL.lt (by omega);have hlc:=h.sQ.lt (by omega);have hvo:v'.ownBlock≠some vb∧v'.ownBlock≠some cb:=by
  refine⟨fun e=>?_,fun e=>?_⟩
  ·rcases hn _ e with h1 | h1
   ·exact h.own.1 h1
   omega
  rcases hn _ e with h1 | h1
  ·exact h.own.2 h1
  omega
 have Zy:¬(vb=db∨v.ownBlock=some vb):=by
  rintro (e | e)
  ·exact h.ne.1 e
  exact h.own.1 e
 refine⟨v',⟨iT h.bL hF Zy,hd,iT h.sQ hF ?_,h.ne,hvo,h.ty.blk (hF.block vb hlt Zy),hF.since h.since ?_,h.lo.1,h.lo.2.1,h.lo.2.2.1,fun k hk=>?_⟩,⟨hF.os,hF.tape,hF.output,hF.size,fun k hk hs=>hF.block k hk (fun e=>hs ?_)⟩,hn⟩
 ·rintro (e | e)
  ·exact h.ne.2.2 e.symm
  exact h.own.2 e
 ·rintro k (e | e)
  ·rw[e];exact h.lo.2.1
  exact h.lo.2.2.2 k e
 ·rcases hn k hk with h1 | h1
  ·exact h.lo.2.2.2 k h1
  exact Nat.le_trans h.since.size h1
 rcases e with e | e
 ·exact Or.inr (Or.inl e)
 exact Or.inr (Or.inr (Or.inr e))
theorem bg.DV {T':Tb} {X':Nat→ByteArray} {f':Bool} (h:bg w0 w vb db cb kb kt S v) (hc:ak w' vb 102 (bV db cb kb kt T' X' f')) (hf:Fr vb none w w') (ht:Ty w' vb 166):bF w0 w w' vb db cb kb kt { S with T:=T',X:=X',dead:=f' } v:=by
 have hF:Fs (fun k=>k=vb) w w':=Fs.xw hf rfl (fun k hk=>by cases hk);refine⟨v,⟨hc,Cu h.dev hF (fun e=>h.ne.1 e.symm) (fun k hk e=>h.own.1 (hk.trans (by rw[e]))),iT h.sQ hF (fun e=>h.ne.2.1 e.symm),h.ne,h.own,ht,hF.since h.since (fun k e=>by rw[e];exact h.lo.1),h.lo⟩,⟨hF.os,hF.tape,hF.output,hF.size,fun k hk hs=>hF.block k hk (fun e=>hs (Or.inl e))⟩,Nx.refl _ _⟩
theorem bg.Pi {c':Int} (h:bg w0 w vb db cb kb kt S v):bF w0 w (w.setCell ⟨cb,0,none⟩ (.int .i64 c')) vb db cb kb kt { S with c:=c' } v:=by
 have hF:Fs (fun k=>k=cb) w (w.setCell ⟨cb,0,none⟩ (.int .i64 c')):=Fs.xw (Fr.setCell cb none 0 w _) rfl (fun k hk=>by cases hk);refine⟨v,⟨iT h.bL hF h.ne.2.1,Cu h.dev hF h.ne.2.2 (fun k hk e=>h.own.2 (hk.trans (by rw[e]))),(h.sQ.set 0 (by omega) _).congr (fun j hj=>by
  obtain rfl:j=0:=by omega
  rfl),h.ne,h.own,h.ty.setCell _ _,hF.since h.since (fun k e=>by rw[e];exact h.lo.2.2.1),h.lo⟩,⟨hF.os,hF.tape,hF.output,hF.size,fun k hk hs=>hF.block k hk (fun e=>hs (Or.inr (Or.inr (Or.inl e))))⟩,Nx.refl _ _⟩
end
end Vl
end Go.Proofs.YtmhcfaaggkidjaaGreatDoor
end
section
namespace Go.Proofs.YtmhcfaaggkidjaaGreatDoor
set_option maxRecDepth 100000
namespace Vl
open Go.RowKit
open Tw (Tb af bE bO)
theorem aO (a:Addr) (w:World):Calls Tryz.prog 132 #[.pointer (some a)] w fun e w'=>e=.returned (.pointer (some a))∧w'=w:=by
 go_enter Tryz.func132,Tryz.ntmps132
 go_wp2_with fail
 go_ret;exact⟨rfl,rfl⟩
theorem nC (z:Int) (w:World):Calls Tryz.prog 171 #[.int .i64 z] w fun e w'=>e=.returned (.bool (decide (0≤z)&&decide (z<24)))∧w'=w:=by
 by_cases h:0≤z
 ·go_enter Tryz.func171,Tryz.ntmps171
  go_wp2_with fail
  go_ret;exact⟨by simp[h],rfl⟩
 go_enter Tryz.func171,Tryz.ntmps171
 go_wp2_with fail
 go_ret;exact⟨by simp;omega,rfl⟩
theorem JG {z:Int} (h:0≤z∧z<24):(decide (0≤z)&&decide (z<24))=true:=by simp;omega
theorem DW {z:Int} (h:¬(0≤z∧z<24)):(decide (0≤z)&&decide (z<24))=false:=by simp;omega
theorem Zz (n:Int) (h:0≤n):n.tmod 2=n % 2:=Int.tmod_eq_emod_of_nonneg h
theorem iy (n:Int) (w:World) (h:0≤n):Calls Tryz.prog 189 #[.int .i64 n] w fun e w'=>e=.returned (.int .i64 (n % 2))∧w'=w:=by
 have e:=Zz n h;have hr:wrap64 (n % 2)=n % 2:=by unfold wrap64;omega
 go_enter Tryz.func189,Tryz.ntmps189
 go_wp2_with fail
 go_ret;exact⟨rfl,rfl⟩
section
variable {w0 w:World} {vb db cb:Nat} {kb kt:ByteArray} {S:Vs} {v:Value}
theorem bg.c0 (h:bg w0 w vb db cb kb kt S v):w.cell? ⟨vb,0,none⟩=some (.pointer (some ⟨db,0,none⟩)):=h.bL.cell 0 (by omega)
theorem bg.c1 (h:bg w0 w vb db cb kb kt S v):w.cell? ⟨vb,1,none⟩=some (.pointer (some ⟨cb,0,none⟩)):=h.bL.cell 1 (by omega)
theorem bg.c2 (h:bg w0 w vb db cb kb kt S v):w.cell? ⟨vb,2,none⟩=some (.string kb):=h.bL.cell 2 (by omega)
theorem bg.c3 (h:bg w0 w vb db cb kb kt S v):w.cell? ⟨vb,3,none⟩=some (.string kt):=h.bL.cell 3 (by omega)
theorem bg.c4 (h:bg w0 w vb db cb kb kt S v):w.cell? ⟨vb,4,none⟩=some (.int .i64 S.T.count):=h.bL.cell 4 (by omega)
theorem bg.cf (h:bg w0 w vb db cb kb kt S v):w.cell? ⟨vb,101,none⟩=some (.bool S.dead):=h.bL.cell 101 (by omega)
theorem bg.cx (h:bg w0 w vb db cb kb kt S v) (i:Nat) (hi:i<24):w.cell? ⟨vb,77+i,none⟩=some (.string (S.X i)):=by
 rw[h.bL.cell (77+i) (by omega),ql _ _ _ _ _ _ _ i hi]
theorem bg.tab (h:bg w0 w vb db cb kb kt S v):w.rangeAt vb 4 (aa 73 (af S.T)):=by
 have:=h.bL.range 4 73 (by omega);rw[show aa 73 (fun j=>bV db cb kb kt S.T S.X S.dead (4+j))=aa 73 (af S.T) from Tw.FE (fun j hj=>tV _ _ _ _ _ _ _ j hj)] at this;exact this
theorem jl (h:bg w0 w vb db cb kb kt S v):Calls Tryz.prog 133 #[.pointer (some ⟨vb,0,none⟩)] w fun e w'=>e=.returned (.bool (!S.dead))∧w'=w:=by
 have q0:=h.c0;have q1:=h.cf;clear h;generalize S.dead=x at *;cases x
 ·go_enter Tryz.func133,Tryz.ntmps133
  go_wp2_with fail
  go_ret;exact⟨rfl,rfl⟩
 go_enter Tryz.func133,Tryz.ntmps133
 go_wp2_with fail
 go_ret;exact⟨rfl,rfl⟩
theorem Le (h:bg w0 w vb db cb kb kt S v):Calls Tryz.prog 151 #[.pointer (some ⟨vb,0,none⟩)] w fun e w'=>e=.returned (.int .i64 S.T.count)∧w'=w:=by
 have q0:=h.c4;clear h;go_enter Tryz.func151,Tryz.ntmps151
 go_wp2_with fail
 refine(aO _ _).mono ?_;rintro e w' ⟨rfl,rfl⟩;go_wp2_with fail
 go_ret;exact⟨rfl,rfl⟩
theorem kX (n:Int) (h:bg w0 w vb db cb kb kt S v):Calls Tryz.prog 134 #[.pointer (some ⟨vb,0,none⟩),ev n] w fun e w'=>e=.returned (ev n)∧bF w0 w w' vb db cb kb kt { S with dead:=S.dead||decide (n=14) } v:=by
 by_cases h0:n=0
 ·subst h0;have e0:ev 0=.nilIface:=by unfold ev;rw[if_pos rfl]
  rw[e0];have H:Hid (bg w0 w vb db cb kb kt S v):=h;clear h;go_enter Tryz.func134,Tryz.ntmps134
  go_wp2_with fail
  refine(Xz _ _).mono ?_;rintro e w' ⟨rfl,rfl⟩;go_wp2_with fail
  go_ret;refine⟨rfl,?_⟩;have:=H.out.self
  simpa using this
 have e0:ev n=.iface 32 (.int .i64 n):=by unfold ev;rw[if_neg h0]
 rw[e0];have H:Hid (bg w0 w vb db cb kb kt S v):=h;have q1:=h.cf;have q2:=h.bL.frozen 101 (by omega);clear h;by_cases h14:n=14
 ·subst h14;go_enter Tryz.func134,Tryz.ntmps134
  go_wp2_with fail
  refine(Pg _ _ _).mono ?_;rintro e w' ⟨rfl,rfl⟩;rw[decide_eq_true rfl];go_wp2_with fail
  go_ret;refine⟨rfl,?_⟩;have hto:=H.out.DV (T':=S.T) (X':=S.X) (f':=true) (((H.out.bL.set 101 (by omega) (.bool true))).congr (fun j hj=>by
   unfold aZ;by_cases e:j=101
   ·subst e;rfl
   rw[if_neg e];unfold bV;by_cases e2:j<101
   ·simp only[if_pos e2]
   omega)) (Fr.setCell _ _ _ _ _) (H.out.ty.setCell _ _)
  simpa using hto
 go_enter Tryz.func134,Tryz.ntmps134
 go_wp2_with fail
 refine(Pg _ _ _).mono ?_;rintro e w' ⟨rfl,rfl⟩;rw[decide_eq_false h14];go_wp2_with fail
 go_ret;refine⟨rfl,?_⟩;have:=H.out.self
 simpa [h14] using this
set_option maxHeartbeats 2000000 in
theorem wT (h:bg w0 w vb db cb kb kt S v):Calls Tryz.prog 205 #[.pointer (some ⟨vb,0,none⟩)] w fun e w'=>(∃x,e=.returned x∧Sp.Ls w' w'.heap.size x 8 S.kI)∧Since w w':=by
 have q0:=h.c0;have H:Hid (Dev w db S.D v):=h.dev;have HL:Hid (vb<w.heap.size):=h.bL.lt (by omega);clear h;have hmk:=Sp.ou w;have HD:Hid (ak (w.alloc (.cells (madeCells #[Value.int .i64 0] 8) 3)) w.heap.size 8 (fun j=>if j<0 then .int .i64 (S.D.cnt j) else .int .i64 0)):=by
  refine ak.new _ _ _ _ _ (fun j hj=>?_) _ rfl;rw[if_neg (Nat.not_lt_zero _)];exact Sp.DI 8 j hj
 have HS:Hid (Since w (w.alloc (.cells (madeCells #[Value.int .i64 0] 8) 3))):=(Since.refl w).alloc _;go_enter Tryz.func205,Tryz.ntmps205
 go_wp2_with fail
 clear hmk;generalize w.alloc (.cells (madeCells #[Value.int .i64 0] 8) 3)=w1 at *;go_loopw [11,4,14] (fun i _ _ wr=>∃k:Nat,k≤8∧i=.int .i64 k∧ak wr w.heap.size 8 (fun j=>if j<k then .int .i64 (S.D.cnt j) else .int .i64 0)∧Since w wr) (fun i _ _ _=>8-(intOf i).toNat)
 case atStart=>exact⟨0,by omega,rfl,HD.out,HS.out⟩
 clear HD HS;obtain⟨k,hk,rfl,hd,hs⟩:=hrel;have HD:Hid (ak wr w.heap.size 8 (fun j=>if j<k then .int .i64 (S.D.cnt j) else .int .i64 0)):=hd;have HS:Hid (Since w wr):=hs;clear hd hs;by_cases hlt:k<8
 ·have hlt2:(k:Int)<8:=by omega
  have p0:=q0;rw[←HS.out.cell (p:=⟨vb,0,none⟩) HL.out] at p0;have q1:=HD.out.cell k hlt;have q2:=HD.out.frozen k hlt;go_wp2_with fail
  refine(Go.Proofs.YtmhcfaaggkidjaaGreatDoor.wT S.D v db k _ (H.out.since HS.out) hlt).mono ?_;rintro e w2 ⟨rfl,rfl⟩;go_wp2_with fail
  go_roundw
  case rel=>
   refine⟨k+1,by omega,by go_num,(HD.out.set k hlt _).congr (fun j hj=>?_),HS.out.setCell (Nat.le_refl _) _⟩;unfold aZ;by_cases e:j=k
   ·subst e;rw[if_pos rfl,if_pos (by omega)]
   rw[if_neg e];show (if j<k then Value.int .i64 (S.D.cnt j) else .int .i64 0)=_
   by_cases h1:j<k
   ·rw[if_pos h1,if_pos (by omega)]
   rw[if_neg h1,if_neg (by omega)]
  case measure=>simp[intOf];omega
 have hke:k=8:=by omega
 subst hke;go_wp2_with fail
 go_ret;refine⟨⟨_,rfl,⟨_,_,rfl,by omega,fun _=>⟨w.heap.size,0,rfl,HD.out.lt (by omega),fun j hj=>?_⟩⟩⟩,HS.out⟩;rw[Nat.zero_add,HD.out.cell j hj,if_pos hj]
 rfl
theorem kV (h:bg w0 w vb db cb kb kt S v):Calls Tryz.prog 154 #[.pointer (some ⟨vb,0,none⟩)] w fun e w'=>e=.returned (.int .i64 S.free)∧Since w w':=by
 have H:Hid (bg w0 w vb db cb kb kt S v):=h;clear h;go_enter Tryz.func154,Tryz.ntmps154
 go_wp2_with fail
 refine(aO _ _).mono ?_;rintro e w' ⟨rfl,rfl⟩;go_wp2_with fail
 refine(wT H.out).mono ?_;rintro e w1 ⟨⟨x,rfl,hx⟩,hs⟩;have HX:Hid (Sp.Ls w1 w1.heap.size x 8 S.kI):=hx;have HS:Hid (Since _ w1):=hs;clear hx hs;go_wp2_with fail
 refine(Sp.kV x 8 _ _ _ HX.out (by omega)).mono ?_;rintro e w2 ⟨rfl,rfl⟩;go_wp2_with fail
 go_ret;exact⟨rfl,HS.out⟩
theorem Lf (i:Int) (h:bg w0 w vb db cb kb kt S v):Calls Tryz.prog 116 #[.pointer (some ⟨vb,0,none⟩),.int .i64 i] w fun e w'=>e=.returned (.tuple #[.string (S.read i).1,ev (S.read i).2])∧w'=w:=by
 unfold Vs.read;by_cases hi:0≤i∧i<24
 ·rw[if_neg (by omega)];have hh:=JG hi;obtain⟨k,rfl⟩:=Int.eq_ofNat_of_zero_le hi.1;have hk:(k:Int)<24:=hi.2;have q:=h.cx k (by omega);rw[Int.toNat_natCast];clear h hi;go_enter Tryz.func116,Tryz.ntmps116
  go_wp2_with fail
  refine(nC _ _).mono ?_;rintro e w' ⟨rfl,rfl⟩;rw[hh];go_wp2_with fail
  refine(aO _ _).mono ?_;rintro e w' ⟨rfl,rfl⟩;go_wp2_with fail
  go_ret2;exact⟨rfl,rfl⟩
 rw[if_pos hi];have hh:=DW hi;clear h;go_enter Tryz.func116,Tryz.ntmps116
 go_wp2_with fail
 refine(nC _ _).mono ?_;rintro e w' ⟨rfl,rfl⟩;rw[hh];go_wp2_with fail
 go_ret2;exact⟨rfl,rfl⟩
end
end Vl
end Go.Proofs.YtmhcfaaggkidjaaGreatDoor
end
section
namespace Go.Proofs.YtmhcfaaggkidjaaGreatDoor
set_option maxRecDepth 100000
namespace Vl
open Go.RowKit
open Tw (Tb af bE bO)
theorem Lg (db cb:Nat) (kb kt:ByteArray) (T:Tb) (X:Nat→ByteArray) (f:Bool) (i:Nat) (hi:i<24) (z o:Int) (t:ByteArray) (j:Nat) (hj:j<102) :
  aZ (aZ (aZ (bV db cb kb kt T X f) (5+i*3) (.int .i64 z)) (5+i*3+1) (.int .i64 o)) (5+i*3+2) (.string t) j=bV db cb kb kt (dz T i z o t) X f j:=by
 unfold aZ;by_cases hr:5≤j∧j<77
 ·have e:∀U,bV db cb kb kt U X f j=Tw.gy U ((j-5) / 3) ((j-5) % 3):=fun U=>by
   have:=tV db cb kb kt U X f (j-4) (by omega);rw[show 4+(j-4)=j by omega] at this;rw[this];unfold af;rw[if_neg (by omega),show j-4-1=j-5 by omega]
  rw[e,e];by_cases h2:j=5+i*3+2
  ·subst h2;rw[if_pos rfl,show (5+i*3+2-5) / 3=i by omega,show (5+i*3+2-5) % 3=2 by omega];simp[Tw.gy,dz]
  rw[if_neg h2];by_cases h1:j=5+i*3+1
  ·subst h1;rw[if_pos rfl,show (5+i*3+1-5) / 3=i by omega,show (5+i*3+1-5) % 3=1 by omega];simp[Tw.gy,dz]
  rw[if_neg h1];by_cases h0:j=5+i*3
  ·subst h0;rw[if_pos rfl,show (5+i*3-5) / 3=i by omega,show (5+i*3-5) % 3=0 by omega];simp[Tw.gy,dz]
  rw[if_neg h0];have hne:¬(j-5) / 3=i:=by omega
  unfold Tw.gy dz;simp only[if_neg hne]
 rw[if_neg (by omega),if_neg (by omega),if_neg (by omega)];unfold bV;by_cases h4:j<77
 ·have h44:j≤4:=by omega
  by_cases h5:j=4
  ·subst h5;rfl
  match j,(show j<4 by omega) with
  | 0,_=>rfl
  | 1,_=>rfl
  | 2,_=>rfl
  | 3,_=>rfl
 simp only[if_neg h4]
theorem GJ (db cb:Nat) (kb kt:ByteArray) (T:Tb) (X:Nat→ByteArray) (f:Bool) (i:Nat) (hi:i<24) (t:ByteArray) (j:Nat) (hj:j<102) :
  aZ (bV db cb kb kt T X f) (77+i) (.string t) j=bV db cb kb kt T (fq X i t) f j:=by
 unfold aZ;by_cases e:j=77+i
 ·subst e;rw[if_pos rfl,ql _ _ _ _ _ _ _ i hi];simp[fq]
 rw[if_neg e];unfold bV;by_cases h4:j<77
 ·simp only[if_pos h4]
 by_cases h5:j<101
 ·have hne:¬j-77=i:=by omega
  simp only[if_neg h4,if_pos h5,fq,if_neg hne]
 simp only[if_neg h4,if_neg h5]
section
variable {w0 w:World} {vb db cb:Nat} {kb kt:ByteArray} {S:Vs} {v:Value}
set_option maxHeartbeats 4000000 in
theorem JH (i:Nat) (z o:Int) (tag t:ByteArray) (hi:i<24) (hg:tag.size≤600) (ht:t.size≤600) (h:bg w0 w vb db cb kb kt S v) :
  Calls Tryz.prog 178 #[.pointer (some ⟨vb,0,none⟩),.int .i64 (i:Int),.agg #[.int .i64 z,.int .i64 o,.string tag],.string t] w fun e w'=>e=.returned (.tuple #[])∧bF w0 w w' vb db cb kb kt (S.set i z o tag t) v:=by
 have hi2:(i:Int)<24:=by omega
 have ZA:Hid (∀W,Calls Tryz.prog 72 #[.string tag] W fun e w'=>e=.returned (.string tag)∧Since W w'):=fun W=>Tw.ed tag W hg
 have YT:Hid (∀W,Calls Tryz.prog 72 #[.string t] W fun e w'=>e=.returned (.string t)∧Since W w'):=fun W=>Tw.ed t W ht
 have H:Hid (bg w0 w vb db cb kb kt S v):=h;have HV:Hid (vb<w.heap.size):=h.bL.lt (by omega);clear h hg ht;have HB:Hid (ak (w.alloc (.cells #[.int .i64 z,.int .i64 o,.string tag] 160)) w.heap.size 3 (fun j=>if j=0 then .int .i64 z else if j=1 then .int .i64 o else .string tag)):=ak.new w _ _ _ _ (fun j hj=>by
  match j,hj with
  | 0,_=>rfl
  | 1,_=>rfl
  | 2,_=>rfl) _ rfl
 have HS:Hid (Since w (w.alloc (.cells #[.int .i64 z,.int .i64 o,.string tag] 160))):=(Since.refl w).alloc _;go_enter Tryz.func178,Tryz.ntmps178
 go_wp2_with fail
 refine(ZA.out _).mono ?_;rintro e w1 ⟨rfl,h1⟩;have HB1:Hid (ak w1 w.heap.size 3 (fun j=>if j=0 then .int .i64 z else if j=1 then .int .i64 o else .string tag)):=HB.out.since h1;have bY:Hid (Since w w1):=HS.out.trans h1;clear h1 HB HS ZA;have b0:=HB1.out.cell 2 (by omega);have b1:=HB1.out.frozen 2 (by omega);have HB2:Hid (ak (w1.setCell ⟨w.heap.size,2,none⟩ (.string tag)) w.heap.size 3 (fun j=>if j=0 then .int .i64 z else if j=1 then .int .i64 o else .string tag)):=(HB1.out.set 2 (by omega) (.string tag)).congr (fun j hj=>by
  match j,hj with
  | 0,_=>rfl
  | 1,_=>rfl
  | 2,_=>rfl)
 have HS2:Hid (Since w (w1.setCell ⟨w.heap.size,2,none⟩ (.string tag))):=bY.out.setCell (Nat.le_refl _) _;go_wp2_with fail
 clear HB1 bY b0 b1;generalize w1.setCell ⟨w.heap.size,2,none⟩ (.string tag)=w2 at *;have HD:Hid (Since w2 w2.drew):=(Since.refl w2).drew;have HB3:Hid (ak w2.drew w.heap.size 3 (fun j=>if j=0 then .int .i64 z else if j=1 then .int .i64 o else .string tag)):=HB2.out.since HD.out;have jZ:Hid (ak w2.drew vb 102 (bV db cb kb kt S.T S.X S.dead)):=H.out.bL.since (HS2.out.trans HD.out);have yP:Hid (ak w2 vb 102 (bV db cb kb kt S.T S.X S.dead)):=H.out.bL.since HS2.out;have a0:w2.cell? ⟨w.heap.size,0,none⟩=some (.int .i64 z):=HB2.out.cell 0 (by omega);have a1:w2.cell? ⟨w.heap.size,1,none⟩=some (.int .i64 o):=HB2.out.cell 1 (by omega);have a2:w2.cell? ⟨w.heap.size,2,none⟩=some (.string tag):=HB2.out.cell 2 (by omega);have b0:w2.drew.cell? ⟨w.heap.size,0,none⟩=some (.int .i64 z):=HB3.out.cell 0 (by omega)
 have b1:w2.drew.cell? ⟨w.heap.size,1,none⟩=some (.int .i64 o):=HB3.out.cell 1 (by omega);have b2:w2.drew.cell? ⟨w.heap.size,2,none⟩=some (.string tag):=HB3.out.cell 2 (by omega);have c0:=yP.out.cell (5+i*3) (by omega);have c1:=yP.out.cell (5+i*3+1) (by omega);have c2:=yP.out.cell (5+i*3+2) (by omega);have d0:=jZ.out.cell (5+i*3) (by omega);have d1:=jZ.out.cell (5+i*3+1) (by omega);have d2:=jZ.out.cell (5+i*3+2) (by omega);have f0:=yP.out.frozen (5+i*3) (by omega);have f1:=yP.out.frozen (5+i*3+1) (by omega);have f2:=yP.out.frozen (5+i*3+2) (by omega);have g0:=jZ.out.frozen (5+i*3) (by omega);have g1:=jZ.out.frozen (5+i*3+1) (by omega);have g2:=jZ.out.frozen (5+i*3+2) (by omega);clear HB2 HB3 yP jZ HD;go_region
 have Fy:Hid (bF w0 w (((w2.setCell ⟨vb,5+i*3,none⟩ (.int .i64 z)).setCell ⟨vb,5+i*3+1,none⟩ (.int .i64 o)).setCell ⟨vb,5+i*3+2,none⟩ (.string tag)).drew vb db cb kb kt { S with T:=dz S.T i z o tag } v):=by
  refine(H.out.to HS2.out).then fun v1 h1=>?_
  refine bF.go ?_ (Since.refl _).drew;exact h1.DV (T':=dz S.T i z o tag) (X':=S.X) (f':=S.dead) ((((h1.bL.set (5+i*3) (by omega) _).set (5+i*3+1) (by omega) _).set (5+i*3+2) (by omega) _).congr (fun j hj=>Lg _ _ _ _ _ _ _ i hi z o tag j hj)) (((Fr.setCell _ _ _ _ _).trans' (Fr.setCell _ _ _ _ _)).trans' (Fr.setCell _ _ _ _ _)) (((h1.ty.setCell _ _).setCell _ _).setCell _ _)
 clear a0 a1 a2 b0 b1 b2 c0 c1 c2 d0 d1 d2 f0 f1 f2 g0 g1 g2 HS2 H;go_wp2_with fail
 generalize (((w2.setCell ⟨vb,5+i*3,none⟩ (.int .i64 z)).setCell ⟨vb,5+i*3+1,none⟩ (.int .i64 o)).setCell ⟨vb,5+i*3+2,none⟩ (.string tag)).drew=w3 at *;obtain⟨v3,h3,F3⟩:=Fy.out.cont;have H3:Hid (bg w0 w3 vb db cb kb kt { S with T:=dz S.T i z o tag } v3):=h3;have ZB:Hid (∀w' S',bF w0 w3 w' vb db cb kb kt S' v3→bF w0 w w' vb db cb kb kt S' v):=F3;clear h3 F3 Fy;go_region_held3 (fun _=>True) (trivial) (first
  | (go_simp;go_at_call 72;refine(YT.out _).mono ?_;rintro e w4 ⟨rfl,h4⟩;have H4:Hid (Since w3 w4):=(Since.refl w3).drew.trans h4;have k0:=(H3.out.bL.since H4.out).cell (77+i) (by omega);have k1:=(H3.out.bL.since H4.out).frozen (77+i) (by omega);clear h4;dsimp only))
 all_goals
  go_wp2_with fail
  go_end0
  refine⟨rfl,ZB.out _ _ ((H3.out.to H4.out).then fun v5 h5=>?_)⟩;exact h5.DV (T':=dz S.T i z o tag) (X':=fq S.X i t) (f':=S.dead) ((h5.bL.set (77+i) (by omega) _).congr (fun j hj=>GJ _ _ _ _ _ _ _ i hi t j hj)) (Fr.setCell _ _ _ _ _) (h5.ty.setCell _ _)
end
end Vl
end Go.Proofs.YtmhcfaaggkidjaaGreatDoor
end
section
namespace Go.Proofs.YtmhcfaaggkidjaaGreatDoor
set_option maxRecDepth 100000
namespace Vl
open Go.RowKit
open Tw (Tb af bE bO)
theorem vH:ev 0=.nilIface:=by unfold ev;rw[if_pos rfl]
theorem oQ (n:Int) (h:n≠0):ev n=.iface 32 (.int .i64 n):=by unfold ev;rw[if_neg h]
section
variable {w0 w:World} {vb db cb:Nat} {kb kt:ByteArray} {S:Vs} {v:Value}
theorem bg.Pj (B:Base w0 kb kt) (h:bg w0 w vb db cb kb kt S v):Sm.jW w:=B.tab.since h.since
set_option maxHeartbeats 4000000 in
theorem qY (B:Base w0 kb kt) (i:Nat) (t:ByteArray) (but:Int) (hi:i<24) (ht:t.size≤80) (h:bg w0 w vb db cb kb kt S v) :
  Calls Tryz.prog 179 #[.pointer (some ⟨vb,0,none⟩),.int .i64 (i:Int),.string t,.int .i64 but] w fun e w'=>e=.returned (ev (S.put kb i but t).1)∧bF w0 w w' vb db cb kb kt (S.put kb i but t).2 v:=by
 have H:Hid (bg w0 w vb db cb kb kt S v):=h;have HB:Hid (Base w0 kb kt):=B;clear h B;go_enter Tryz.func179,Tryz.ntmps179
 go_wp2_with fail
 refine(wT H.out).mono ?_;rintro e w1 ⟨⟨x,rfl,hx⟩,hs⟩;have HX:Hid (Sp.Ls w1 w1.heap.size x 8 S.kI):=hx;have HS:Hid (Since w w1):=hs;clear hx hs;go_wp2_with fail
 refine(Sp.a0l x 8 _ _ but _ HX.out (by omega)).mono ?_;rintro e w2 ⟨⟨z,ok,rfl,hr⟩,rfl⟩;have HR:Hid _:=TI hr;clear hr;rcases HR.out with⟨rfl,k,rfl,hk⟩ | ⟨rfl,rfl,hk⟩
 ·have hk3:=jk hk;have HK:Hid (room S.kI but=some k):=hk;have HK3:Hid (k<8∧(k:Int)≠but∧S.kI k<16):=hk3;clear hk hk3 HR;have H1:Hid (bg w0 w2 vb db cb kb kt S v):=H.out.go HS.out;have q2:=H1.out.c2;go_wp2_with fail
  have hi0:(0:Int)≤(i:Int):=by omega
  refine(Sl.Tk kb i t _ HB.out.kb (by omega) (by omega) ht (H1.out.Pj HB.out)).mono ?_;rintro e w3 ⟨rfl,h3⟩;have H3:Hid (bg w0 w3 vb db cb kb kt S v):=H1.out.go h3;have iw:Hid (Since w w3):=HS.out.trans h3;have q0:=H3.out.c0;have HZ:Hid ((Sl.aS kb i t).size=109):=Sl.gD kb i t;have HP:Hid (S.put kb i but t=if S.D.may=false then (14,{ S with dead:=true }) else (0,{ S with D:=S.D.au.app k (Sl.aS kb i t),T:=dz S.T i k (S.D.cnt k) ((Sl.aS kb i t).extract 0 16),X:=fq S.X i t })):=by
   show S.put kb i but t=_
   unfold Vs.put;rw[HK.out]
  clear h3 q2 H1;generalize Sl.aS kb i t=s at *;have ZC:Hid (S.D.cnt k<16):=by
   have:=HK3.out.2.2;unfold Vs.kI at this;show S.D.cnt k<16
   omega
  cases hm:S.D.may with
  | false=>
   have HM:Hid (S.D.may=false):=hm;clear hm;go_wp2_with fail
   refine(Bi S.D v db k s _ H3.out.dev HK3.out.1 (by have:=HZ.out;omega) ZC.out HM.out).mono ?_;rintro e w4 ⟨rfl,rfl⟩;go_wp2_with fail
   have hh:=kX 14 H3.out;rw[oQ 14 (by decide)] at hh;refine hh.mono ?_;clear hh;rintro e w5 ⟨rfl,h5⟩;go_wp2_with fail
   go_ret;refine⟨?_,?_⟩
   ·rw[HP.out,if_pos HM.out,oQ 14 (by decide)];rfl
   rw[HP.out,if_pos HM.out];have h6:=bF.pre iw.out h5
   simpa using h6
  | true=>
   have HM:Hid (S.D.may=true):=hm;clear hm;go_wp2_with fail
   refine(Gi S.D v db k s _ H3.out.dev HK3.out.1 (by have:=HZ.out;omega) ZC.out HM.out).mono ?_;rintro e w4 ⟨rfl,hd4,zQ⟩;have HT4:Hid (bF w0 w3 w4 vb db cb kb kt { S with D:=S.D.au.app k s } v):=H3.out.DU hd4 (Fr.wide zQ) (Nx.refl _ _);clear hd4 zQ;obtain⟨v4,h4,F4⟩:=(bF.pre iw.out HT4.out).cont;have H4:Hid (bg w0 w4 vb db cb kb kt { S with D:=S.D.au.app k s } v4):=h4;have OC:Hid (∀w' S',bF w0 w4 w' vb db cb kb kt S' v4→bF w0 w w' vb db cb kb kt S' v):=F4;clear h4 F4 HT4;go_wp2_with fail
   have hh:=kX 0 H4.out;rw[vH] at hh;refine hh.mono ?_;clear hh;rintro e w5 ⟨rfl,h5⟩;obtain⟨v5,h6,F5⟩:=h5.cont;have h66:bg w0 w5 vb db cb kb kt { S with D:=S.D.au.app k s } v5:=by simpa using h6
   have H5:Hid (bg w0 w5 vb db cb kb kt { S with D:=S.D.au.app k s } v5):=h66;have ZE:Hid (∀w' S',bF w0 w5 w' vb db cb kb kt S' v5→bF w0 w w' vb db cb kb kt S' v):=fun w' S' h7=>OC.out w' S' (F5 w' S' h7)
   clear h5 h6 h66 F5 OC H4 q0;have a2s:(16:Int)≤s.size:=by have:=HZ.out;omega
   have HE:Hid ((s.extract 0 16).size≤600):=by
    show (s.extract 0 16).size≤600
    rw[ByteArray.size_extract];omega
   go_wp2_with fail
   refine(JH i k (S.D.cnt k) (s.extract 0 16) t hi HE.out (by omega) H5.out).mono ?_;rintro e w6 ⟨rfl,h7⟩;go_wp2_with fail
   go_ret;refine⟨?_,?_⟩
   ·rw[HP.out,if_neg (by rw[HM.out];decide),vH];rfl
   rw[HP.out,if_neg (by rw[HM.out];decide)];exact ZE.out _ _ h7
 have HK:Hid (room S.kI but=none):=hk;clear hk HR;go_wp2_with fail
 go_ret;have HP:S.put kb i but t=(12,S):=by unfold Vs.put;rw[HK.out]
 rw[HP];exact⟨by rw[oQ 12 (by decide)];rfl,H.out.to HS.out⟩
end
end Vl
end Go.Proofs.YtmhcfaaggkidjaaGreatDoor
end
section
namespace Go.Proofs.YtmhcfaaggkidjaaGreatDoor
set_option maxRecDepth 100000
namespace Vl
open Go.RowKit
open Tw (Tb af bE bO)
theorem iD {w w':World} {b o:Nat} {l:List Value} (h:w.rangeAt b o l) (hs:Since w w'):w'.rangeAt b o l:=fun j x hj=>by
 have:=h j x hj;rw[hs.cell (p:=⟨b,o+j,none⟩) (World.block_lt_of_cell? w _ this)];exact this
def Pk (key:ByteArray) (U:Tb) (A:ByteArray):Prop:=∀W,Sm.jW W→Calls Tryz.prog 187 #[.string key,.agg (aa 73 (af U)).toArray] W fun e w'=>e=.returned (.tuple #[.string A,.nilIface])∧Since W w'
def Pm (D:Dv) (k:Nat) (s:ByteArray):Int × Dv:=if D.may=false then (14,D) else (0,D.au.wrote k s)
def BB (D:Dv):Int × Dv:=if D.may=false then (14,D) else (0,D.au.synced)
def Pn (D:Dv) (k:Nat):Int × Dv:=if D.may=false then (14,D) else (0,D.au.reset k)
section
variable {w0 w:World} {vb db cb:Nat} {kb kt:ByteArray} {S:Vs} {v:Value}
theorem Po (k:Nat) (s:ByteArray) (hk:k<2) (hs:s.size≤500) (hn:S.D.ws.length<1000) (h:bg w0 w vb db cb kb kt S v) :
  Calls Tryz.prog 188 #[.pointer (some ⟨db,0,none⟩),.int .i64 (k:Int),.string s] w fun e w'=>e=.returned (ev (Pm S.D k s).1)∧bF w0 w w' vb db cb kb kt { S with D:=(Pm S.D k s).2 } v:=by
 unfold Pm;cases hm:S.D.may with
 | false=>
  rw[if_pos rfl,oQ 14 (by decide)];refine(KJ S.D v db k s w h.dev hk hs hm).mono ?_;rintro e w' ⟨rfl,rfl⟩;exact⟨rfl,h.self⟩
 | true=>
  rw[if_neg (by decide),vH];refine(Go.Proofs.YtmhcfaaggkidjaaGreatDoor.qY S.D v db k s w h.dev hk hs hm hn).mono ?_;rintro e w' ⟨rfl,v',hd,hf,hx⟩;exact⟨rfl,h.DU hd hf hx⟩
theorem zW (h:bg w0 w vb db cb kb kt S v) :
  Calls Tryz.prog 135 #[.pointer (some ⟨db,0,none⟩)] w fun e w'=>e=.returned (ev (BB S.D).1)∧bF w0 w w' vb db cb kb kt { S with D:=(BB S.D).2 } v:=by
 unfold BB;cases hm:S.D.may with
 | false=>
  rw[if_pos rfl,oQ 14 (by decide)];refine(Gm S.D v db w h.dev hm).mono ?_;rintro e w' ⟨rfl,rfl⟩;exact⟨rfl,h.self⟩
 | true=>
  rw[if_neg (by decide),vH];refine(OD S.D v db w h.dev hm).mono ?_;rintro e w' ⟨rfl,hd,hf⟩;exact⟨rfl,h.DU hd (Fr.wide hf) (Nx.none _ _)⟩
theorem GL (k:Nat) (hk:k<8) (h:bg w0 w vb db cb kb kt S v) :
  Calls Tryz.prog 208 #[.pointer (some ⟨db,0,none⟩),.int .i64 (k:Int)] w fun e w'=>e=.returned (ev (Pn S.D k).1)∧bF w0 w w' vb db cb kb kt { S with D:=(Pn S.D k).2 } v:=by
 unfold Pn;cases hm:S.D.may with
 | false=>
  rw[if_pos rfl,oQ 14 (by decide)];refine(Dp S.D v db k w h.dev hk hm).mono ?_;rintro e w' ⟨rfl,rfl⟩;exact⟨rfl,h.self⟩
 | true=>
  rw[if_neg (by decide),vH];refine(KM S.D v db k w h.dev hk hm).mono ?_;rintro e w' ⟨rfl,hd,hf⟩;exact⟨rfl,h.DU hd (Fr.wide hf) (Nx.refl _ _)⟩
set_option maxHeartbeats 4000000 in
theorem gP (B:Base w0 kb kt) (U:Tb) (hU:Tw.Rt U) (hc:S.c<U.count) (hws:S.D.ws.length<1000) (h:bg w0 w vb db cb kb kt S v) :
  Calls Tryz.prog 136 #[.pointer (some ⟨vb,0,none⟩),bE U] w fun e w'=>e=.returned (ev (S.tell kt U).1)∧bF w0 w w' vb db cb kb kt (S.tell kt U).2 v:=by
 have H:Hid (bg w0 w vb db cb kb kt S v):=h;have HB:Hid (Base w0 kb kt):=B;have HW:Hid (Pk kt U (Tw.text kt U)):=fun W hW=>Tw.wO kt U W B.kt hU hW
 have HZ:Hid ((Tw.text kt U).size≤500):=by
  show (Tw.text kt U).size≤500
  rw[Tw.jh hU.2];omega
 have HC:Hid (S.c<U.count∧1≤U.count):=⟨hc,hU.1.1⟩
 have HN:Hid (S.D.ws.length<1000):=hws;have HP:Hid (S.tell kt U=if S.D.may=false then (14,{ S with dead:=true }) else
  if (S.D.au.wrote (U.count % 2).toNat (Tw.text kt U)).may=false then (14,{ S with D:=S.D.au.wrote (U.count % 2).toNat (Tw.text kt U),dead:=true }) else
   (0,{ S with D:=(S.D.au.wrote (U.count % 2).toNat (Tw.text kt U)).au.synced,c:=U.count })):=by
  show S.tell kt U=_
  rfl
 have HR:Hid ((w.alloc (.cells (aa 73 (af U)).toArray 163)).rangeAt w.heap.size 0 (aa 73 (af U))):=Tw.dD (Tw.fK U w);have hq0:(w.alloc (.cells (aa 73 (af U)).toArray 163)).cell? ⟨w.heap.size,0,none⟩=some (.int .i64 U.count):=(Tw.fK U w).cell 0 (by omega);have ZF:Hid ((w.alloc (.cells (aa 73 (af U)).toArray 163)).cell? ⟨w.heap.size,0,none⟩=some (.int .i64 U.count)):=hq0;have HS:Hid (Since w (w.alloc (.cells (aa 73 (af U)).toArray 163))):=(Since.refl w).alloc _;have hL:=Tw.pW U;clear h B hU hc hws hq0;unfold bE;generalize Tw.text kt U=s at *;have HBR:Hid (∀W,Sm.jW W→Calls Tryz.prog 187 #[.string kt,.agg (aa 73 (af U)).toArray] W fun e w'=>e=.returned (.tuple #[.string s,.nilIface])∧Since W w'):=HW.out;clear HW;generalize aa 73 (af U)=cs at *;generalize hcn:U.count=n at *;clear hcn
 have H1:Hid (bg w0 (w.alloc (.cells cs.toArray 163)) vb db cb kb kt S v):=H.out.go HS.out;go_enter Tryz.func136,Tryz.ntmps136
 go_wp2_with fail
 generalize w.alloc (.cells cs.toArray 163)=w1 at *;have H1d:Hid (bg w0 w1.drew vb db cb kb kt S v):=H1.out.go (Since.refl _).drew;have HSd:Hid (Since w w1.drew):=HS.out.drew;have HQd:Hid (w1.drew.cell? ⟨w.heap.size,0,none⟩=some (.int .i64 n)):=ZF.out;have hS1:(fun W:World=>W.rangeAt w.heap.size 0 cs∧W.cell? ⟨vb,3,none⟩=some (.string kt)) w1.drew:=⟨iD HR.out (Since.refl _).drew,H1d.out.c3⟩
 refine wp_region_held (S:=fun W:World=>W.rangeAt w.heap.size 0 cs∧W.cell? ⟨vb,3,none⟩=some (.string kt)) (by kernel_rfl) ?_;refine Tw.takeD (i:=0) (d:=10) (v:=?v1) rfl rfl (by kernel_rfl) (by kernel_rfl) (by kernel_rfl) (fun _ _ _ h=>h) (Or.inl ⟨by rfl,?hw1⟩) hS1 ?q1
 case hw1=>(intro w hSw;obtain⟨s0,s1⟩:=hSw;go_simp;try with_reducible rfl)
 simp only[Act.put,List.setIfInBounds_toArray,List.set_cons_zero,List.set_cons_succ];refine Tw.takeD (i:=1) (d:=11) (v:=?v2) rfl rfl (by kernel_rfl) (by kernel_rfl) (by kernel_rfl) (fun _ _ _ h=>h) (Or.inl ⟨by rfl,?hw2⟩) hS1 ?q2
 case hw2=>(intro w hSw;obtain⟨s0,s1⟩:=hSw;go_simp;try with_reducible rfl)
 simp only[Act.put,List.setIfInBounds_toArray,List.set_cons_zero,List.set_cons_succ];refine Tw.takeD (i:=2) (d:=12) (v:=?v3) rfl rfl (by kernel_rfl) (by kernel_rfl) (by kernel_rfl) (fun _ _ _ h=>h) (Or.inl ⟨by rfl,?hw3⟩) hS1 ?q3
 case hw3=>(intro w hSw;obtain⟨s0,s1⟩:=hSw;go_simp;try with_reducible rfl)
 simp only[Act.put,List.setIfInBounds_toArray,List.set_cons_zero,List.set_cons_succ];refine Tw.takeD (i:=3) (d:=13) (v:=?v4) rfl rfl (by kernel_rfl) (by kernel_rfl) (by kernel_rfl) (fun _ _ _ h=>h) (Or.inl ⟨by rfl,?hw4⟩) hS1 ?q4
 case hw4=>(intro w hSw;obtain⟨s0,s1⟩:=hSw;go_simp;try with_reducible rfl)
 simp only[Act.put,List.setIfInBounds_toArray,List.set_cons_zero,List.set_cons_succ];refine Tw.takeD (i:=4) (d:=14) (v:=.agg cs.toArray) rfl rfl (by kernel_rfl) (by kernel_rfl) (by kernel_rfl) (fun _ _ _ h=>h) (yieldsIf_load_mid (by rfl) 163 _ (by rfl) w.heap.size 0 (by rfl) _ _ (fun w hSw=>hSw.1) Tryz.underlying163 (by rfl) (by rw[hL];kernel_rfl)) hS1 ?q5;simp only[Act.put,List.setIfInBounds_toArray,List.set_cons_zero,List.set_cons_succ];refine wpAnyH_ready (rs:=[5]) (by kernel_rfl) (by simp) (AllReadyH.cons rfl (fun K hK=>?_) AllReadyH.nil);rw[if_pos (by rfl)];go_simp
 refine(HBR.out _ (H1d.out.Pj HB.out)).mono ?_;rintro e w2 ⟨rfl,h2⟩;simp only[];have H2:Hid (bg w0 w2 vb db cb kb kt S v):=H1d.out.go h2;have HS2:Hid (Since w w2):=HSd.out.trans h2;have Tx:Hid (w2.cell? ⟨w.heap.size,0,none⟩=some (.int .i64 n)):=by
  show w2.cell? ⟨w.heap.size,0,none⟩=some (.int .i64 n)
  rw[h2.cell (p:=⟨w.heap.size,0,none⟩) (World.block_lt_of_cell? _ _ HQd.out)];exact HQd.out
 have hS2:(fun W:World=>W.rangeAt w.heap.size 0 cs∧W.cell? ⟨vb,3,none⟩=some (.string kt)) w2:=⟨iD hS1.1 h2,H2.out.c3⟩
 clear h2;refine hK.out _ _ hS2 (fun _=>?_);clear hK K
 (try simp only[Act.put,List.setIfInBounds_toArray,List.set_cons_zero,List.set_cons_succ])
 refine Tw.takeD (i:=6) (d:=9) (v:=?v8) rfl rfl (by kernel_rfl) (by kernel_rfl) (by kernel_rfl) (fun _ _ _ h=>h) (Or.inl ⟨by rfl,?hw8⟩) hS2 ?q8
 case hw8=>(intro w hSw;obtain⟨s0,s1⟩:=hSw;go_simp;try with_reducible rfl)
 simp only[Act.put,List.setIfInBounds_toArray,List.set_cons_zero,List.set_cons_succ];refine Tw.takeD (i:=7) (d:=16) (v:=?v9) rfl rfl (by kernel_rfl) (by kernel_rfl) (by kernel_rfl) (fun _ _ _ h=>h) (Or.inl ⟨by rfl,?hw9⟩) hS2 ?q9
 case hw9=>(intro w hSw;obtain⟨s0,s1⟩:=hSw;go_simp;try with_reducible rfl)
 simp only[Act.put,List.setIfInBounds_toArray,List.set_cons_zero,List.set_cons_succ];refine Tw.takeD (i:=8) (d:=17) (v:=?v10) rfl rfl (by kernel_rfl) (by kernel_rfl) (by kernel_rfl) (fun _ _ _ h=>h) (Or.inl ⟨by rfl,?hw10⟩) hS2 ?q10
 case hw10=>(intro w hSw;obtain⟨s0,s1⟩:=hSw;go_simp;try with_reducible rfl)
 simp only[Act.put,List.setIfInBounds_toArray,List.set_cons_zero,List.set_cons_succ];refine Tw.takeD (i:=9) (d:=5) (v:=?v11) rfl rfl (by kernel_rfl) (by kernel_rfl) (by kernel_rfl) (fun _ _ _ h=>h) (Or.inl ⟨by rfl,?hw11⟩) hS2 ?q11
 case hw11=>(intro w hSw;obtain⟨s0,s1⟩:=hSw;go_simp;try with_reducible rfl)
 simp only[Act.put,List.setIfInBounds_toArray,List.set_cons_zero,List.set_cons_succ];refine Tw.takeD (i:=10) (d:=6) (v:=?v12) rfl rfl (by kernel_rfl) (by kernel_rfl) (by kernel_rfl) (fun _ _ _ h=>h) (Or.inl ⟨by rfl,?hw12⟩) hS2 ?q12
 case hw12=>(intro w hSw;obtain⟨s0,s1⟩:=hSw;go_simp;try with_reducible rfl)
 simp only[Act.put,List.setIfInBounds_toArray,List.set_cons_zero,List.set_cons_succ];refine wpAnyH_done (by kernel_rfl) ?_ _;clear hS1 hS2 H1 H1d HS HSd ZF HQd HR HBR hL;have hn1:0≤n:=by have:=HC.out.2;omega
 obtain⟨kk,hkk,hk2⟩:∃k:Nat,n % 2=k∧k<2:=⟨(n % 2).toNat,by omega,by omega⟩
 have HKK:Hid (n % 2=(kk:Int)):=hkk;have HK2:Hid (kk<2):=hk2;clear hkk hk2;go_wp2_with fail
 have H2d:Hid (bg w0 w2.drew vb db cb kb kt S v):=H2.out.go (Since.refl _).drew;have ZG:Hid (Since w w2.drew):=HS2.out.drew;have hS2:(fun W:World=>W.cell? ⟨vb,0,none⟩=some (.pointer (some ⟨db,0,none⟩))∧W.cell? ⟨w.heap.size,0,none⟩=some (.int .i64 n)) w2.drew:=⟨H2d.out.c0,Tx.out⟩
 refine wp_region_held (S:=fun W:World=>W.cell? ⟨vb,0,none⟩=some (.pointer (some ⟨db,0,none⟩))∧W.cell? ⟨w.heap.size,0,none⟩=some (.int .i64 n)) (by kernel_rfl) ?_;refine Tw.takeD (i:=0) (d:=21) (v:=?v14) rfl rfl (by kernel_rfl) (by kernel_rfl) (by kernel_rfl) (fun _ _ _ h=>h) (Or.inl ⟨by rfl,?hw14⟩) hS2 ?q14
 case hw14=>(intro w hSw;obtain⟨s0,s1⟩:=hSw;go_simp;try with_reducible rfl)
 simp only[Act.put,List.setIfInBounds_toArray,List.set_cons_zero,List.set_cons_succ];refine Tw.takeD (i:=1) (d:=22) (v:=?v15) rfl rfl (by kernel_rfl) (by kernel_rfl) (by kernel_rfl) (fun _ _ _ h=>h) (Or.inl ⟨by rfl,?hw15⟩) hS2 ?q15
 case hw15=>(intro w hSw;obtain⟨s0,s1⟩:=hSw;go_simp;try with_reducible rfl)
 simp only[Act.put,List.setIfInBounds_toArray,List.set_cons_zero,List.set_cons_succ];refine Tw.takeD (i:=2) (d:=23) (v:=?v16) rfl rfl (by kernel_rfl) (by kernel_rfl) (by kernel_rfl) (fun _ _ _ h=>h) (Or.inl ⟨by rfl,?hw16⟩) hS2 ?q16
 case hw16=>(intro w hSw;obtain⟨s0,s1⟩:=hSw;go_simp;try with_reducible rfl)
 simp only[Act.put,List.setIfInBounds_toArray,List.set_cons_zero,List.set_cons_succ];refine Tw.takeD (i:=3) (d:=24) (v:=?v17) rfl rfl (by kernel_rfl) (by kernel_rfl) (by kernel_rfl) (fun _ _ _ h=>h) (Or.inl ⟨by rfl,?hw17⟩) hS2 ?q17
 case hw17=>(intro w hSw;obtain⟨s0,s1⟩:=hSw;go_simp;try with_reducible rfl)
 simp only[Act.put,List.setIfInBounds_toArray,List.set_cons_zero,List.set_cons_succ];refine Tw.takeD (i:=4) (d:=25) (v:=?v18) rfl rfl (by kernel_rfl) (by kernel_rfl) (by kernel_rfl) (fun _ _ _ h=>h) (Or.inl ⟨by rfl,?hw18⟩) hS2 ?q18
 case hw18=>(intro w hSw;obtain⟨s0,s1⟩:=hSw;go_simp;try with_reducible rfl)
 simp only[Act.put,List.setIfInBounds_toArray,List.set_cons_zero,List.set_cons_succ];refine Tw.takeD (i:=5) (d:=26) (v:=?v19) rfl rfl (by kernel_rfl) (by kernel_rfl) (by kernel_rfl) (fun _ _ _ h=>h) (Or.inl ⟨by rfl,?hw19⟩) hS2 ?q19
 case hw19=>(intro w hSw;obtain⟨s0,s1⟩:=hSw;go_simp;try with_reducible rfl)
 simp only[Act.put,List.setIfInBounds_toArray,List.set_cons_zero,List.set_cons_succ];refine Tw.takeD (i:=6) (d:=27) (v:=?v20) rfl rfl (by kernel_rfl) (by kernel_rfl) (by kernel_rfl) (fun _ _ _ h=>h) (Or.inl ⟨by rfl,?hw20⟩) hS2 ?q20
 case hw20=>(intro w hSw;obtain⟨s0,s1⟩:=hSw;go_simp;try with_reducible rfl)
 simp only[Act.put,List.setIfInBounds_toArray,List.set_cons_zero,List.set_cons_succ];refine Tw.takeD (i:=8) (d:=29) (v:=?v21) rfl rfl (by kernel_rfl) (by kernel_rfl) (by kernel_rfl) (fun _ _ _ h=>h) (Or.inl ⟨by rfl,?hw21⟩) hS2 ?q21
 case hw21=>(intro w hSw;obtain⟨s0,s1⟩:=hSw;go_simp;try with_reducible rfl)
 simp only[Act.put,List.setIfInBounds_toArray,List.set_cons_zero,List.set_cons_succ];refine wpAnyH_ready (rs:=[7]) (by kernel_rfl) (by simp) (AllReadyH.cons rfl (fun K hK=>?_) AllReadyH.nil);rw[if_pos (by rfl)];go_simp
 refine(iy n _ hn1).mono ?_;rintro e w3 ⟨rfl,rfl⟩;simp only[];refine hK.out _ _ hS2 (fun _=>?_);clear hK K
 (try simp only[Act.put,List.setIfInBounds_toArray,List.set_cons_zero,List.set_cons_succ])
 refine wpAnyH_ready (rs:=[9]) (by kernel_rfl) (by simp) (AllReadyH.cons rfl (fun K hK=>?_) AllReadyH.nil);rw[if_pos (by rfl)];go_simp
 rw[HKK.out];refine(Po kk s HK2.out HZ.out HN.out H2d.out).mono ?_;rintro e w4 ⟨rfl,h4⟩;simp only[];obtain⟨v4,h4v,F4,x4,y4⟩:=h4.DT H.out.GH Tx.out;have H4:Hid (bg w0 w4 vb db cb kb kt { S with D:=(Pm S.D kk s).2 } v4):=h4v;have OC:Hid (∀w' S',bF w0 w4 w' vb db cb kb kt S' v4→bF w0 w w' vb db cb kb kt S' v):=fun w' S' h=>bF.pre ZG.out (F4 w' S' h)
 have HQ4:Hid (w4.cell? ⟨w.heap.size,0,none⟩=some (.int .i64 n)∧¬VP vb db cb v4 w.heap.size):=⟨x4,y4⟩
 have jX:(fun W:World=>W.cell? ⟨vb,0,none⟩=some (.pointer (some ⟨db,0,none⟩))∧W.cell? ⟨w.heap.size,0,none⟩=some (.int .i64 n)) w4:=⟨H4.out.c0,HQ4.out.1⟩
 clear h4v F4 h4 hS2 x4 y4;refine hK.out _ _ jX (fun _=>?_);clear hK K
 (try simp only[Act.put,List.setIfInBounds_toArray,List.set_cons_zero,List.set_cons_succ])
 refine wpAnyH_ready (rs:=[10]) (by kernel_rfl) (by simp) (AllReadyH.cons rfl (fun K hK=>?_) AllReadyH.nil);rw[if_pos (by rfl)];go_simp
 refine(kX (Pm S.D kk s).1 H4.out).mono ?_;rintro e w5 ⟨rfl,h5⟩;simp only[];obtain⟨v5,ZH,F5,x5,y5⟩:=h5.DT HQ4.out.2 HQ4.out.1;have H5:Hid (bg w0 w5 vb db cb kb kt { S with D:=(Pm S.D kk s).2,dead:=S.dead||decide ((Pm S.D kk s).1=14) } v5):=ZH;have ZE:Hid (∀w' S',bF w0 w5 w' vb db cb kb kt S' v5→bF w0 w w' vb db cb kb kt S' v):=fun w' S' h=>OC.out w' S' (F5 w' S' h)
 have HQ5:Hid (w5.cell? ⟨w.heap.size,0,none⟩=some (.int .i64 n)∧¬VP vb db cb v5 w.heap.size):=⟨x5,y5⟩
 have hS5:(fun W:World=>W.cell? ⟨vb,0,none⟩=some (.pointer (some ⟨db,0,none⟩))∧W.cell? ⟨w.heap.size,0,none⟩=some (.int .i64 n)) w5:=⟨H5.out.c0,HQ5.out.1⟩
 clear h5 ZH F5 x5 y5;refine hK.out _ _ hS5 (fun _=>?_);clear hK K
 (try simp only[Act.put,List.setIfInBounds_toArray,List.set_cons_zero,List.set_cons_succ])
 refine Tw.takeD (i:=11) (d:=7) (v:=?v28) rfl rfl (by kernel_rfl) (by kernel_rfl) (by kernel_rfl) (fun _ _ _ h=>h) (Or.inl ⟨by rfl,?hw28⟩) hS5 ?q28
 case hw28=>(intro w hSw;obtain⟨s0,s1⟩:=hSw;go_simp;try with_reducible rfl)
 simp only[Act.put,List.setIfInBounds_toArray,List.set_cons_zero,List.set_cons_succ];refine wpAnyH_done (by kernel_rfl) ?_ _;clear hS5 jX H2 H2d HS2 ZG Tx HQ4 H4 OC;have HKE:Hid ((n % 2).toNat=kk):=by
  show (n % 2).toNat=kk
  rw[HKK.out,Int.toNat_natCast]
 cases hm:S.D.may with
 | false=>
  have e1:Pm S.D kk s=(14,S.D):=by unfold Pm;rw[if_pos hm]
  rw[e1] at H5 ⊢;rw[oQ 14 (by decide)];have HE:Hid (S.tell kt U=(14,{ S with dead:=true })):=by
   show S.tell kt U=_
   rw[HP.out,if_pos hm]
  clear e1 hm HP;go_wp2_with fail
  go_ret;rw[HE.out,oQ 14 (by decide)];refine⟨rfl,?_⟩;have:=ZE.out _ _ H5.out.self
  simpa using this
 | true=>
  have e1:Pm S.D kk s=(0,S.D.au.wrote kk s):=by unfold Pm;rw[if_neg (by rw[hm];decide)]
  rw[e1] at H5 ⊢;rw[vH];have HE:Hid (S.tell kt U=if (S.D.au.wrote kk s).may=false then (14,{ S with D:=S.D.au.wrote kk s,dead:=true }) else (0,{ S with D:=(S.D.au.wrote kk s).au.synced,c:=n })):=by
   show S.tell kt U=_
   rw[HP.out,if_neg (by rw[hm];decide),HKE.out]
  clear e1 hm HP;have h5:bg w0 w5 vb db cb kb kt { S with D:=S.D.au.wrote kk s } v5:=by
   have:=H5.out
   simpa using this
  generalize S.D.au.wrote kk s=D2 at *;clear H5;have H5:Hid (bg w0 w5 vb db cb kb kt { S with D:=D2 } v5):=h5;clear h5;have q0:=H5.out.c0;go_wp2_with fail
  refine(zW H5.out).mono ?_;rintro e w6 ⟨rfl,h6⟩;obtain⟨v6,Wp,F6,x6,y6⟩:=h6.DT HQ5.out.2 HQ5.out.1;have H6:Hid (bg w0 w6 vb db cb kb kt { S with D:=(BB D2).2 } v6):=Wp;have HF6:Hid (∀w' S',bF w0 w6 w' vb db cb kb kt S' v6→bF w0 w w' vb db cb kb kt S' v):=fun w' S' h=>ZE.out w' S' (F6 w' S' h)
  have HQ6:Hid (w6.cell? ⟨w.heap.size,0,none⟩=some (.int .i64 n)∧¬VP vb db cb v6 w.heap.size):=⟨x6,y6⟩
  clear h6 Wp F6 x6 y6 q0 H5 ZE HQ5;go_wp2_with fail
  refine(kX (BB D2).1 H6.out).mono ?_;rintro e w7 ⟨rfl,h7⟩;obtain⟨v7,ZI,F7,x7,y7⟩:=h7.DT HQ6.out.2 HQ6.out.1;have H7:Hid (bg w0 w7 vb db cb kb kt { S with D:=(BB D2).2,dead:=S.dead||decide ((BB D2).1=14) } v7):=ZI;have HF7:Hid (∀w' S',bF w0 w7 w' vb db cb kb kt S' v7→bF w0 w w' vb db cb kb kt S' v):=fun w' S' h=>HF6.out w' S' (F7 w' S' h)
  have HQ7:Hid (w7.cell? ⟨w.heap.size,0,none⟩=some (.int .i64 n)∧¬VP vb db cb v7 w.heap.size):=⟨x7,y7⟩
  clear h7 ZI F7 x7 y7 H6 HF6 HQ6;cases hm:D2.may with
  | false=>
   have e1:BB D2=(14,D2):=by unfold BB;rw[if_pos hm]
   rw[e1] at H7 ⊢;rw[oQ 14 (by decide)];have HE2:Hid (S.tell kt U=(14,{ S with D:=D2,dead:=true })):=by
    show S.tell kt U=_
    rw[HE.out,if_pos hm]
   clear e1 hm HE;go_wp2_with fail
   go_ret;rw[HE2.out,oQ 14 (by decide)];refine⟨rfl,?_⟩;have:=HF7.out _ _ H7.out.self
   simpa using this
  | true=>
   have e1:BB D2=(0,D2.au.synced):=by unfold BB;rw[if_neg (by rw[hm];decide)]
   rw[e1] at H7 ⊢;rw[vH];have HE2:Hid (S.tell kt U=(0,{ S with D:=D2.au.synced,c:=n })):=by
    show S.tell kt U=_
    rw[HE.out,if_neg (by rw[hm];decide)]
   clear e1 hm HE;have h7:bg w0 w7 vb db cb kb kt { S with D:=D2.au.synced } v7:=by
    have:=H7.out
    simpa using this
   generalize D2.au.synced=D3 at *;clear H7;have H7:Hid (bg w0 w7 vb db cb kb kt { S with D:=D3 } v7):=h7;clear h7;go_wp2_with fail
   have ZJ:Hid (bg w0 w7.drew vb db cb kb kt { S with D:=D3 } v7):=H7.out.go (Since.refl _).drew;have ZK:Hid (w7.drew.cell? ⟨w.heap.size,0,none⟩=some (.int .i64 n)):=HQ7.out.1;have Cz:(fun W:World=>W.cell? ⟨vb,1,none⟩=some (.pointer (some ⟨cb,0,none⟩))∧W.cell? ⟨w.heap.size,0,none⟩=some (.int .i64 n)) w7.drew:=⟨ZJ.out.c1,ZK.out⟩
   refine wp_region_held (S:=fun W:World=>W.cell? ⟨vb,1,none⟩=some (.pointer (some ⟨cb,0,none⟩))∧W.cell? ⟨w.heap.size,0,none⟩=some (.int .i64 n)) (by kernel_rfl) ?_;refine Tw.takeD (i:=0) (d:=45) (v:=?v30) rfl rfl (by kernel_rfl) (by kernel_rfl) (by kernel_rfl) (fun _ _ _ h=>h) (Or.inl ⟨by rfl,?hw30⟩) Cz ?q30
   case hw30=>(intro w hSw;obtain⟨s0,s1⟩:=hSw;go_simp;try with_reducible rfl)
   simp only[Act.put,List.setIfInBounds_toArray,List.set_cons_zero,List.set_cons_succ];refine Tw.takeD (i:=1) (d:=46) (v:=?v31) rfl rfl (by kernel_rfl) (by kernel_rfl) (by kernel_rfl) (fun _ _ _ h=>h) (Or.inl ⟨by rfl,?hw31⟩) Cz ?q31
   case hw31=>(intro w hSw;obtain⟨s0,s1⟩:=hSw;go_simp;try with_reducible rfl)
   simp only[Act.put,List.setIfInBounds_toArray,List.set_cons_zero,List.set_cons_succ];refine Tw.takeD (i:=2) (d:=47) (v:=?v32) rfl rfl (by kernel_rfl) (by kernel_rfl) (by kernel_rfl) (fun _ _ _ h=>h) (Or.inl ⟨by rfl,?hw32⟩) Cz ?q32
   case hw32=>(intro w hSw;obtain⟨s0,s1⟩:=hSw;go_simp;try with_reducible rfl)
   simp only[Act.put,List.setIfInBounds_toArray,List.set_cons_zero,List.set_cons_succ];refine Tw.takeD (i:=3) (d:=48) (v:=?v33) rfl rfl (by kernel_rfl) (by kernel_rfl) (by kernel_rfl) (fun _ _ _ h=>h) (Or.inl ⟨by rfl,?hw33⟩) Cz ?q33
   case hw33=>(intro w hSw;obtain⟨s0,s1⟩:=hSw;go_simp;try with_reducible rfl)
   simp only[Act.put,List.setIfInBounds_toArray,List.set_cons_zero,List.set_cons_succ];refine Tw.takeD (i:=4) (d:=49) (v:=?v34) rfl rfl (by kernel_rfl) (by kernel_rfl) (by kernel_rfl) (fun _ _ _ h=>h) (Or.inl ⟨by rfl,?hw34⟩) Cz ?q34
   case hw34=>(intro w hSw;obtain⟨s0,s1⟩:=hSw;go_simp;try with_reducible rfl)
   simp only[Act.put,List.setIfInBounds_toArray,List.set_cons_zero,List.set_cons_succ];refine Tw.takeD (i:=5) (d:=50) (v:=?v35) rfl rfl (by kernel_rfl) (by kernel_rfl) (by kernel_rfl) (fun _ _ _ h=>h) (Or.inl ⟨by rfl,?hw35⟩) Cz ?q35
   case hw35=>(intro w hSw;obtain⟨s0,s1⟩:=hSw;go_simp;try with_reducible rfl)
   simp only[Act.put,List.setIfInBounds_toArray,List.set_cons_zero,List.set_cons_succ];refine wpAnyH_ready (rs:=[6]) (by kernel_rfl) (by simp) (AllReadyH.cons rfl (fun K hK=>?_) AllReadyH.nil);rw[if_pos (by rfl)];go_simp
   refine(Mt.CB cb S.c n _ (ZJ.out.sQ.cell 0 (by omega)) (ZJ.out.sQ.frozen 0 (by omega)) (by have:=HC.out.1;omega)).mono ?_;rintro e w8 ⟨rfl,h8⟩;simp only[];have YU:Hid (bF w0 w w8 vb db cb kb kt { S with D:=D3,c:=n } v):=by
    rw[h8];exact HF7.out _ _ (bF.pre (Since.refl _).drew (ZJ.out.Pi (c':=n)))
   have ZL:(fun W:World=>W.cell? ⟨vb,1,none⟩=some (.pointer (some ⟨cb,0,none⟩))∧W.cell? ⟨w.heap.size,0,none⟩=some (.int .i64 n)) w8:=by
    have h9:=ZJ.out.Pi (c':=n);rw[←h8] at h9;obtain⟨v9,h9v,F9,x9,y9⟩:=h9.DT HQ7.out.2 ZK.out;exact⟨h9v.c1,x9⟩
   clear h8;refine hK.out _ _ ZL (fun _=>?_);clear hK K
   (try simp only[Act.put,List.setIfInBounds_toArray,List.set_cons_zero,List.set_cons_succ])
   refine Tw.takeD (i:=7) (d:=4) (v:=?v38) rfl rfl (by kernel_rfl) (by kernel_rfl) (by kernel_rfl) (fun _ _ _ h=>h) (Or.inl ⟨by rfl,?hw38⟩) ZL ?q38
   case hw38=>(intro w hSw;obtain⟨s0,s1⟩:=hSw;go_simp;try with_reducible rfl)
   simp only[Act.put,List.setIfInBounds_toArray,List.set_cons_zero,List.set_cons_succ];refine wpAnyH_done (by kernel_rfl) ?_ _;go_wp2_with fail
   go_ret;rw[HE2.out,vH];exact⟨rfl,YU.out⟩
end
end Vl
end Go.Proofs.YtmhcfaaggkidjaaGreatDoor
end
section
namespace Go.Proofs.YtmhcfaaggkidjaaGreatDoor
set_option maxRecDepth 100000
namespace Vl
open Go.RowKit
open Tw (Tb af bE bO)
theorem Lh (D:Dv):D.synced.ws=[]:=rfl
theorem next_cell (S:Vs) (j:Nat) (hj:j<73):aZ (af S.T) 0 (.int .i64 (S.T.count+1)) j=af S.next j:=by
 unfold aZ af Tw.gy Vs.next;by_cases e:j=0
 ·rw[if_pos e,if_pos e]
 rw[if_neg e,if_neg e,if_neg e]
theorem xy (db cb:Nat) (kb kt:ByteArray) (T U:Tb) (X:Nat→ByteArray) (f:Bool) (j:Nat) (hj:j<102) :
  dF (bV db cb kb kt T X f) 4 73 (af U) j=bV db cb kb kt U X f j:=by
 unfold dF;by_cases h:4≤j∧j<4+73
 ·rw[if_pos h];have:=tV db cb kb kt U X f (j-4) (by omega);rw[show 4+(j-4)=j by omega] at this;rw[this]
 rw[if_neg h];unfold bV;by_cases h4:j<77
 ·match j,(show j<4 by omega) with
  | 0,_=>rfl
  | 1,_=>rfl
  | 2,_=>rfl
  | 3,_=>rfl
 simp only[if_neg h4]
section
variable {w0 w:World} {vb db cb:Nat} {kb kt:ByteArray} {S:Vs} {v:Value}
set_option maxHeartbeats 4000000 in
theorem GM (h:bg w0 w vb db cb kb kt S v) (hd:S.dead=true) :
  Calls Tryz.prog 77 #[.pointer (some ⟨vb,0,none⟩)] w fun e w'=>e=.returned (ev 6)∧w'=w:=by
 have H:Hid (bg w0 w vb db cb kb kt S v):=h;have HD:Hid (S.dead=true):=hd;clear h hd;go_enter Tryz.func77,Tryz.ntmps77
 go_wp2_with fail
 refine(aO _ _).mono ?_;rintro e w' ⟨rfl,rfl⟩;go_wp2_with fail
 refine(jl H.out).mono ?_;rintro e w' ⟨rfl,rfl⟩;rw[HD.out];go_wp2_with fail
 go_ret;exact⟨by rw[oQ 6 (by decide)];rfl,rfl⟩
set_option maxHeartbeats 4000000 in
theorem zX (B:Base w0 kb kt) (hr:Tw.Rt S.next) (hc:S.c<S.T.count+1) (h:bg w0 w vb db cb kb kt S v) :
  Calls Tryz.prog 77 #[.pointer (some ⟨vb,0,none⟩)] w fun e w'=>e=.returned (ev (S.flush kt).1)∧bF w0 w w' vb db cb kb kt (S.flush kt).2 v:=by
 cases hd:S.dead with
 | true=>
  have e1:S.flush kt=(6,S):=by unfold Vs.flush;rw[hd];rfl
  rw[e1];refine(GM h hd).mono ?_;rintro e w' ⟨rfl,rfl⟩;exact⟨rfl,h.self⟩
 | false=>
  have HB:Hid (Base w0 kb kt):=B;have YO:Hid (Tw.Rt S.next):=hr;have HC:Hid (S.c<S.T.count+1):=hc;have HN:Hid (S.T.count+1≤1099511627776∧1≤S.T.count+1):=⟨hr.1.2,hr.1.1⟩
  have HP:Hid (S.flush kt=if S.D.may=false then (14,{ S with dead:=true }) else if (({ S with D:=S.D.au.synced }:Vs).tell kt S.next).1=0 then (0,{ (({ S with D:=S.D.au.synced }:Vs).tell kt S.next).2 with T:=S.next }) else ({ S with D:=S.D.au.synced }:Vs).tell kt S.next):=by
   show S.flush kt=_
   unfold Vs.flush;rw[hd]
   rfl
  have H:Hid (bg w0 w vb db cb kb kt S v):=h;have HD:Hid (S.dead=false):=hd;clear h hd B hr hc;go_enter Tryz.func77,Tryz.ntmps77
  go_wp2_with fail
  refine(aO _ _).mono ?_;rintro e wx ⟨rfl,hw⟩;rw[hw];clear hw wx;go_wp2_with fail
  refine(jl H.out).mono ?_;rintro e wx ⟨rfl,hw⟩;rw[hw];clear hw wx;rw[HD.out];have q0:=H.out.c0;go_wp2_with fail
  refine(zW H.out).mono ?_;rintro e w1 ⟨rfl,h1⟩;obtain⟨v1,h1v,F1⟩:=h1.cont;have H1:Hid (bg w0 w1 vb db cb kb kt { S with D:=(BB S.D).2 } v1):=h1v;have YQ:Hid (∀w'' S',bF w0 w1 w'' vb db cb kb kt S' v1→bF w0 w w'' vb db cb kb kt S' v):=F1;clear h1 h1v F1 q0;go_wp2_with fail
  refine(kX (BB S.D).1 H1.out).mono ?_;rintro e w2 ⟨rfl,h2⟩;obtain⟨v2,ZM,F2⟩:=h2.cont;have H2:Hid (bg w0 w2 vb db cb kb kt { S with D:=(BB S.D).2,dead:=S.dead||decide ((BB S.D).1=14) } v2):=ZM;have oN:Hid (∀w'' S',bF w0 w2 w'' vb db cb kb kt S' v2→bF w0 w w'' vb db cb kb kt S' v):=fun w'' S' h=>YQ.out _ _ (F2 w'' S' h)
  clear h2 ZM F2 H1 YQ;cases hm:S.D.may with
  | false=>
   have e1:BB S.D=(14,S.D):=by unfold BB;rw[if_pos hm]
   rw[e1] at H2 ⊢;rw[oQ 14 (by decide)];have HE:Hid (S.flush kt=(14,{ S with dead:=true })):=by
    show S.flush kt=_
    rw[HP.out,if_pos hm]
   clear e1 hm HP;go_wp2_with fail
   go_ret;rw[HE.out,oQ 14 (by decide)];refine⟨rfl,?_⟩;have:=oN.out _ _ H2.out.self
   simpa using this
  | true=>
   have e1:BB S.D=(0,S.D.au.synced):=by unfold BB;rw[if_neg (by rw[hm];decide)]
   rw[e1] at H2 ⊢;rw[vH];have HE:Hid (S.flush kt=if (({ S with D:=S.D.au.synced }:Vs).tell kt S.next).1=0 then (0,{ (({ S with D:=S.D.au.synced }:Vs).tell kt S.next).2 with T:=S.next }) else ({ S with D:=S.D.au.synced }:Vs).tell kt S.next):=by
    show S.flush kt=_
    rw[HP.out,if_neg (by rw[hm];decide)]
   clear e1 hm HP;have h2:bg w0 w2 vb db cb kb kt { S with D:=S.D.au.synced } v2:=by
    have:=H2.out
    simpa using this
   clear H2;have yQ:Hid (∀W V,bg w0 W vb db cb kb kt { S with D:=S.D.au.synced } V→Calls Tryz.prog 136 #[.pointer (some ⟨vb,0,none⟩),.agg (aa 73 (af S.next)).toArray] W fun e w'=>e=.returned (ev (({ S with D:=S.D.au.synced }:Vs).tell kt S.next).1)∧bF w0 W w' vb db cb kb kt (({ S with D:=S.D.au.synced }:Vs).tell kt S.next).2 V):=fun W V hV=>gP HB.out S.next YO.out HC.out (by show (S.D.au.synced).ws.length<1000;rw[Lh];decide) hV
   generalize ({ S with D:=S.D.au.synced }:Vs).tell kt S.next=R at *;generalize S.D.au.synced=D1 at *;have H2:Hid (bg w0 w2 vb db cb kb kt { S with D:=D1 } v2):=h2;clear h2;have hR:=H2.out.tab;have hL:=Tw.pW S.T;have fT:=Tw.cO w2 w2.heap.size rfl;obtain⟨hst,pg⟩:=Tw.fU fT S.T;have yO:Hid (ak ((w2.alloc (.cells Tryz.zeroCells163 163)).setCells w2.heap.size 0 (aa 73 (af S.T))) w2.heap.size 73 (af S.T)):=pg;have iY:Hid (Since w2 ((w2.alloc (.cells Tryz.zeroCells163 163)).setCells w2.heap.size 0 (aa 73 (af S.T)))):=((Since.refl w2).alloc _).setCells (Nat.le_refl _) _ _;clear fT pg;have c0:((w2.alloc (.cells Tryz.zeroCells163 163)).setCells w2.heap.size 0 (aa 73 (af S.T))).cell? ⟨w2.heap.size,0,none⟩=some (.int .i64 S.T.count):=yO.out.cell 0 (by omega);have f0:=yO.out.frozen 0 (by omega);have hn0:S.T.count+1≤1099511627776:=HN.out.1
   have hn1:1≤S.T.count+1:=HN.out.2;have Bc:Hid (ak (((w2.alloc (.cells Tryz.zeroCells163 163)).setCells w2.heap.size 0 (aa 73 (af S.T))).setCell ⟨w2.heap.size,0,none⟩ (.int .i64 (S.T.count+1))) w2.heap.size 73 (af S.next)):=(yO.out.set 0 (by omega) _).congr (next_cell S);have qL:Hid (Since w2 (((w2.alloc (.cells Tryz.zeroCells163 163)).setCells w2.heap.size 0 (aa 73 (af S.T))).setCell ⟨w2.heap.size,0,none⟩ (.int .i64 (S.T.count+1)))):=iY.out.setCell (Nat.le_refl _) _;generalize hcs:aa 73 (af S.T)=cs at *;clear hcs;generalize ((w2.alloc (.cells Tryz.zeroCells163 163)).setCells w2.heap.size 0 cs)=w3 at *;have hR2:=Tw.dD Bc.out;have hL2:=Tw.pW S.next;generalize hcs2:aa 73 (af S.next)=cs2 at *;generalize hw4:w3.setCell ⟨w2.heap.size,0,none⟩ (.int .i64 (S.T.count+1))=w4 at *;have H4:Hid (bg w0 w4 vb db cb kb kt { S with D:=D1 } v2):=H2.out.go qL.out
   have TT:Hid (aa 73 (af S.next)=cs2):=hcs2;have HW4:Hid (w3.setCell ⟨w2.heap.size,0,none⟩ (.int .i64 (S.T.count+1))=w4):=hw4;clear hcs2 hw4;go_wp2_with (first
    | refine wpList_load_mid (by rfl) 163 _ (by rfl) vb 4 (by rfl) _ _ hR Tryz.underlying163 (by rfl) (by rw[hL];kernel_rfl) ?_
    | (rw[HW4.out];refine wpList_load_mid (by rfl) 163 _ (by rfl) w2.heap.size 0 (by rfl) _ _ hR2 Tryz.underlying163 (by rfl) (by rw[hL2];kernel_rfl) ?_))
   refine(yQ.out w4 v2 H4.out).mono ?_;rintro e w5 ⟨rfl,h5⟩;have Oo:Hid (¬VP vb db cb v2 w2.heap.size):=H2.out.GH;obtain⟨v5,ZH,F5,n5⟩:=h5;have Xa:Hid (ak w5 w2.heap.size 73 (af S.next)):=iT Bc.out F5 Oo.out;have YL:Hid (∀w' S',bF w0 w5 w' vb db cb kb kt S' v5→bF w0 w w' vb db cb kb kt S' v):=fun w' S' ⟨v6,h6,F6,n6⟩=>oN.out _ _ (bF.pre qL.out ⟨v6,h6,F5.trans' F6 (VP.nx n5),n5.trans n6 F5.size⟩)
   have H5:Hid (bg w0 w5 vb db cb kb kt R.2 v5):=ZH;clear ZH F5 n5 hR hR2 hL c0 f0 hst yO iY Bc qL H4 H2 oN yQ HW4;by_cases h0:R.1=0
   ·rw[h0,vH];have HE2:Hid (S.flush kt=(0,{ R.2 with T:=S.next })):=by
     show S.flush kt=_
     rw[HE.out,if_pos h0]
    clear h0 HE;have hR:=Tw.dD Xa.out;rw[TT.out] at hR;have hst:=H5.out.bL.store Tryz.prog 4 73 (by omega) (af S.next) (fun j _=>Tw.kR _ j);rw[TT.out] at hst;have HC7:Hid (ak (w5.setCells vb 4 cs2) vb 102 (bV db cb kb kt S.next R.2.X R.2.dead)):=by
     have:=(H5.out.bL.setRow 4 73 (by omega) (af S.next)).congr (fun j hj=>xy db cb kb kt R.2.T S.next R.2.X R.2.dead j hj);rw[TT.out] at this;exact this
    go_wp2_with (refine wpList_load_mid (by rfl) 163 _ (by rfl) w2.heap.size 0 (by rfl) _ _ hR Tryz.underlying163 (by rfl) (by rw[hL2];kernel_rfl) ?_)
    go_ret;rw[HE2.out,vH];exact⟨rfl,YL.out _ _ (H5.out.DV HC7.out (Fr.setCells _ _ _ _ _) (Ty.setCells _ _ _ _ H5.out.ty))⟩
   have HE2:Hid (S.flush kt=R):=by
    show S.flush kt=_
    rw[HE.out,if_neg h0]
   rw[oQ _ h0];have HE3:Hid (ev R.1=.iface 32 (.int .i64 R.1)):=oQ _ h0;clear h0 HE;go_wp2_with fail
   go_ret;rw[HE2.out,HE3.out];exact⟨rfl,YL.out _ _ H5.out.self⟩
end
end Vl
end Go.Proofs.YtmhcfaaggkidjaaGreatDoor
end
section
namespace Go.Proofs.YtmhcfaaggkidjaaGreatDoor
set_option maxRecDepth 100000
namespace Vl
open Go.RowKit
open Tw (Tb af bE bO)
theorem kY {w:World} {base n:Nat} {v:Value} {l:List Nat} (h:w.ownsRow base 3 1 v n (Sp.vals l)) (hn:n=l.length) :
  ∃a c,v=.slice a n c∧(0<n→∃k,a=some ⟨k,0,none⟩∧base≤k∧k<w.heap.size∧∀j (hj:j<l.length),w.cell? ⟨k,j,none⟩=some (.int .i64 (l[j]:Int))):=by
 rcases h.2 with⟨rfl,rfl⟩ | ⟨g,cap,cur,rfl,hg,hh,h1,h2,h3,h4⟩
 ·exact⟨_,_,rfl,fun h=>by omega⟩
 refine⟨_,_,rfl,fun _=>⟨g,rfl,hg,(Array.getElem?_eq_some_iff.1 hh).1,fun j hj=>?_⟩⟩;have e:(Sp.vals l)[j]?=some (.int .i64 (l[j]:Int)):=by unfold Sp.vals;rw[List.getElem?_map,List.getElem?_eq_getElem hj];rfl
 rw[←h4,List.getElem?_take_of_lt (by omega),Array.getElem?_toList] at e;simp[World.cell?,hh,e]
section
variable {w0 w:World} {vb db cb:Nat} {kb kt:ByteArray} {S:Vs} {v:Value}
theorem bF.Wq {S1:Vs} {w1:World} {b:Nat} (h:bF w0 w w1 vb db cb kb kt S1 v) (hb:¬VP vb db cb v b) (hlt:b<w.heap.size) :
  ∃v1,bg w0 w1 vb db cb kb kt S1 v1∧(∀w' S',bF w0 w1 w' vb db cb kb kt S' v1→bF w0 w w' vb db cb kb kt S' v)∧(∀o,w1.cell? ⟨b,o,none⟩=w.cell? ⟨b,o,none⟩)∧¬VP vb db cb v1 b∧w.heap.size≤w1.heap.size:=by
 obtain⟨v1,h1,f1,n1⟩:=h;refine⟨v1,h1,fun w' S' ⟨v2,h2,f2,n2⟩=>⟨v2,h2,f1.trans' f2 (VP.nx n1),n1.trans n2 f1.size⟩,fun o=>f1.cell (p:=⟨b,o,none⟩) hlt hb,fun e=>?_,f1.size⟩;rcases VP.nx n1 b e with h2 | h2
 ·exact hb h2
 omega
theorem bg.rH (h:bg w0 w vb db cb kb kt S v) {b:Nat} (hb:w.heap.size≤b):¬VP vb db cb v b:=by
 rintro (e | e | e | e)
 ·have:=h.bL.lt (by omega);omega
 ·have:=h.dev.lt;omega
 ·have:=h.sQ.lt (by omega);omega
 have:=h.dev.glt _ e;omega
def RL (w0 w wr:World) (vb db cb:Nat) (kb kt:ByteArray) (S:Vs) (v:Value) (n:Int) (z:Nat) (L:List Nat) (a:Option Addr) (k:Nat):Prop:=
 ∃Sk vk,bg w0 wr vb db cb kb kt Sk vk∧Sk.ok n∧Sk.moves kb z (L.drop k)=S.moves kb z L∧(∀w' S',bF w0 wr w' vb db cb kb kt S' vk→bF w0 w w' vb db cb kb kt S' v)∧
  (0<L.length→∃g,a=some ⟨g,0,none⟩∧¬VP vb db cb vk g∧g<wr.heap.size∧∀j (hj:j<L.length),wr.cell? ⟨g,j,none⟩=some (.int .i64 (L[j]:Int)))
theorem BD {z:Nat} (hd:S.dead=false) (hv:dP S.kI S.live 8=some z):S.ae kb kt=if (S.moves kb z (Sp.bM S.T (z:Int) 24)).1≠0 then ((0,false,(S.moves kb z (Sp.bM S.T (z:Int) 24)).1),(S.moves kb z (Sp.bM S.T (z:Int) 24)).2) else
  if ((S.moves kb z (Sp.bM S.T (z:Int) 24)).2.flush kt).1≠0 then ((0,false,((S.moves kb z (Sp.bM S.T (z:Int) 24)).2.flush kt).1),((S.moves kb z (Sp.bM S.T (z:Int) 24)).2.flush kt).2) else
   if ((S.moves kb z (Sp.bM S.T (z:Int) 24)).2.flush kt).2.D.may=false then ((0,false,14),{ ((S.moves kb z (Sp.bM S.T (z:Int) 24)).2.flush kt).2 with dead:=true }) else
    ((((Sp.bM S.T (z:Int) 24).length:Int),true,0),{ ((S.moves kb z (Sp.bM S.T (z:Int) 24)).2.flush kt).2 with D:=((S.moves kb z (Sp.bM S.T (z:Int) 24)).2.flush kt).2.D.au.reset z }):=by
 unfold Vs.ae;rw[hd,hv]
 rfl
theorem BF (h:bg w0 w vb db cb kb kt S v) (hd:S.dead=true) :
  Calls Tryz.prog 152 #[.pointer (some ⟨vb,0,none⟩)] w fun e w'=>e=.returned (.tuple #[.int .i64 0,.bool false,ev 6])∧w'=w:=by
 have H:Hid (bg w0 w vb db cb kb kt S v):=h;have HD:Hid (S.dead=true):=hd;clear h hd;go_enter Tryz.func152,Tryz.ntmps152
 go_wp2_with fail
 refine(aO _ _).mono ?_;rintro e wx ⟨rfl,hw⟩;rw[hw];clear hw wx;go_wp2_with fail
 refine(jl H.out).mono ?_;rintro e wx ⟨rfl,hw⟩;rw[hw];clear hw wx;rw[HD.out];go_wp2_with fail
 go_ret3;exact⟨by rw[oQ 6 (by decide)];rfl,rfl⟩
set_option maxHeartbeats 8000000 in
theorem uK (B:Base w0 kb kt) (n:Int) (ho:S.ok n) (hn:n<1000000000) (h:bg w0 w vb db cb kb kt S v) :
  Calls Tryz.prog 152 #[.pointer (some ⟨vb,0,none⟩)] w fun e w'=>e=.returned (.tuple #[.int .i64 (S.ae kb kt).1.1,.bool (S.ae kb kt).1.2.1,ev (S.ae kb kt).1.2.2])∧bF w0 w w' vb db cb kb kt (S.ae kb kt).2 v:=by
 cases hd:S.dead with
 | true=>
  have e1:S.ae kb kt=((0,false,6),S):=by unfold Vs.ae;rw[hd];rfl
  rw[e1];refine(BF h hd).mono ?_;rintro e w' ⟨rfl,rfl⟩;exact⟨rfl,h.self⟩
 | false=>
  have HB:Hid (Base w0 kb kt):=B;have HO:Hid (S.ok n∧n<1000000000):=⟨ho,hn⟩
  have H:Hid (bg w0 w vb db cb kb kt S v):=h;have HD:Hid (S.dead=false):=hd;clear h hd B ho hn;go_enter Tryz.func152,Tryz.ntmps152
  go_wp2_with fail
  refine(aO _ _).mono ?_;rintro e wx ⟨rfl,hw⟩;rw[hw];clear hw wx;go_wp2_with fail
  refine(jl H.out).mono ?_;rintro e wx ⟨rfl,hw⟩;rw[hw];clear hw wx;rw[HD.out];go_wp2_with fail
  have H1:Hid (bg w0 w.drew vb db cb kb kt S v):=H.out.go (Since.refl _).drew;have bY:Hid (Since w w.drew):=(Since.refl _).drew;have hL:=Tw.pW S.T;have HLV:Hid (∀W,Calls Tryz.prog 206 #[.agg (aa 73 (af S.T)).toArray] W fun e w'=>∃x,e=.returned x∧Sp.Ls w' w'.heap.size x 8 S.live∧Since W w'):=fun W=>(Sp.OO S.T W).mono fun e w' ⟨x,h1,⟨b,h2,h3⟩,h4⟩=>⟨x,h1,⟨_,_,h2,by omega,fun _=>⟨b,0,rfl,h3.lt (by omega),fun j hj=>by rw[Nat.zero_add];exact h3.cell j hj⟩⟩,h4⟩
  have Ws:Hid (∀(z:Int) W,Calls Tryz.prog 207 #[.agg (aa 73 (af S.T)).toArray,.int .i64 z] W fun e w'=>∃x,e=.returned x∧w'.ownsRow W.heap.size 3 1 x (Sp.bM S.T z 24).length (Sp.vals (Sp.bM S.T z 24))∧Since W w'):=fun z W=>Sp.Xq S.T z W
  have HR1:Hid (w.drew.rangeAt vb 4 (aa 73 (af S.T))):=H1.out.tab;generalize hcs:aa 73 (af S.T)=cs at *;have TT:Hid (aa 73 (af S.T)=cs):=hcs;clear hcs;have hS1:(fun W:World=>W.rangeAt vb 4 cs) w.drew:=HR1.out;refine wp_region_held (S:=fun W:World=>W.rangeAt vb 4 cs) (by kernel_rfl) ?_;refine Tw.takeD (i:=0) (d:=20) (v:=?v1) rfl rfl (by kernel_rfl) (by kernel_rfl) (by kernel_rfl) (fun _ _ _ h=>h) (Or.inl ⟨by rfl,?hw1⟩) hS1 ?q1
  case hw1=>(intro w hSw;have s0:=hSw;go_simp;try with_reducible rfl)
  simp only[Act.put,List.setIfInBounds_toArray,List.set_cons_zero,List.set_cons_succ];refine Tw.takeD (i:=2) (d:=22) (v:=?v2) rfl rfl (by kernel_rfl) (by kernel_rfl) (by kernel_rfl) (fun _ _ _ h=>h) (Or.inl ⟨by rfl,?hw2⟩) hS1 ?q2
  case hw2=>(intro w hSw;have s0:=hSw;go_simp;try with_reducible rfl)
  simp only[Act.put,List.setIfInBounds_toArray,List.set_cons_zero,List.set_cons_succ];refine Tw.takeD (i:=3) (d:=23) (v:=?v3) rfl rfl (by kernel_rfl) (by kernel_rfl) (by kernel_rfl) (fun _ _ _ h=>h) (Or.inl ⟨by rfl,?hw3⟩) hS1 ?q3
  case hw3=>(intro w hSw;have s0:=hSw;go_simp;try with_reducible rfl)
  simp only[Act.put,List.setIfInBounds_toArray,List.set_cons_zero,List.set_cons_succ];refine Tw.takeD (i:=4) (d:=24) (v:=?v4) rfl rfl (by kernel_rfl) (by kernel_rfl) (by kernel_rfl) (fun _ _ _ h=>h) (Or.inl ⟨by rfl,?hw4⟩) hS1 ?q4
  case hw4=>(intro w hSw;have s0:=hSw;go_simp;try with_reducible rfl)
  simp only[Act.put,List.setIfInBounds_toArray,List.set_cons_zero,List.set_cons_succ];refine Tw.takeD (i:=5) (d:=25) (v:=.agg cs.toArray) rfl rfl (by kernel_rfl) (by kernel_rfl) (by kernel_rfl) (fun _ _ _ h=>h) (yieldsIf_load_mid (by rfl) 163 _ (by rfl) vb 4 (by rfl) _ _ (fun w hSw=>hSw) Tryz.underlying163 (by rfl) (by rw[hL];kernel_rfl)) hS1 ?q5;simp only[Act.put,List.setIfInBounds_toArray,List.set_cons_zero,List.set_cons_succ];refine wpAnyH_ready (rs:=[1]) (by kernel_rfl) (by simp) (AllReadyH.cons rfl (fun K hK=>?_) AllReadyH.nil);rw[if_pos (by rfl)];go_simp
  refine(wT H1.out).mono ?_;rintro e w2 ⟨⟨x,rfl,hx⟩,h2⟩;simp only[];have H2:Hid (bg w0 w2 vb db cb kb kt S v):=H1.out.go h2;have HS2:Hid (Since w w2):=bY.out.trans h2;have Lj:Hid (Sp.Ls w2 w2.heap.size x 8 S.kI):=hx;have hS2:(fun W:World=>W.rangeAt vb 4 cs) w2:=iD HR1.out h2;clear h2 hx;refine hK.out _ _ hS2 (fun _=>?_);clear hK K
  (try simp only[Act.put,List.setIfInBounds_toArray,List.set_cons_zero,List.set_cons_succ])
  refine wpAnyH_ready (rs:=[6]) (by kernel_rfl) (by simp) (AllReadyH.cons rfl (fun K hK=>?_) AllReadyH.nil);rw[if_pos (by rfl)];go_simp
  refine(HLV.out _).mono ?_;rintro e w3 ⟨y,rfl,hy,h3⟩;simp only[];have H3:Hid (bg w0 w3 vb db cb kb kt S v):=H2.out.go h3;have iw:Hid (Since w w3):=HS2.out.trans h3;have XA:Hid (Sp.Ls w3 w2.heap.size x 8 S.kI∧w2.heap.size≤w3.heap.size):=⟨Lj.out.since h3,h3.size⟩
  have HY3:Hid (Sp.Ls w3 w3.heap.size y 8 S.live):=hy;have fu:(fun W:World=>W.rangeAt vb 4 cs) w3:=iD hS2 h3;clear h3 hy;refine hK.out _ _ fu (fun _=>?_);clear hK K
  (try simp only[Act.put,List.setIfInBounds_toArray,List.set_cons_zero,List.set_cons_succ])
  refine wpAnyH_ready (rs:=[7]) (by kernel_rfl) (by simp) (AllReadyH.cons rfl (fun K hK=>?_) AllReadyH.nil);rw[if_pos (by rfl)];go_simp
  refine(Sp.Gv x y 8 8 w3.heap.size S.kI S.live _ (by
   obtain⟨a,c,hv,hc,h⟩:=XA.out.1;exact⟨a,c,hv,hc,fun hn=>by
    obtain⟨k,o,ha,hk,hcc⟩:=h hn;exact⟨k,o,ha,Nat.lt_of_lt_of_le hk XA.out.2,hcc⟩⟩) HY3.out (by omega) (by omega)).mono ?_
  rintro e w4 ⟨⟨z,ok,rfl,hz⟩,h4⟩;simp only[];have H4:Hid (bg w0 w4 vb db cb kb kt S v):=H3.out.go h4;have iY:Hid (Since w w4):=iw.out.trans h4;have jX:(fun W:World=>W.rangeAt vb 4 cs) w4:=iD fu h4;have HZ:Hid _:=Xr hz;clear h4 hz;refine hK.out _ _ jX (fun _=>?_);clear hK K
  (try simp only[Act.put,List.setIfInBounds_toArray,List.set_cons_zero,List.set_cons_succ])
  refine Tw.takeD (i:=8) (d:=19) (v:=?v12) rfl rfl (by kernel_rfl) (by kernel_rfl) (by kernel_rfl) (fun _ _ _ h=>h) (Or.inl ⟨by rfl,?hw12⟩) jX ?q12
  case hw12=>(intro w hSw;have s0:=hSw;go_simp;try with_reducible rfl)
  simp only[Act.put,List.setIfInBounds_toArray,List.set_cons_zero,List.set_cons_succ];refine Tw.takeD (i:=9) (d:=28) (v:=?v13) rfl rfl (by kernel_rfl) (by kernel_rfl) (by kernel_rfl) (fun _ _ _ h=>h) (Or.inl ⟨by rfl,?hw13⟩) jX ?q13
  case hw13=>(intro w hSw;have s0:=hSw;go_simp;try with_reducible rfl)
  simp only[Act.put,List.setIfInBounds_toArray,List.set_cons_zero,List.set_cons_succ];refine Tw.takeD (i:=10) (d:=29) (v:=?v14) rfl rfl (by kernel_rfl) (by kernel_rfl) (by kernel_rfl) (fun _ _ _ h=>h) (Or.inl ⟨by rfl,?hw14⟩) jX ?q14
  case hw14=>(intro w hSw;have s0:=hSw;go_simp;try with_reducible rfl)
  simp only[Act.put,List.setIfInBounds_toArray,List.set_cons_zero,List.set_cons_succ];refine Tw.takeD (i:=11) (d:=5) (v:=?v15) rfl rfl (by kernel_rfl) (by kernel_rfl) (by kernel_rfl) (fun _ _ _ h=>h) (Or.inl ⟨by rfl,?hw15⟩) jX ?q15
  case hw15=>(intro w hSw;have s0:=hSw;go_simp;try with_reducible rfl)
  simp only[Act.put,List.setIfInBounds_toArray,List.set_cons_zero,List.set_cons_succ];refine Tw.takeD (i:=12) (d:=6) (v:=?v16) rfl rfl (by kernel_rfl) (by kernel_rfl) (by kernel_rfl) (fun _ _ _ h=>h) (Or.inl ⟨by rfl,?hw16⟩) jX ?q16
  case hw16=>(intro w hSw;have s0:=hSw;go_simp;try with_reducible rfl)
  simp only[Act.put,List.setIfInBounds_toArray,List.set_cons_zero,List.set_cons_succ];refine wpAnyH_done (by kernel_rfl) ?_ _;clear hS1 hS2 fu H1 H2 H3 bY HS2 iw Lj XA HY3 HLV HR1;rcases HZ.out with⟨rfl,zz,rfl,wJ,hv⟩ | ⟨rfl,rfl,hv⟩
  ·have HV:Hid (dP S.kI S.live 8=some zz∧zz<8):=⟨hv,wJ⟩
   clear hv wJ HZ;have KS:w4.rangeAt vb 4 cs:=jX;clear jX;go_wp2_with (refine wpList_load_mid (by rfl) 163 _ (by rfl) vb 4 (by rfl) _ _ KS Tryz.underlying163 (by rfl) (by rw[hL];kernel_rfl) ?_)
   refine(Ws.out _ _).mono ?_;rintro e w5 ⟨x5,rfl,YV,h5⟩;have H5:Hid (bg w0 w5 vb db cb kb kt S v):=H4.out.go h5;have qL:Hid (Since w w5):=iY.out.trans h5;have HG:Hid (∀b,w4.heap.size≤b→¬VP vb db cb v b):=fun b hb=>H4.out.rH hb
   have HP:Hid _:=BD (kb:=kb) (kt:=kt) HD.out HV.out.1;have a2F:Hid (∀i ∈ Sp.bM S.T (zz:Int) 24,i<24):=fun i hi=>(rA.1 hi).1
   have Gb:Hid ((Sp.bM S.T (zz:Int) 24).length≤24):=Sp.lN _ _ _;generalize Sp.bM S.T (zz:Int) 24=L at *;obtain⟨a5,c5,rfl,YW⟩:=kY YV rfl;have ZP:Hid (RL w0 w w5 vb db cb kb kt S v n zz L a5 0):=⟨S,v,H5.out,HO.out.1,rfl,fun w' S' h=>bF.pre qL.out h,fun h0=>by
    obtain⟨g,hg1,hg2,hg3,hg4⟩:=YW h0;exact⟨g,hg1,HG.out g hg2,hg3,hg4⟩⟩
   clear YW YV h5 KS H4 iY HG H5 qL Ws TT hL;go_wp2_with fail
   go_loopw [40,9,10] (fun i _ _ wr=>∃k:Nat,k≤L.length∧i=.int .i64 (k:Int)∧RL w0 w wr vb db cb kb kt S v n zz L a5 k) (fun i _ _ _=>L.length-(intOf i).toNat)
   case atStart=>exact⟨0,by omega,rfl,ZP.out⟩
   clear ZP;obtain⟨k,hk,rfl,Sk,vk,tY,hok,hmv,hto,hrow⟩:=hrel;have ZQ:Hid (bg w0 wr vb db cb kb kt Sk vk):=tY;have TD:Hid (Sk.ok n):=hok;have HMV:Hid (Sk.moves kb zz (L.drop k)=S.moves kb zz L):=hmv;have Fy:Hid (∀w' S',bF w0 wr w' vb db cb kb kt S' vk→bF w0 w w' vb db cb kb kt S' v):=hto;have HRW:Hid (0<L.length→∃g,a5=some ⟨g,0,none⟩∧¬VP vb db cb vk g∧g<wr.heap.size∧∀j (hj:j<L.length),wr.cell? ⟨g,j,none⟩=some (.int .i64 (L[j]:Int))):=hrow;clear tY hok hmv hto hrow;by_cases hlt:k<L.length
   ·have hlt2:(k:Int)<L.length:=by omega
    have a5J:(k:Int)<24:=by have:=Gb.out;omega
    obtain⟨g,rfl,hg2,hg3,hg4⟩:=HRW.out (by omega);have ZR:Hid (¬VP vb db cb vk g∧g<wr.heap.size∧∀j (hj:j<L.length),wr.cell? ⟨g,j,none⟩=some (.int .i64 (L[j]:Int))):=⟨hg2,hg3,hg4⟩
    have q1:=hg4 k hlt;clear hg2 hg3 hg4 HRW;have XB:L[k]<24:=a2F.out _ (List.getElem_mem _);have HDR:Hid (L.drop k=L[k]::L.drop (k+1)):=List.drop_eq_getElem_cons hlt;generalize L[k]=ii at *;have hi2:(ii:Int)<24:=by omega
    have q2:=ZQ.out.cx ii XB;go_wp2_with fail
    refine(qY HB.out ii (Sk.X ii) zz XB (TD.out.txt ii) ZQ.out).mono ?_;rintro e w6 ⟨rfl,h6⟩;have a2G:Hid ((Sk.put kb ii zz (Sk.X ii)).2.ok n):=TD.out.put kb ii XB zz (Sk.X ii) (TD.out.txt ii);have HM6:Hid (S.moves kb zz L=if (Sk.put kb ii zz (Sk.X ii)).1=0 then (Sk.put kb ii zz (Sk.X ii)).2.moves kb zz (L.drop (k+1)) else Sk.put kb ii zz (Sk.X ii)):=by
     show S.moves kb zz L=_
     rw[←HMV.out,HDR.out,jM]
    obtain⟨v6,Wp,F6,x6,y6,z6⟩:=h6.Wq ZR.out.1 ZR.out.2.1;have H6:Hid (bg w0 w6 vb db cb kb kt (Sk.put kb ii zz (Sk.X ii)).2 v6):=Wp;have VW:Hid (∀w' S',bF w0 w6 w' vb db cb kb kt S' v6→bF w0 w w' vb db cb kb kt S' v):=fun w' S' h=>Fy.out _ _ (F6 w' S' h)
    have HG6:Hid (¬VP vb db cb v6 g∧g<w6.heap.size∧∀j (hj:j<L.length),w6.cell? ⟨g,j,none⟩=some (.int .i64 (L[j]:Int))):=⟨y6,Nat.lt_of_lt_of_le ZR.out.2.1 z6,fun j hj=>(x6 j).trans (ZR.out.2.2 j hj)⟩
    clear h6 Wp F6 x6 y6 z6 ZR q1 q2 ZQ Fy TD HMV HDR;generalize Sk.put kb ii zz (Sk.X ii)=R at *;by_cases h0:R.1=0
    ·rw[h0,vH];have HM7:Hid (R.2.moves kb zz (L.drop (k+1))=S.moves kb zz L):=by
      show R.2.moves kb zz (L.drop (k+1))=S.moves kb zz L
      rw[HM6.out,if_pos h0]
     clear h0 HM6;go_wp2_with fail
     go_roundw
     case rel=>exact⟨k+1,by omega,by go_num,R.2,v6,H6.out,a2G.out,HM7.out,VW.out,fun _=>⟨g,rfl,HG6.out⟩⟩
     case measure=>simp[intOf];omega
    rw[oQ _ h0];have HE:Hid (S.ae kb kt=((0,false,R.1),R.2)∧ev R.1=.iface 32 (.int .i64 R.1)):=by
     refine⟨?_,oQ _ h0⟩;rw[HP.out,HM6.out,if_neg h0,if_pos h0]
    clear h0 HP HM6;go_wp2_with fail
    go_ret3;rw[HE.out.1,HE.out.2];exact⟨rfl,VW.out _ _ H6.out.self⟩
   have hke:k=L.length:=by omega
   subst hke;have HM7:Hid (S.moves kb zz L=(0,Sk)):=by
    show S.moves kb zz L=(0,Sk)
    rw[←HMV.out,List.drop_length,kW]
   clear HMV HRW hlt;go_wp2_with fail
   refine(zX HB.out (TD.out.next (by have:=HO.out.2;omega)) TD.out.nc ZQ.out).mono ?_;rintro e w6 ⟨rfl,h6⟩;obtain⟨v6,Wp,F6⟩:=h6.cont;have H6:Hid (bg w0 w6 vb db cb kb kt (Sk.flush kt).2 v6):=Wp;have VW:Hid (∀w' S',bF w0 w6 w' vb db cb kb kt S' v6→bF w0 w w' vb db cb kb kt S' v):=fun w' S' h=>Fy.out _ _ (F6 w' S' h)
   have HP7:Hid (S.ae kb kt=if (Sk.flush kt).1≠0 then ((0,false,(Sk.flush kt).1),(Sk.flush kt).2) else if (Sk.flush kt).2.D.may=false then ((0,false,14),{ (Sk.flush kt).2 with dead:=true }) else (((L.length:Int),true,0),{ (Sk.flush kt).2 with D:=(Sk.flush kt).2.D.au.reset zz })):=by
    show S.ae kb kt=_
    rw[HP.out,HM7.out,if_neg (fun h=>h rfl)]
   clear h6 Wp F6 Fy ZQ TD HM7 HP;generalize Sk.flush kt=R at *;by_cases h0:R.1=0
   ·rw[h0,vH];have HP8:Hid (S.ae kb kt=if R.2.D.may=false then ((0,false,14),{ R.2 with dead:=true }) else (((L.length:Int),true,0),{ R.2 with D:=R.2.D.au.reset zz })):=by
     show S.ae kb kt=_
     rw[HP7.out,if_neg (by rw[h0];decide)]
    clear h0 HP7;have q0:=H6.out.c0;go_wp2_with fail
    refine(GL zz HV.out.2 H6.out).mono ?_;rintro e w7 ⟨rfl,h7⟩;obtain⟨v7,ZI,F7⟩:=h7.cont;have H7:Hid (bg w0 w7 vb db cb kb kt { R.2 with D:=(Pn R.2.D zz).2 } v7):=ZI;have HT7:Hid (∀w' S',bF w0 w7 w' vb db cb kb kt S' v7→bF w0 w w' vb db cb kb kt S' v):=fun w' S' h=>VW.out _ _ (F7 w' S' h)
    clear h7 ZI F7 VW H6 q0;go_wp2_with fail
    refine(kX (Pn R.2.D zz).1 H7.out).mono ?_;rintro e w8 ⟨rfl,h8⟩;have YU:Hid (bF w0 w w8 vb db cb kb kt { R.2 with D:=(Pn R.2.D zz).2,dead:=R.2.dead||decide ((Pn R.2.D zz).1=14) } v):=HT7.out _ _ h8;clear h8 HT7 H7;cases hm:R.2.D.may with
    | false=>
     have e1:Pn R.2.D zz=(14,R.2.D):=by unfold Pn;rw[if_pos hm]
     rw[e1] at YU ⊢;rw[oQ 14 (by decide)];have HE:Hid (S.ae kb kt=((0,false,14),{ R.2 with dead:=true })):=by
      show S.ae kb kt=_
      rw[HP8.out,if_pos hm]
     clear e1 hm HP8;go_wp2_with fail
     go_ret3;rw[HE.out,oQ 14 (by decide)];refine⟨rfl,?_⟩;have:=YU.out
     simpa using this
    | true=>
     have e1:Pn R.2.D zz=(0,R.2.D.au.reset zz):=by unfold Pn;rw[if_neg (by rw[hm];decide)]
     rw[e1] at YU ⊢;rw[vH];have HE:Hid (S.ae kb kt=(((L.length:Int),true,0),{ R.2 with D:=R.2.D.au.reset zz })):=by
      show S.ae kb kt=_
      rw[HP8.out,if_neg (by rw[hm];decide)]
     clear e1 hm HP8;go_wp2_with fail
     go_ret3;rw[HE.out,vH];refine⟨rfl,?_⟩;have:=YU.out
     simpa using this
   rw[oQ _ h0];have HE:Hid (S.ae kb kt=((0,false,R.1),R.2)∧ev R.1=.iface 32 (.int .i64 R.1)):=by
    refine⟨?_,oQ _ h0⟩;rw[HP7.out,if_pos h0]
   clear h0 HP7;go_wp2_with fail
   go_ret3;rw[HE.out.1,HE.out.2];exact⟨rfl,VW.out _ _ H6.out.self⟩
  have HV:Hid (dP S.kI S.live 8=none):=hv;clear hv HZ;go_wp2_with fail
  go_ret3;have HP:S.ae kb kt=((0,false,0),S):=by
   unfold Vs.ae;rw[HD.out,HV.out]
   rfl
  rw[HP,vH];exact⟨rfl,H.out.to iY.out⟩
end
end Vl
end Go.Proofs.YtmhcfaaggkidjaaGreatDoor
end
section
namespace Go.Proofs.YtmhcfaaggkidjaaGreatDoor
set_option maxRecDepth 100000
namespace Vl
open Go.RowKit
open Tw (Tb af bE bO)
theorem GN {s:ByteArray} (h:¬s=⟨#[]⟩):s.toList.isEmpty=false∧¬s.toList=[]:=by
 have h1:¬s.toList=[]:=fun e=>h (ByteArray.ext (by
  rw[ByteArray.toList_eq] at e;exact Array.toList_eq_nil_iff.1 e))
 exact⟨by simpa using h1,h1⟩
section
variable {w0 w:World} {vb db cb:Nat} {kb kt:ByteArray} {S:Vs} {v:Value}
set_option maxHeartbeats 8000000 in
theorem Ll (B:Base w0 kb kt) (n:Int) (ho:S.ok n) (hn:n<1000000000) (i:Int) (t:ByteArray) (h:bg w0 w vb db cb kb kt S v) :
  Calls Tryz.prog 123 #[.pointer (some ⟨vb,0,none⟩),.int .i64 i,.string t] w fun e w'=>e=.returned (ev (S.write kb kt i t).1)∧bF w0 w w' vb db cb kb kt (S.write kb kt i t).2 v:=by
 have HB:Hid (Base w0 kb kt):=B;have HO:Hid (S.ok n∧n<1000000000):=⟨ho,hn⟩
 have H:Hid (bg w0 w vb db cb kb kt S v):=h;clear h B ho hn;cases hd:S.dead with
 | true=>
  have HE:Hid (S.write kb kt i t=(6,S)):=by show S.write kb kt i t=_;unfold Vs.write;rw[hd];rfl
  have HD:Hid (S.dead=true):=hd;clear hd;go_enter Tryz.func123,Tryz.ntmps123
  go_wp2_with fail
  refine(aO _ _).mono ?_;rintro e wx ⟨rfl,hw⟩;rw[hw];clear hw wx;go_wp2_with fail
  refine(jl H.out).mono ?_;rintro e wx ⟨rfl,hw⟩;rw[hw];clear hw wx;rw[HD.out];go_wp2_with fail
  go_ret;rw[HE.out,oQ 6 (by decide)];exact⟨rfl,H.out.self⟩
 | false=>
  have HD:Hid (S.dead=false):=hd;clear hd;go_enter Tryz.func123,Tryz.ntmps123
  go_wp2_with fail
  refine(aO _ _).mono ?_;rintro e wx ⟨rfl,hw⟩;rw[hw];clear hw wx;go_wp2_with fail
  refine(jl H.out).mono ?_;rintro e wx ⟨rfl,hw⟩;rw[hw];clear hw wx;rw[HD.out];go_wp2_with fail
  refine(nC _ _).mono ?_;rintro e wx ⟨rfl,hw⟩;rw[hw];clear hw wx;by_cases hi:0≤i∧i<24
  ·rw[JG hi];obtain⟨k,rfl⟩:=Int.eq_ofNat_of_zero_le hi.1;have hk:(k:Int)<24:=hi.2;have HK:Hid (k<24):=by show k<24;omega
   have HI:Hid (¬¬(0≤(k:Int)∧(k:Int)<24)):=fun q=>q hi
   clear hi;by_cases ht:80<t.size
   ·have ht2:(80:Int)<t.size:=by omega
    have HE:Hid (S.write kb kt k t=(4,S)):=by show S.write kb kt k t=_;unfold Vs.write;rw[HD.out,if_neg (by decide),if_neg HI.out,if_pos ht]
    clear ht;go_wp2_with fail
    go_ret;rw[HE.out,oQ 4 (by decide)];exact⟨rfl,H.out.self⟩
   have ht2:¬(80:Int)<t.size:=by omega
   have HT:Hid (¬80<t.size):=ht;clear ht;have q:=H.out.cx k HK.out;by_cases hx:t=S.X k
   ·have HE:Hid (S.write kb kt k t=(0,S)):=by show S.write kb kt k t=_;unfold Vs.write;rw[HD.out,if_neg (by decide),if_neg HI.out,if_neg HT.out,Int.toNat_natCast,if_pos hx]
    rw[←hx] at q;clear hx;go_wp2_with fail
    go_ret;rw[HE.out,vH];exact⟨rfl,H.out.self⟩
   have hxl:=Tw.iP hx;have HX:Hid (¬t=S.X k):=hx;clear hx;by_cases he:t=⟨#[]⟩
   ·have HE:Hid (S.write kb kt k t=(0,S.set k 0 0 ⟨#[]⟩ ⟨#[]⟩)):=by show S.write kb kt k t=_;unfold Vs.write;rw[HD.out,if_neg (by decide),if_neg HI.out,if_neg HT.out,Int.toNat_natCast,if_neg HX.out,if_pos he]
    subst he;obtain⟨g1,g2⟩:=GN (fun q:S.X k=⟨#[]⟩=>HX.out q.symm);clear hxl;go_wp2_with fail
    refine(JH k 0 0 ⟨#[]⟩ ⟨#[]⟩ HK.out (by decide) (by decide) H.out).mono ?_;rintro e w1 ⟨rfl,h1⟩;have H1:Hid (bF w0 w w1 vb db cb kb kt (S.set k 0 0 ⟨#[]⟩ ⟨#[]⟩) v):=h1;clear h1;go_wp2_with fail
    go_ret;rw[HE.out,vH];exact⟨rfl,H1.out⟩
   obtain⟨g1,g2⟩:=GN he;have HP:Hid (S.write kb kt k t=if S.free≤20 then (if (S.ae kb kt).1.2.2≠0 then ((S.ae kb kt).1.2.2,(S.ae kb kt).2) else (S.ae kb kt).2.put kb k (-1) t) else S.put kb k (-1) t):=by
    show S.write kb kt k t=_
    unfold Vs.write;rw[HD.out,if_neg (by decide),if_neg HI.out,if_neg HT.out,Int.toNat_natCast,if_neg HX.out,if_neg he]
   clear he;go_wp2_with fail
   refine(kV H.out).mono ?_;rintro e w1 ⟨rfl,h1⟩;have H1:Hid (bg w0 w1 vb db cb kb kt S v):=H.out.go h1;have bY:Hid (Since w w1):=h1;clear h1 q hxl g1 g2;by_cases hf:S.free≤20
   ·have hfd:decide (S.free≤20)=true:=decide_eq_true hf;have XC:Hid (S.write kb kt k t=if (S.ae kb kt).1.2.2≠0 then ((S.ae kb kt).1.2.2,(S.ae kb kt).2) else (S.ae kb kt).2.put kb k (-1) t):=by
     show S.write kb kt k t=_
     rw[HP.out,if_pos hf]
    clear HP;generalize S.free=fr at *;go_wp2_with fail
    refine(uK HB.out n HO.out.1 HO.out.2 H1.out).mono ?_;rintro e w2 ⟨rfl,h2⟩;obtain⟨v2,ZM,F2⟩:=(bF.pre bY.out h2).cont;have H2:Hid (bg w0 w2 vb db cb kb kt (S.ae kb kt).2 v2):=ZM;have HT2:Hid (∀w' S',bF w0 w2 w' vb db cb kb kt S' v2→bF w0 w w' vb db cb kb kt S' v):=F2;clear h2 ZM F2 hf hfd;generalize S.ae kb kt=R at *;obtain⟨⟨r1,r2,r3⟩,R2⟩:=R;dsimp only at H2 XC ⊢;by_cases h0:r3=0
    ·subst h0;rw[vH];have HP3:Hid (S.write kb kt k t=R2.put kb k (-1) t):=by
      show S.write kb kt k t=_
      rw[XC.out,if_neg (fun q=>q rfl)]
     clear XC;go_wp2_with fail
     refine(qY HB.out k t (-1) HK.out (by have:=HT.out;omega) H2.out).mono ?_;rintro e w3 ⟨rfl,h3⟩;have H3:Hid (bF w0 w w3 vb db cb kb kt (R2.put kb k (-1) t).2 v):=HT2.out _ _ h3;clear h3;go_wp2_with fail
     go_ret;rw[HP3.out];exact⟨rfl,H3.out⟩
    have HP3:Hid (S.write kb kt k t=(r3,R2)∧ev r3=.iface 32 (.int .i64 r3)):=by
     refine⟨?_,oQ _ h0⟩;rw[XC.out,if_pos h0]
    rw[oQ _ h0];clear XC h0;go_wp2_with fail
    go_ret;rw[HP3.out.1,HP3.out.2];exact⟨rfl,HT2.out _ _ H2.out.self⟩
   have hfd:decide (S.free≤20)=false:=decide_eq_false hf;have XC:Hid (S.write kb kt k t=S.put kb k (-1) t):=by
    show S.write kb kt k t=_
    rw[HP.out,if_neg hf]
   clear HP;generalize S.free=fr at *;go_wp2_with fail
   refine(qY HB.out k t (-1) HK.out (by have:=HT.out;omega) H1.out).mono ?_;rintro e w2 ⟨rfl,h2⟩;have H2:Hid (bF w0 w w2 vb db cb kb kt (S.put kb k (-1) t).2 v):=bF.pre bY.out h2;clear h2;go_wp2_with fail
   go_ret;rw[XC.out];exact⟨rfl,H2.out⟩
  have HE:Hid (S.write kb kt i t=(2,S)):=by show S.write kb kt i t=_;unfold Vs.write;rw[HD.out,if_neg (by decide),if_pos hi]
  rw[DW hi];go_wp2_with fail
  go_ret;rw[HE.out,oQ 2 (by decide)];exact⟨rfl,H.out.self⟩
end
end Vl
end Go.Proofs.YtmhcfaaggkidjaaGreatDoor
end
