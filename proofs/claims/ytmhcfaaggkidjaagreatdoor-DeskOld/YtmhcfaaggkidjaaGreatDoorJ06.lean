import Derived.Deep.MidRow
import Derived.Test.YtmhcfaaggkidjaaGreatDoorJ02
set_option linter.unusedSimpArgs false
set_option linter.unusedVariables false
section
namespace Go.Proofs.YtmhcfaaggkidjaaGreatDoor
set_option maxRecDepth 100000
namespace Sm
open Go.RowKit
structure bA (w:World) (b o n:Nat) (f:Nat→BitVec 32):Prop where
 cell:∀j,j<n→w.cell? ⟨b,o+j,none⟩=some (U (f j))
 frozen:∀j,j<n→w.frozen? ⟨b,o+j,none⟩=false
def upd (f:Nat→BitVec 32) (i:Nat) (x:BitVec 32):Nat→BitVec 32:=fun j=>if j=i then x else f j
theorem bA.congr {w:World} {b o n:Nat} {f g:Nat→BitVec 32} (h:bA w b o n f) (e:∀j,j<n→f j=g j):bA w b o n g:=
 ⟨fun j hj=>by rw[←e j hj];exact h.cell j hj,h.frozen⟩
theorem bA.set {w:World} {b o n:Nat} {f:Nat→BitVec 32} (h:bA w b o n f) (i:Nat) (hi:i<n) (x:BitVec 32):bA (w.setCell ⟨b,o+i,none⟩ (U x)) b o n (upd f i x) where
 cell j hj:=by
  unfold upd;by_cases e:j=i
  ·subst e;rw[if_pos rfl];exact World.cell?_setCell_same _ _ _ (h.cell j hj)
  rw[if_neg e,World.cell?_setCell_other _ _ _ _ (by intro hc;injection hc with _ h2;omega)];exact h.cell j hj
 frozen j hj:=by simp;exact h.frozen j hj
theorem CG (w:World) (b i j:Nat) (v:Value) (h:i≠j):(w.setCell ⟨b,i,none⟩ v).cell? ⟨b,j,none⟩=w.cell? ⟨b,j,none⟩:=
 World.cell?_setCell_other _ _ _ _ (by intro hc;injection hc with _ h2;omega)
theorem bA.other {w:World} {b o n:Nat} {f:Nat→BitVec 32} (h:bA w b o n f) {a:Addr} (ha:a.block≠b) (v:Value):bA (w.setCell a v) b o n f where
 cell j hj:=by
  rw[World.cell?_setCell_other _ _ _ _ (by intro hc;subst hc;exact ha rfl)];exact h.cell j hj
 frozen j hj:=by simp;exact h.frozen j hj
theorem bA.lt {w:World} {b o n:Nat} {f:Nat→BitVec 32} (h:bA w b o n f) (hn:0<n):b<w.heap.size:=
 World.block_lt_of_cell? w _ (h.cell 0 hn)
theorem bA.since {w w':World} {b o n:Nat} {f:Nat→BitVec 32} (h:bA w b o n f) (hs:Since w w'):bA w' b o n f where
 cell j hj:=by
  have hc:=h.cell j hj;rw[hs.cell (p:=⟨b,o+j,none⟩) (World.block_lt_of_cell? w _ hc)];exact hc
 frozen j hj:=by
  have hc:=h.cell j hj;rw[hs.frozen (p:=⟨b,o+j,none⟩) (World.block_lt_of_cell? w _ hc)];exact h.frozen j hj
theorem bA.drewN {w:World} {b o n:Nat} {f:Nat→BitVec 32} (h:bA w b o n f) (m:Nat):bA (w.drewN m) b o n f:=h.since ((Since.refl w).drewN m)
theorem bA.alloc {w:World} {b o n:Nat} {f:Nat→BitVec 32} (h:bA w b o n f) (ob:Obj):bA (w.alloc ob) b o n f:=h.since ((Since.refl w).alloc ob)
def row (n:Nat) (f:Nat→BitVec 32):List Value:=(List.range n).map fun i=>U (f i)
theorem aC (n:Nat) (f:Nat→BitVec 32):(row n f).length=n:=by simp[row]
theorem vL (n:Nat) (f:Nat→BitVec 32) (j:Nat) (hj:j<n):(row n f)[j]?=some (U (f j)):=by simp[row,hj]
theorem row_one (n:Nat) (f:Nat→BitVec 32):∀v ∈ row n f,v.oneCell'=true:=by
 intro v hv;simp only[row,List.mem_map] at hv;obtain⟨i,_,rfl⟩:=hv
 rfl
theorem bA.range {w:World} {b o n:Nat} {f:Nat→BitVec 32} (h:bA w b o n f):w.rangeAt b o (row n f):=fun j v hv=>by
 have hj:j<n:=by have:=(List.getElem?_eq_some_iff.1 hv).1;rwa [aC] at this
 rw[vL n f j hj] at hv;rw[h.cell j hj,hv]
theorem bA.there {w:World} {b o n:Nat} {f:Nat→BitVec 32} (h:bA w b o n f):w.there b o n:=fun j hj=>⟨by rw[h.cell j hj];rfl,h.frozen j hj⟩
theorem bA.setRow {w:World} {b o n:Nat} {f:Nat→BitVec 32} (h:bA w b o n f) (g:Nat→BitVec 32):bA (w.setCells b o (row n g)) b o n g where
 cell j hj:=by
  have:=World.rangeAt_setCells_same w b o (row n g) (by rw[aC];exact h.there) j (U (g j)) (vL n g j hj);exact this
 frozen j hj:=(World.there_setCells h.there b o (row n g) j hj).2
theorem bA.setRow_other {w:World} {b o n:Nat} {f:Nat→BitVec 32} (h:bA w b o n f) {b' o':Nat} (vs:List Value) (hb:b≠b'):bA (w.setCells b' o' vs) b o n f where
 cell j hj:=World.rangeAt_setCells_apart h.range b' o' vs (Or.inl hb) j _ (vL n f j hj)
 frozen j hj:=(World.there_setCells h.there b' o' vs j hj).2
theorem bA.store {w:World} {b o n:Nat} {f:Nat→BitVec 32} (h:bA w b o n f) (P:Program) (g:Nat→BitVec 32):(storeCells ⟨b,o,none⟩ (row n g)).run P w=.ok () (w.setCells b o (row n g)):=by
 have:=run_storeCells_cells (P:=P) b o (row n g) 0 w (fun j hj=>by rw[aC] at hj;simpa using (h.there j hj).1) (fun j hj=>by rw[aC] at hj;simpa using (h.there j hj).2) (row_one n g)
 simpa using this
theorem aQ {fn:Func} {p:Tmp} {ty:TypeId} (h:fn.results=#[.cell p ty]) (tmps:Array Value) (P:Program) (w:World) (b:Nat) (cs:List Value) (d:TypeDesc)
  (hx:tmps.getD p undef=.pointer (some ⟨b,0,none⟩)) (hc:w.rangeAt b 0 cs) (hu:P.underlying ty=some d) (hd:d.isRow=true) (hi:(P.info? ty).map (·.size)=some cs.length) :
  (results fn tmps).run P w=.ok (.agg cs.toArray) w:=by
 simp only[results,h];have h1:=run_loadVar_mid (P:=P) w b 0 ty cs d hc hu hd hi;have h2:tmps[p]?.getD undef=.pointer (some ⟨b,0,none⟩):=by simpa using hx
 simp[asAddr,h2,h1]
theorem bA.new (w:World) (n:Nat) (f:Nat→BitVec 32) (t:TypeId) (cs:Array Value) (e:cs=(row n f).toArray) (k:Nat) (hk:k=w.heap.size):bA (w.alloc (.cells cs t)) k 0 n f where
 cell j hj:=by
  subst hk e;rw[World.cell?_alloc_new,Nat.zero_add]
  simpa using vL n f j hj
 frozen j hj:=by subst hk;exact World.frozen?_alloc_at _ _ _ _ rfl
end Sm
end Go.Proofs.YtmhcfaaggkidjaaGreatDoor
end
section
namespace Go.Proofs.YtmhcfaaggkidjaaGreatDoor
set_option maxRecDepth 100000
namespace Sm.Sr
open Go.RowKit
def mD (x:BitVec 32) (s:Nat):BitVec 32:=x <<< s ||| x >>> (32-s)
structure Qu where
 a:BitVec 32
 b:BitVec 32
 c:BitVec 32
 d:BitVec 32
def half (q:Qu) (m n:Nat):Qu:=
 let a:=q.a+q.b
 let d:=mD (q.d ^^^ a) m
 let c:=q.c+d
 ⟨a,mD (q.b ^^^ c) n,c,d⟩
def kK (q:Qu):Qu:=half (half q 16 12) 8 7
def Qu.at (q:Qu):Nat→BitVec 32
 | 0=>q.a
 | 1=>q.b
 | 2=>q.c
 | _=>q.d
def four (f:Nat→BitVec 32) (sh i:Nat):Qu:=⟨f i,f (4+(i+sh) % 4),f (8+(i+2*sh) % 4),f (12+(i+3*sh) % 4)⟩
def vM (sh:Nat) (f:Nat→BitVec 32):Nat→BitVec 32:=fun j=>(kK (four f sh ((j % 4+(4-sh)*(j / 4)) % 4))).at (j / 4)
def CJ (f:Nat→BitVec 32):Nat→Nat→BitVec 32
 | 0=>f
 | n+1=>vM 1 (vM 0 (CJ f n))
def mQ (f:Nat→BitVec 32):Nat→BitVec 32:=fun j=>CJ f 10 j+f j
def bJ (s:ByteArray) (i:Nat):UInt8:=s.data.toList.getD i 0
def wC (a b c d:UInt8):BitVec 32:=BitVec.ofNat 32 a.toNat ||| BitVec.ofNat 32 b.toNat <<< 8 ||| BitVec.ofNat 32 c.toNat <<< 16 ||| BitVec.ofNat 32 d.toNat <<< 24
def eP (s:ByteArray) (i:Nat):BitVec 32:=wC (bJ s (4*i)) (bJ s (4*i+1)) (bJ s (4*i+2)) (bJ s (4*i+3))
def bU (key ai:ByteArray) (n:BitVec 32):Nat→BitVec 32:=fun j=>
 if j=0 then 1634760805#32 else if j=1 then 857760878#32 else if j=2 then 2036477234#32 else if j=3 then 1797285236#32
 else if j<12 then eP key (j-4) else if j=12 then n else eP ai (j-13)
def byteOf (f:Nat→BitVec 32) (i:Nat):Int:=FC (f (i / 4) >>> (8*(i % 4)))
def bytesOf (f:Nat→BitVec 32):List Int:=(List.range 64).map (byteOf f)
def AQ (key:ByteArray) (n:BitVec 32) (ai:ByteArray):List Int:=bytesOf (mQ (bU key ai n))
end Sm.Sr
end Go.Proofs.YtmhcfaaggkidjaaGreatDoor
end
section
namespace Go.Proofs.YtmhcfaaggkidjaaGreatDoor
set_option maxRecDepth 100000
namespace Sm
open Go.RowKit
structure ak (w:World) (b n:Nat) (f:Nat→Value):Prop where
 cell:∀j,j<n→w.cell? ⟨b,j,none⟩=some (f j)
 frozen:∀j,j<n→w.frozen? ⟨b,j,none⟩=false
def aZ (f:Nat→Value) (i:Nat) (x:Value):Nat→Value:=fun j=>if j=i then x else f j
theorem ak.congr {w:World} {b n:Nat} {f g:Nat→Value} (h:ak w b n f) (e:∀j,j<n→f j=g j):ak w b n g:=
 ⟨fun j hj=>by rw[←e j hj];exact h.cell j hj,h.frozen⟩
theorem ak.set {w:World} {b n:Nat} {f:Nat→Value} (h:ak w b n f) (i:Nat) (hi:i<n) (x:Value):ak (w.setCell ⟨b,i,none⟩ x) b n (aZ f i x) where
 cell j hj:=by
  unfold aZ;by_cases e:j=i
  ·subst e;rw[if_pos rfl];exact World.cell?_setCell_same _ _ _ (h.cell j hj)
  rw[if_neg e,World.cell?_setCell_other _ _ _ _ (by intro hc;injection hc with _ h2;omega)];exact h.cell j hj
 frozen j hj:=by simp;exact h.frozen j hj
theorem ak.other {w:World} {b n:Nat} {f:Nat→Value} (h:ak w b n f) {a:Addr} (ha:a.block≠b) (v:Value):ak (w.setCell a v) b n f where
 cell j hj:=by
  rw[World.cell?_setCell_other _ _ _ _ (by intro hc;subst hc;exact ha rfl)];exact h.cell j hj
 frozen j hj:=by simp;exact h.frozen j hj
theorem ak.lt {w:World} {b n:Nat} {f:Nat→Value} (h:ak w b n f) (hn:0<n):b<w.heap.size:=
 World.block_lt_of_cell? w _ (h.cell 0 hn)
theorem ak.since {w w':World} {b n:Nat} {f:Nat→Value} (h:ak w b n f) (hs:Since w w'):ak w' b n f where
 cell j hj:=by
  have hc:=h.cell j hj;rw[hs.cell (p:=⟨b,j,none⟩) (World.block_lt_of_cell? w _ hc)];exact hc
 frozen j hj:=by
  have hc:=h.cell j hj;rw[hs.frozen (p:=⟨b,j,none⟩) (World.block_lt_of_cell? w _ hc)];exact h.frozen j hj
theorem ak.new (w:World) (n:Nat) (f:Nat→Value) (t:TypeId) (cs:Array Value) (hc:∀j,j<n→cs[j]?=some (f j)) (k:Nat) (hk:k=w.heap.size):ak (w.alloc (.cells cs t)) k n f where
 cell j hj:=by
  subst hk;rw[World.cell?_alloc_new];exact hc j hj
 frozen j hj:=by subst hk;exact World.frozen?_alloc_at _ _ _ _ rfl
end Sm
end Go.Proofs.YtmhcfaaggkidjaaGreatDoor
end
