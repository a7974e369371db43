import Derived.Deep.MidRow
import Derived.Test.YtlgbfkcpdelcbaaGreatDoorJ01
set_option linter.unusedSimpArgs false
set_option linter.unusedVariables false
set_option maxHeartbeats 8000000
set_option maxRecDepth 100000
namespace Go.Proofs.YtlgbfkcpdelcbaaGreatDoor
section
namespace Sm
open Go.RowKit
structure aN (w:World)(b o n:Nat)(f:Nat→BitVec 32):Prop where
 cell:∀j,j<n→w.cell? ⟨b,o+j,none⟩=some (U (f j))
 frozen:∀j,j<n→w.frozen? ⟨b,o+j,none⟩=false
def upd (f:Nat→BitVec 32)(i:Nat)(x:BitVec 32):Nat→BitVec 32:=fun j=>if j=i then x else f j
theorem aN.congr {w:World}{b o n:Nat}{f g:Nat→BitVec 32}(h:aN w b o n f)(e:∀j,j<n→f j=g j):aN w b o n g:=
 ⟨fun j hj=>by rw[←e j hj];exact h.cell j hj,h.frozen⟩
theorem aN.set {w:World}{b o n:Nat}{f:Nat→BitVec 32}(h:aN w b o n f)(i:Nat)(hi:i<n)(x:BitVec 32):aN (w.setCell ⟨b,o+i,none⟩ (U x)) b o n (upd f i x) where
 cell j hj:=by
  unfold upd;by_cases e:j=i
  ·subst e;rw[if_pos rfl];exact World.cell?_setCell_same _ _ _ (h.cell j hj)
  rw[if_neg e,World.cell?_setCell_other _ _ _ _ (by intro hc;injection hc with _ h2;omega)];exact h.cell j hj
 frozen j hj:=by simp;exact h.frozen j hj
theorem nU (w:World)(b i j:Nat)(v:Value)(h:i≠j):(w.setCell ⟨b,i,none⟩ v).cell? ⟨b,j,none⟩=w.cell? ⟨b,j,none⟩:=
 World.cell?_setCell_other _ _ _ _ (by intro hc;injection hc with _ h2;omega)
theorem zl (w:World)(b o:Nat)(u v:Value):(w.setCell ⟨b,o,none⟩ u).setCell ⟨b,o,none⟩ v=w.setCell ⟨b,o,none⟩ v:=by
 unfold World.setCell
 congr 1
 apply Array.ext
 ·simp
 intro i h1 h2;have h:i<w.heap.size:=by simpa using h2
 simp only[Array.getElem_modify];split
 ·generalize w.heap[i]=ob;cases ob<;>simp
 rfl
theorem aN.other {w:World}{b o n:Nat}{f:Nat→BitVec 32}(h:aN w b o n f){a:Addr}(ha:a.block≠b)(v:Value):aN (w.setCell a v) b o n f where
 cell j hj:=by
  rw[World.cell?_setCell_other _ _ _ _ (by intro hc;subst hc;exact ha rfl)];exact h.cell j hj
 frozen j hj:=by simp;exact h.frozen j hj
theorem aN.lt {w:World}{b o n:Nat}{f:Nat→BitVec 32}(h:aN w b o n f)(hn:0<n):b<w.heap.size:=
 World.block_lt_of_cell? w _ (h.cell 0 hn)
theorem aN.since {w w':World}{b o n:Nat}{f:Nat→BitVec 32}(h:aN w b o n f)(hs:Since w w'):aN w' b o n f where
 cell j hj:=by
  have hc:=h.cell j hj;rw[hs.cell (p:=⟨b,o+j,none⟩) (World.block_lt_of_cell? w _ hc)];exact hc
 frozen j hj:=by
  have hc:=h.cell j hj;rw[hs.frozen (p:=⟨b,o+j,none⟩) (World.block_lt_of_cell? w _ hc)];exact h.frozen j hj
theorem aN.drewN {w:World}{b o n:Nat}{f:Nat→BitVec 32}(h:aN w b o n f)(m:Nat):aN (w.drewN m) b o n f:=h.since ((Since.refl w).drewN m)
theorem aN.alloc {w:World}{b o n:Nat}{f:Nat→BitVec 32}(h:aN w b o n f)(ob:Obj):aN (w.alloc ob) b o n f:=h.since ((Since.refl w).alloc ob)
def row (n:Nat)(f:Nat→BitVec 32):List Value:=(List.range n).map fun i=>U (f i)
theorem aB (n:Nat)(f:Nat→BitVec 32):(row n f).length=n:=by simp[row]
theorem rA (n:Nat)(f:Nat→BitVec 32)(j:Nat)(hj:j<n):(row n f)[j]?=some (U (f j)):=by simp[row,hj]
theorem row_one (n:Nat)(f:Nat→BitVec 32):∀v ∈ row n f,v.oneCell'=true:=by
 intro v hv;simp only[row,List.mem_map] at hv;obtain⟨i,_,rfl⟩:=hv
 rfl
theorem aN.range {w:World}{b o n:Nat}{f:Nat→BitVec 32}(h:aN w b o n f):w.rangeAt b o (row n f):=fun j v hv=>by
 have hj:j<n:=by have:=(List.getElem?_eq_some_iff.1 hv).1;rwa [aB] at this
 rw[rA n f j hj] at hv;rw[h.cell j hj,hv]
theorem aN.there {w:World}{b o n:Nat}{f:Nat→BitVec 32}(h:aN w b o n f):w.there b o n:=fun j hj=>⟨by rw[h.cell j hj];rfl,h.frozen j hj⟩
theorem aN.setRow {w:World}{b o n:Nat}{f:Nat→BitVec 32}(h:aN w b o n f)(g:Nat→BitVec 32):aN (w.setCells b o (row n g)) b o n g where
 cell j hj:=by
  have:=World.rangeAt_setCells_same w b o (row n g) (by rw[aB];exact h.there) j (U (g j)) (rA n g j hj);exact this
 frozen j hj:=(World.there_setCells h.there b o (row n g) j hj).2
theorem aN.setRow_other {w:World}{b o n:Nat}{f:Nat→BitVec 32}(h:aN w b o n f){b' o':Nat}(vs:List Value)(hb:b≠b'):aN (w.setCells b' o' vs) b o n f where
 cell j hj:=World.rangeAt_setCells_apart h.range b' o' vs (Or.inl hb) j _ (rA n f j hj)
 frozen j hj:=(World.there_setCells h.there b' o' vs j hj).2
theorem aN.store {w:World}{b o n:Nat}{f:Nat→BitVec 32}(h:aN w b o n f)(P:Program)(g:Nat→BitVec 32):(storeCells ⟨b,o,none⟩ (row n g)).run P w=.ok () (w.setCells b o (row n g)):=by
 have:=run_storeCells_cells (P:=P) b o (row n g) 0 w (fun j hj=>by rw[aB] at hj;simpa using (h.there j hj).1) (fun j hj=>by rw[aB] at hj;simpa using (h.there j hj).2) (row_one n g)
 simpa using this
theorem bz {fn:Func}{p:Tmp}{ty:TypeId}(h:fn.results=#[.cell p ty])(tmps:Array Value)(P:Program)(w:World)(b:Nat)(cs:List Value)(d:TypeDesc)(hx:tmps.getD p undef=.pointer (some ⟨b,0,none⟩))(hc:w.rangeAt b 0 cs)(hu:P.underlying ty=some d)(hd:d.isRow=true)(hi:(P.info? ty).map (·.size)=some cs.length) :
  (results fn tmps).run P w=.ok (.agg cs.toArray) w:=by
 simp only[results,h];have h1:=run_loadVar_mid (P:=P) w b 0 ty cs d hc hu hd hi;have h2:tmps[p]?.getD undef=.pointer (some ⟨b,0,none⟩):=by simpa using hx
 simp[asAddr,h2,h1]
theorem aN.new (w:World)(n:Nat)(f:Nat→BitVec 32)(t:TypeId)(cs:Array Value)(e:cs=(row n f).toArray)(k:Nat)(hk:k=w.heap.size):aN (w.alloc (.cells cs t)) k 0 n f where
 cell j hj:=by
  subst hk e;rw[World.cell?_alloc_new,Nat.zero_add]
  simpa using rA n f j hj
 frozen j hj:=by subst hk;exact World.frozen?_alloc_at _ _ _ _ rfl
end Sm
end
section
namespace Sm.Sr
open Go.RowKit
def kJ (x:BitVec 32)(s:Nat):BitVec 32:=x <<< s ||| x >>> (32-s)
structure Qu where
 a:BitVec 32
 b:BitVec 32
 c:BitVec 32
 d:BitVec 32
def half (q:Qu)(m n:Nat):Qu:=
 let a:=q.a+q.b
 let d:=kJ (q.d ^^^ a) m
 let c:=q.c+d
 ⟨a,kJ (q.b ^^^ c) n,c,d⟩
def lD (q:Qu):Qu:=half (half q 16 12) 8 7
def Qu.at (q:Qu):Nat→BitVec 32
 | 0=>q.a
 | 1=>q.b
 | 2=>q.c
 | _=>q.d
def four (f:Nat→BitVec 32)(sh i:Nat):Qu:=⟨f i,f (4+(i+sh) % 4),f (8+(i+2*sh) % 4),f (12+(i+3*sh) % 4)⟩
def tq (sh:Nat)(f:Nat→BitVec 32):Nat→BitVec 32:=fun j=>(lD (four f sh ((j % 4+(4-sh)*(j / 4)) % 4))).at (j / 4)
def tu (f:Nat→BitVec 32):Nat→Nat→BitVec 32
 | 0=>f
 | n+1=>tq 1 (tq 0 (tu f n))
def mh (f:Nat→BitVec 32):Nat→BitVec 32:=fun j=>tu f 10 j+f j
def aT (s:ByteArray)(i:Nat):UInt8:=s.data.toList.getD i 0
def nH (a b c d:UInt8):BitVec 32:=BitVec.ofNat 32 a.toNat ||| BitVec.ofNat 32 b.toNat <<< 8 ||| BitVec.ofNat 32 c.toNat <<< 16 ||| BitVec.ofNat 32 d.toNat <<< 24
def aC (s:ByteArray)(i:Nat):BitVec 32:=nH (aT s (4*i)) (aT s (4*i+1)) (aT s (4*i+2)) (aT s (4*i+3))
def dx (key ah:ByteArray)(n:BitVec 32):Nat→BitVec 32:=fun j=>
 if j=0 then 1634760805#32 else if j=1 then 857760878#32 else if j=2 then 2036477234#32 else if j=3 then 1797285236#32
 else if j<12 then aC key (j-4) else if j=12 then n else aC ah (j-13)
def byteOf (f:Nat→BitVec 32)(i:Nat):Int:=CB (f (i / 4) >>> (8*(i % 4)))
def bytesOf (f:Nat→BitVec 32):List Int:=(List.range 64).map (byteOf f)
def iP (key:ByteArray)(n:BitVec 32)(ah:ByteArray):List Int:=bytesOf (mh (dx key ah n))
theorem wO (key:ByteArray)(n:BitVec 32)(ah:ByteArray):(iP key n ah).length=64:=by simp[iP,bytesOf]
end Sm.Sr
end
section
namespace Sm
open Go.RowKit
structure aA (w:World)(b n:Nat)(f:Nat→Value):Prop where
 cell:∀j,j<n→w.cell? ⟨b,j,none⟩=some (f j)
 frozen:∀j,j<n→w.frozen? ⟨b,j,none⟩=false
def aJ (f:Nat→Value)(i:Nat)(x:Value):Nat→Value:=fun j=>if j=i then x else f j
theorem aA.congr {w:World}{b n:Nat}{f g:Nat→Value}(h:aA w b n f)(e:∀j,j<n→f j=g j):aA w b n g:=
 ⟨fun j hj=>by rw[←e j hj];exact h.cell j hj,h.frozen⟩
theorem aA.set {w:World}{b n:Nat}{f:Nat→Value}(h:aA w b n f)(i:Nat)(hi:i<n)(x:Value):aA (w.setCell ⟨b,i,none⟩ x) b n (aJ f i x) where
 cell j hj:=by
  unfold aJ;by_cases e:j=i
  ·subst e;rw[if_pos rfl];exact World.cell?_setCell_same _ _ _ (h.cell j hj)
  rw[if_neg e,World.cell?_setCell_other _ _ _ _ (by intro hc;injection hc with _ h2;omega)];exact h.cell j hj
 frozen j hj:=by simp;exact h.frozen j hj
theorem aA.other {w:World}{b n:Nat}{f:Nat→Value}(h:aA w b n f){a:Addr}(ha:a.block≠b)(v:Value):aA (w.setCell a v) b n f where
 cell j hj:=by
  rw[World.cell?_setCell_other _ _ _ _ (by intro hc;subst hc;exact ha rfl)];exact h.cell j hj
 frozen j hj:=by simp;exact h.frozen j hj
theorem aA.lt {w:World}{b n:Nat}{f:Nat→Value}(h:aA w b n f)(hn:0<n):b<w.heap.size:=
 World.block_lt_of_cell? w _ (h.cell 0 hn)
theorem aA.since {w w':World}{b n:Nat}{f:Nat→Value}(h:aA w b n f)(hs:Since w w'):aA w' b n f where
 cell j hj:=by
  have hc:=h.cell j hj;rw[hs.cell (p:=⟨b,j,none⟩) (World.block_lt_of_cell? w _ hc)];exact hc
 frozen j hj:=by
  have hc:=h.cell j hj;rw[hs.frozen (p:=⟨b,j,none⟩) (World.block_lt_of_cell? w _ hc)];exact h.frozen j hj
theorem aA.new (w:World)(n:Nat)(f:Nat→Value)(t:TypeId)(cs:Array Value)(hc:∀j,j<n→cs[j]?=some (f j))(k:Nat)(hk:k=w.heap.size):aA (w.alloc (.cells cs t)) k n f where
 cell j hj:=by
  subst hk;rw[World.cell?_alloc_new];exact hc j hj
 frozen j hj:=by subst hk;exact World.frozen?_alloc_at _ _ _ _ rfl
end Sm
end
end Go.Proofs.YtlgbfkcpdelcbaaGreatDoor
