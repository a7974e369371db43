import Derived.Deep.MidRow
import Derived.Test.YtlgocfgnfdnloaaGreatDoorJ01
set_option linter.unusedSimpArgs false
set_option linter.unusedVariables false
section
namespace Go.Proofs.YtlgocfgnfdnloaaGreatDoor
set_option maxRecDepth 100000
namespace Sm
open Go.RowKit
structure Arr (w : World) (b o n : Nat) (f : Nat → BitVec 32) : Prop where
  cell : ∀ j, j < n → w.cell? ⟨b, o + j, none⟩ = some (U (f j))
  frozen : ∀ j, j < n → w.frozen? ⟨b, o + j, none⟩ = false
def upd (f : Nat → BitVec 32) (i : Nat) (x : BitVec 32) : Nat → BitVec 32 := fun j => if j = i then x else f j
theorem Arr.congr {w : World} {b o n : Nat} {f g : Nat → BitVec 32} (h : Arr w b o n f) (e : ∀ j, j < n → f j = g j) : Arr w b o n g :=
  ⟨fun j hj => by rw [← e j hj]; exact h.cell j hj, h.frozen⟩
theorem Arr.set {w : World} {b o n : Nat} {f : Nat → BitVec 32} (h : Arr w b o n f) (i : Nat) (hi : i < n) (x : BitVec 32) : Arr (w.setCell ⟨b, o + i, none⟩ (U x)) b o n (upd f i x) where
  cell j hj := by
    unfold upd
    by_cases e : j = i
    · subst e
      rw [if_pos rfl]
      exact World.cell?_setCell_same _ _ _ (h.cell j hj)
    · rw [if_neg e, World.cell?_setCell_other _ _ _ _ (by intro hc; injection hc with _ h2; omega)]
      exact h.cell j hj
  frozen j hj := by simp; exact h.frozen j hj
theorem cell_set_ne (w : World) (b i j : Nat) (v : Value) (h : i ≠ j) : (w.setCell ⟨b, i, none⟩ v).cell? ⟨b, j, none⟩ = w.cell? ⟨b, j, none⟩ :=
  World.cell?_setCell_other _ _ _ _ (by intro hc; injection hc with _ h2; omega)
theorem Arr.other {w : World} {b o n : Nat} {f : Nat → BitVec 32} (h : Arr w b o n f) {a : Addr} (ha : a.block ≠ b) (v : Value) : Arr (w.setCell a v) b o n f where
  cell j hj := by
    rw [World.cell?_setCell_other _ _ _ _ (by intro hc; subst hc; exact ha rfl)]
    exact h.cell j hj
  frozen j hj := by simp; exact h.frozen j hj
theorem Arr.lt {w : World} {b o n : Nat} {f : Nat → BitVec 32} (h : Arr w b o n f) (hn : 0 < n) : b < w.heap.size :=
  World.block_lt_of_cell? w _ (h.cell 0 hn)
theorem Arr.since {w w' : World} {b o n : Nat} {f : Nat → BitVec 32} (h : Arr w b o n f) (hs : Since w w') : Arr w' b o n f where
  cell j hj := by
    have hc := h.cell j hj
    rw [hs.cell (p := ⟨b, o + j, none⟩) (World.block_lt_of_cell? w _ hc)]; exact hc
  frozen j hj := by
    have hc := h.cell j hj
    rw [hs.frozen (p := ⟨b, o + j, none⟩) (World.block_lt_of_cell? w _ hc)]; exact h.frozen j hj
theorem Arr.drewN {w : World} {b o n : Nat} {f : Nat → BitVec 32} (h : Arr w b o n f) (m : Nat) : Arr (w.drewN m) b o n f := h.since ((Since.refl w).drewN m)
theorem Arr.alloc {w : World} {b o n : Nat} {f : Nat → BitVec 32} (h : Arr w b o n f) (ob : Obj) : Arr (w.alloc ob) b o n f := h.since ((Since.refl w).alloc ob)
def row (n : Nat) (f : Nat → BitVec 32) : List Value := (List.range n).map fun i => U (f i)
theorem row_length (n : Nat) (f : Nat → BitVec 32) : (row n f).length = n := by simp [row]
theorem row_get (n : Nat) (f : Nat → BitVec 32) (j : Nat) (hj : j < n) : (row n f)[j]? = some (U (f j)) := by simp [row, hj]
theorem row_one (n : Nat) (f : Nat → BitVec 32) : ∀ v ∈ row n f, v.oneCell' = true := by
  intro v hv
  simp only [row, List.mem_map] at hv
  obtain ⟨i, _, rfl⟩ := hv
  rfl
theorem Arr.range {w : World} {b o n : Nat} {f : Nat → BitVec 32} (h : Arr w b o n f) : w.rangeAt b o (row n f) := fun j v hv => by
  have hj : j < n := by have := (List.getElem?_eq_some_iff.1 hv).1; rwa [row_length] at this
  rw [row_get n f j hj] at hv
  rw [h.cell j hj, hv]
theorem Arr.there {w : World} {b o n : Nat} {f : Nat → BitVec 32} (h : Arr w b o n f) : w.there b o n := fun j hj => ⟨by rw [h.cell j hj]; rfl, h.frozen j hj⟩
theorem Arr.setRow {w : World} {b o n : Nat} {f : Nat → BitVec 32} (h : Arr w b o n f) (g : Nat → BitVec 32) : Arr (w.setCells b o (row n g)) b o n g where
  cell j hj := by
    have := World.rangeAt_setCells_same w b o (row n g) (by rw [row_length]; exact h.there) j (U (g j)) (row_get n g j hj)
    exact this
  frozen j hj := (World.there_setCells h.there b o (row n g) j hj).2
theorem Arr.setRow_other {w : World} {b o n : Nat} {f : Nat → BitVec 32} (h : Arr w b o n f) {b' o' : Nat} (vs : List Value) (hb : b ≠ b') : Arr (w.setCells b' o' vs) b o n f where
  cell j hj := World.rangeAt_setCells_apart h.range b' o' vs (Or.inl hb) j _ (row_get n f j hj)
  frozen j hj := (World.there_setCells h.there b' o' vs j hj).2
theorem Arr.store {w : World} {b o n : Nat} {f : Nat → BitVec 32} (h : Arr w b o n f) (P : Program) (g : Nat → BitVec 32) : (storeCells ⟨b, o, none⟩ (row n g)).run P w = .ok () (w.setCells b o (row n g)) := by
  have := run_storeCells_cells (P := P) b o (row n g) 0 w (fun j hj => by rw [row_length] at hj; simpa using (h.there j hj).1) (fun j hj => by rw [row_length] at hj; simpa using (h.there j hj).2) (row_one n g)
  simpa using this
theorem results_row {fn : Func} {p : Tmp} {ty : TypeId} (h : fn.results = #[.cell p ty]) (tmps : Array Value) (P : Program) (w : World) (b : Nat) (cs : List Value) (d : TypeDesc)
    (hx : tmps.getD p undef = .pointer (some ⟨b, 0, none⟩)) (hc : w.rangeAt b 0 cs) (hu : P.underlying ty = some d) (hd : d.isRow = true) (hi : (P.info? ty).map (·.size) = some cs.length) :
    (results fn tmps).run P w = .ok (.agg cs.toArray) w := by
  simp only [results, h]
  have h1 := run_loadVar_mid (P := P) w b 0 ty cs d hc hu hd hi
  have h2 : tmps[p]?.getD undef = .pointer (some ⟨b, 0, none⟩) := by simpa using hx
  simp [asAddr, h2, h1]
theorem Arr.new (w : World) (n : Nat) (f : Nat → BitVec 32) (t : TypeId) (cs : Array Value) (e : cs = (row n f).toArray) (k : Nat) (hk : k = w.heap.size) : Arr (w.alloc (.cells cs t)) k 0 n f where
  cell j hj := by
    subst hk e
    rw [World.cell?_alloc_new, Nat.zero_add]
    simpa using row_get n f j hj
  frozen j hj := by subst hk; exact World.frozen?_alloc_at _ _ _ _ rfl
end Sm
end Go.Proofs.YtlgocfgnfdnloaaGreatDoor
end
section
namespace Go.Proofs.YtlgocfgnfdnloaaGreatDoor
set_option maxRecDepth 100000
namespace Sm.Sr
open Go.RowKit
def rol (x : BitVec 32) (s : Nat) : BitVec 32 := x <<< s ||| x >>> (32 - s)
structure Qu where
  a : BitVec 32
  b : BitVec 32
  c : BitVec 32
  d : BitVec 32
def half (q : Qu) (m n : Nat) : Qu :=
  let a := q.a + q.b
  let d := rol (q.d ^^^ a) m
  let c := q.c + d
  ⟨a, rol (q.b ^^^ c) n, c, d⟩
def quart (q : Qu) : Qu := half (half q 16 12) 8 7
def Qu.at (q : Qu) : Nat → BitVec 32
  | 0 => q.a
  | 1 => q.b
  | 2 => q.c
  | _ => q.d
def four (f : Nat → BitVec 32) (sh i : Nat) : Qu := ⟨f i, f (4 + (i + sh) % 4), f (8 + (i + 2 * sh) % 4), f (12 + (i + 3 * sh) % 4)⟩
def rnd (sh : Nat) (f : Nat → BitVec 32) : Nat → BitVec 32 := fun j => (quart (four f sh ((j % 4 + (4 - sh) * (j / 4)) % 4))).at (j / 4)
def rnds (f : Nat → BitVec 32) : Nat → Nat → BitVec 32
  | 0 => f
  | n + 1 => rnd 1 (rnd 0 (rnds f n))
def mixd (f : Nat → BitVec 32) : Nat → BitVec 32 := fun j => rnds f 10 j + f j
def byteAt (s : ByteArray) (i : Nat) : UInt8 := s.data.toList.getD i 0
def word4 (a b c d : UInt8) : BitVec 32 := BitVec.ofNat 32 a.toNat ||| BitVec.ofNat 32 b.toNat <<< 8 ||| BitVec.ofNat 32 c.toNat <<< 16 ||| BitVec.ofNat 32 d.toNat <<< 24
def wordAt (s : ByteArray) (i : Nat) : BitVec 32 := word4 (byteAt s (4 * i)) (byteAt s (4 * i + 1)) (byteAt s (4 * i + 2)) (byteAt s (4 * i + 3))
def laidF (key nonce : ByteArray) (n : BitVec 32) : Nat → BitVec 32 := fun j =>
  if j = 0 then 1634760805#32 else if j = 1 then 857760878#32 else if j = 2 then 2036477234#32 else if j = 3 then 1797285236#32
  else if j < 12 then wordAt key (j - 4) else if j = 12 then n else wordAt nonce (j - 13)
def byteOf (f : Nat → BitVec 32) (i : Nat) : Int := lowb (f (i / 4) >>> (8 * (i % 4)))
end Sm.Sr
end Go.Proofs.YtlgocfgnfdnloaaGreatDoor
end
section
namespace Go.Proofs.YtlgocfgnfdnloaaGreatDoor
set_option maxRecDepth 100000
namespace Sm
open Go.RowKit
structure Cel (w : World) (b n : Nat) (f : Nat → Value) : Prop where
  cell : ∀ j, j < n → w.cell? ⟨b, j, none⟩ = some (f j)
  frozen : ∀ j, j < n → w.frozen? ⟨b, j, none⟩ = false
def updv (f : Nat → Value) (i : Nat) (x : Value) : Nat → Value := fun j => if j = i then x else f j
theorem Cel.congr {w : World} {b n : Nat} {f g : Nat → Value} (h : Cel w b n f) (e : ∀ j, j < n → f j = g j) : Cel w b n g :=
  ⟨fun j hj => by rw [← e j hj]; exact h.cell j hj, h.frozen⟩
theorem Cel.set {w : World} {b n : Nat} {f : Nat → Value} (h : Cel w b n f) (i : Nat) (hi : i < n) (x : Value) : Cel (w.setCell ⟨b, i, none⟩ x) b n (updv f i x) where
  cell j hj := by
    unfold updv
    by_cases e : j = i
    · subst e
      rw [if_pos rfl]
      exact World.cell?_setCell_same _ _ _ (h.cell j hj)
    · rw [if_neg e, World.cell?_setCell_other _ _ _ _ (by intro hc; injection hc with _ h2; omega)]
      exact h.cell j hj
  frozen j hj := by simp; exact h.frozen j hj
theorem Cel.other {w : World} {b n : Nat} {f : Nat → Value} (h : Cel w b n f) {a : Addr} (ha : a.block ≠ b) (v : Value) : Cel (w.setCell a v) b n f where
  cell j hj := by
    rw [World.cell?_setCell_other _ _ _ _ (by intro hc; subst hc; exact ha rfl)]
    exact h.cell j hj
  frozen j hj := by simp; exact h.frozen j hj
theorem Cel.lt {w : World} {b n : Nat} {f : Nat → Value} (h : Cel w b n f) (hn : 0 < n) : b < w.heap.size :=
  World.block_lt_of_cell? w _ (h.cell 0 hn)
theorem Cel.since {w w' : World} {b n : Nat} {f : Nat → Value} (h : Cel w b n f) (hs : Since w w') : Cel w' b n f where
  cell j hj := by
    have hc := h.cell j hj
    rw [hs.cell (p := ⟨b, j, none⟩) (World.block_lt_of_cell? w _ hc)]; exact hc
  frozen j hj := by
    have hc := h.cell j hj
    rw [hs.frozen (p := ⟨b, j, none⟩) (World.block_lt_of_cell? w _ hc)]; exact h.frozen j hj
theorem Cel.new (w : World) (n : Nat) (f : Nat → Value) (t : TypeId) (cs : Array Value) (hc : ∀ j, j < n → cs[j]? = some (f j)) (k : Nat) (hk : k = w.heap.size) : Cel (w.alloc (.cells cs t)) k n f where
  cell j hj := by
    subst hk
    rw [World.cell?_alloc_new]
    exact hc j hj
  frozen j hj := by subst hk; exact World.frozen?_alloc_at _ _ _ _ rfl
end Sm
end Go.Proofs.YtlgocfgnfdnloaaGreatDoor
end
