/- Rows of cells in memory, bytes, texts; frames. -/
import Derived.Test.YtceoamhenpohhaaGreatDoorB0
import Derived.WalkKit
import Derived.WalkSpells
import Derived.WalkLawsBesides
import Derived.Deep.MidRow
namespace Go.Proofs.YtceoamhenpohhaaGreatDoor
set_option linter.unusedSimpArgs false
set_option linter.unusedVariables false
open Go.RowKit

/-- all but block b and block g is as it was -/
structure Fr (b : Nat) (g : Option Nat) (w w' : World) : Prop where
  os : w'.os = w.os
  tape : w'.tape = w.tape
  output : w'.output = w.output
  size : w.heap.size ≤ w'.heap.size
  block : ∀ k, k < w.heap.size → k ≠ b → some k ≠ g → w'.heap[k]? = w.heap[k]?
theorem Fr.refl (b : Nat) (g : Option Nat) (w : World) : Fr b g w w := ⟨rfl, rfl, rfl, Nat.le_refl _, fun _ _ _ _ => rfl⟩
/-- the row of writes: what it was, or none, or a new one -/
def Nx (w : World) (g g' : Option Nat) : Prop := ∀ k, g' = some k → g = some k ∨ w.heap.size ≤ k
theorem Nx.refl (w : World) (g : Option Nat) : Nx w g g := fun _ h => Or.inl h
theorem Nx.none (w : World) (g : Option Nat) : Nx w g none := fun _ h => by cases h
theorem Nx.trans {w w1 : World} {g g1 g2 : Option Nat} (h : Nx w g g1) (k : Nx w1 g1 g2) (hs : w.heap.size ≤ w1.heap.size) : Nx w g g2 := fun j hj => by
  rcases k j hj with h1 | h1
  · exact h j h1
  · exact Or.inr (Nat.le_trans hs h1)
theorem Fr.trans {b : Nat} {g g' : Option Nat} {w w' w'' : World} (h : Fr b g w w') (k : Fr b g' w' w'') (hn : Nx w g g') : Fr b g w w'' where
  os := k.os.trans h.os
  tape := k.tape.trans h.tape
  output := k.output.trans h.output
  size := Nat.le_trans h.size k.size
  block j hj hb hg := (k.block j (Nat.lt_of_lt_of_le hj h.size) hb (fun e => by
    rcases hn j e.symm with h1 | h1
    · exact hg h1.symm
    · omega)).trans (h.block j hj hb hg)
theorem Fr.of_since {b : Nat} {g : Option Nat} {w w' : World} (h : Since w w') : Fr b g w w' := ⟨h.os, h.tape, h.output, h.size, fun k hk _ _ => h.block k hk⟩
theorem Fr.setCell (b : Nat) (g : Option Nat) (o : Nat) (w : World) (v : Value) : Fr b g w (w.setCell ⟨b, o, none⟩ v) :=
  ⟨rfl, rfl, rfl, by simp [World.setCell], fun k _ hb _ => Below.heap_setCell _ _ _ _ hb⟩
theorem Fr.trans' {b : Nat} {g : Option Nat} {w w' w'' : World} (h : Fr b g w w') (k : Fr b g w' w'') : Fr b g w w'' := h.trans k (Nx.refl _ _)
theorem Fr.setCells (b : Nat) (g : Option Nat) : ∀ (vs : List Value) (o : Nat) (w : World), Fr b g w (w.setCells b o vs)
  | [], _, w => Fr.refl _ _ w
  | v :: r, o, w => (Fr.setCell b g o w v).trans' (Fr.setCells b g r (o + 1) _)
theorem Fr.since {b : Nat} {g : Option Nat} {a w w' : World} (h : Fr b g w w') (hs : Since a w) (hb : a.heap.size ≤ b) (hg : ∀ k, g = some k → a.heap.size ≤ k) : Since a w' :=
  Below.trans (show Below a.heap.size a w from hs) ⟨h.os, h.tape, h.output, h.size, fun k hk => h.block k (Nat.lt_of_lt_of_le hk hs.size) (by omega) (fun e => by have := hg k e.symm; omega)⟩
theorem Fr.cell {b : Nat} {g : Option Nat} {w w' : World} (h : Fr b g w w') {p : Addr} (hp : p.block < w.heap.size) (hb : p.block ≠ b) (hg : some p.block ≠ g) : w'.cell? p = w.cell? p :=
  World.cell?_of_block (w := w) (h.block p.block hp hb hg)
theorem Fr.frozen {b : Nat} {g : Option Nat} {w w' : World} (h : Fr b g w w') {p : Addr} (hp : p.block < w.heap.size) (hb : p.block ≠ b) (hg : some p.block ≠ g) : w'.frozen? p = w.frozen? p :=
  World.frozen?_of_block (w := w) (h.block p.block hp hb hg)
theorem Fr.drewN (b : Nat) (g : Option Nat) (w : World) (n : Nat) : Fr b g w (w.drewN n) := Fr.of_since ((Since.refl w).drewN n)

/-- in block b the cells 0 .. n-1 hold f 0 .. f (n-1), and may be written -/
structure Cel (w : World) (b n : Nat) (f : Nat → Value) : Prop where
  cell : ∀ j, j < n → w.cell? ⟨b, j, none⟩ = some (f j)
  frozen : ∀ j, j < n → w.frozen? ⟨b, j, none⟩ = false

def updv (f : Nat → Value) (i : Nat) (x : Value) : Nat → Value := fun j => if j = i then x else f j
def updl (f : Nat → Value) (o n : Nat) (g : Nat → Value) : Nat → Value := fun j => if o ≤ j ∧ j < o + n then g (j - o) else f j

theorem Cel.congr {w : World} {b n : Nat} {f g : Nat → Value} (h : Cel w b n f) (e : ∀ j, j < n → f j = g j) : Cel w b n g :=
  ⟨fun j hj => by rw [← e j hj]; exact h.cell j hj, h.frozen⟩
theorem Cel.set {w : World} {b n : Nat} {f : Nat → Value} (h : Cel w b n f) (i : Nat) (hi : i < n) (x : Value) : Cel (w.setCell ⟨b, i, none⟩ x) b n (updv f i x) where
  cell j hj := by
    unfold updv
    by_cases e : j = i
    · subst e
      rw [if_pos rfl]
      exact World.cell?_setCell_same _ _ _ (h.cell j hj)
    · rw [if_neg e, World.cell?_setCell_other _ _ _ _ (by intro hc; injection hc with _ h2; omega)]
      exact h.cell j hj
  frozen j hj := by simp; exact h.frozen j hj
theorem Cel.other {w : World} {b n : Nat} {f : Nat → Value} (h : Cel w b n f) {a : Addr} (ha : a.block ≠ b) (v : Value) : Cel (w.setCell a v) b n f where
  cell j hj := by
    rw [World.cell?_setCell_other _ _ _ _ (by intro hc; subst hc; exact ha rfl)]
    exact h.cell j hj
  frozen j hj := by simp; exact h.frozen j hj
theorem Cel.lt {w : World} {b n : Nat} {f : Nat → Value} (h : Cel w b n f) (hn : 0 < n) : b < w.heap.size :=
  World.block_lt_of_cell? w _ (h.cell 0 hn)
theorem Cel.since {w w' : World} {b n : Nat} {f : Nat → Value} (h : Cel w b n f) (hs : Since w w') : Cel w' b n f where
  cell j hj := by
    have hc := h.cell j hj
    rw [hs.cell (p := ⟨b, j, none⟩) (World.block_lt_of_cell? w _ hc)]; exact hc
  frozen j hj := by
    have hc := h.cell j hj
    rw [hs.frozen (p := ⟨b, j, none⟩) (World.block_lt_of_cell? w _ hc)]; exact h.frozen j hj
theorem Cel.fr {w w' : World} {b b' n : Nat} {g : Option Nat} {f : Nat → Value} (h : Cel w b n f) (hs : Fr b' g w w') (hb : b ≠ b') (hg : some b ≠ g) : Cel w' b n f where
  cell j hj := by
    have hc := h.cell j hj
    rw [hs.cell (p := ⟨b, j, none⟩) (World.block_lt_of_cell? w _ hc) hb hg]; exact hc
  frozen j hj := by
    have hc := h.cell j hj
    rw [hs.frozen (p := ⟨b, j, none⟩) (World.block_lt_of_cell? w _ hc) hb hg]; exact h.frozen j hj
theorem Cel.new (w : World) (n : Nat) (f : Nat → Value) (t : TypeId) (cs : Array Value) (hc : ∀ j, j < n → cs[j]? = some (f j)) (k : Nat) (hk : k = w.heap.size) : Cel (w.alloc (.cells cs t)) k n f where
  cell j hj := by
    subst hk
    rw [World.cell?_alloc_new]
    exact hc j hj
  frozen j hj := by subst hk; exact World.frozen?_alloc_at _ _ _ _ rfl

/-- n values as a list -/
def brow (n : Nat) (g : Nat → Value) : List Value := (List.range n).map g
theorem brow_length (n : Nat) (g : Nat → Value) : (brow n g).length = n := by simp [brow]
theorem brow_get (n : Nat) (g : Nat → Value) (j : Nat) (hj : j < n) : (brow n g)[j]? = some (g j) := by simp [brow, hj]
theorem brow_one (n : Nat) (g : Nat → Value) (h : ∀ j, j < n → (g j).oneCell' = true) : ∀ v ∈ brow n g, v.oneCell' = true := by
  intro v hv
  simp only [brow, List.mem_map, List.mem_range] at hv
  obtain ⟨i, hi, rfl⟩ := hv
  exact h i hi
theorem brow_of {l : List Value} {n : Nat} {g : Nat → Value} (hl : l.length = n) (h : ∀ j, j < n → l[j]? = some (g j)) : l = brow n g := by
  apply List.ext_getElem?
  intro i
  by_cases hi : i < n
  · rw [h i hi, brow_get n g i hi]
  · rw [List.getElem?_eq_none (by omega), List.getElem?_eq_none (by rw [brow_length]; omega)]
theorem Cel.range {w : World} {b n : Nat} {f : Nat → Value} (h : Cel w b n f) (o m : Nat) (hm : o + m ≤ n) : w.rangeAt b o (brow m (fun j => f (o + j))) := fun j v hv => by
  have hj : j < m := by have := (List.getElem?_eq_some_iff.1 hv).1; rwa [brow_length] at this
  rw [brow_get _ _ j hj] at hv
  rw [h.cell (o + j) (by omega), hv]
theorem Cel.there {w : World} {b n : Nat} {f : Nat → Value} (h : Cel w b n f) (o m : Nat) (hm : o + m ≤ n) : w.there b o m := fun j hj =>
  ⟨by rw [h.cell (o + j) (by omega)]; rfl, h.frozen (o + j) (by omega)⟩
theorem Cel.setRow {w : World} {b n : Nat} {f : Nat → Value} (h : Cel w b n f) (o m : Nat) (hm : o + m ≤ n) (g : Nat → Value) : Cel (w.setCells b o (brow m g)) b n (updl f o m g) where
  cell j hj := by
    unfold updl
    split
    · rename_i hc
      have := World.rangeAt_setCells_same w b o (brow m g) (by rw [brow_length]; exact h.there o m hm) (j - o) (g (j - o)) (brow_get m g _ (by omega))
      rwa [show o + (j - o) = j by omega] at this
    · rename_i hc
      rw [World.cell?_setCells_out b _ o w _ (fun _ _ => by rw [brow_length]; show j < o ∨ o + m ≤ j; omega)]
      exact h.cell j hj
  frozen j hj := by rw [World.frozen?_setCells]; exact h.frozen j hj
theorem Cel.setRow_other {w : World} {b n : Nat} {f : Nat → Value} (h : Cel w b n f) {b' o' : Nat} (vs : List Value) (hb : b ≠ b') : Cel (w.setCells b' o' vs) b n f where
  cell j hj := by
    rw [World.cell?_setCells_out b' _ o' w _ (fun e _ => absurd e hb)]
    exact h.cell j hj
  frozen j hj := by rw [World.frozen?_setCells]; exact h.frozen j hj
theorem Cel.store {w : World} {b n : Nat} {f : Nat → Value} (h : Cel w b n f) (P : Program) (o m : Nat) (hm : o + m ≤ n) (g : Nat → Value) (h1 : ∀ j, j < m → (g j).oneCell' = true) : (storeCells ⟨b, o, none⟩ (brow m g)).run P w = .ok () (w.setCells b o (brow m g)) := by
  have := run_storeCells_cells (P := P) b o (brow m g) 0 w (fun j hj => by rw [brow_length] at hj; simpa using (h.there o m hm j hj).1) (fun j hj => by rw [brow_length] at hj; simpa using (h.there o m hm j hj).2) (brow_one m g h1)
  simpa using this
theorem results_row {fn : Func} {p : Tmp} {ty : TypeId} (h : fn.results = #[.cell p ty]) (tmps : Array Value) (P : Program) (w : World) (b : Nat) (cs : List Value) (d : TypeDesc)
    (hx : tmps.getD p undef = .pointer (some ⟨b, 0, none⟩)) (hc : w.rangeAt b 0 cs) (hu : P.underlying ty = some d) (hd : d.isRow = true) (hi : (P.info? ty).map (·.size) = some cs.length) :
    (results fn tmps).run P w = .ok (.agg cs.toArray) w := by
  simp only [results, h]
  have h1 := run_loadVar_mid (P := P) w b 0 ty cs d hc hu hd hi
  have h2 : tmps[p]?.getD undef = .pointer (some ⟨b, 0, none⟩) := by simpa using hx
  simp [asAddr, h2, h1]

/-- a byte as a cell -/
def bv (x : UInt8) : Value := .int .u8 (x.toNat : Int)
/-- byte i of a text, 0 behind it -/
def sb (s : ByteArray) (i : Nat) : UInt8 := s.data[i]?.getD 0
/-- n bytes as a text -/
def txt (n : Nat) (f : Nat → UInt8) : ByteArray := ⟨((List.range n).map f).toArray⟩
theorem txt_size (n : Nat) (f : Nat → UInt8) : (txt n f).size = n := by simp [txt, ByteArray.size]
theorem txt_congr {n : Nat} {f g : Nat → UInt8} (h : ∀ i, i < n → f i = g i) : txt n f = txt n g := by
  unfold txt
  rw [List.map_congr_left (fun i hi => h i (List.mem_range.1 hi))]
theorem sb_txt (n : Nat) (f : Nat → UInt8) (i : Nat) (hi : i < n) : sb (txt n f) i = f i := by simp [sb, txt, hi]
end Go.Proofs.YtceoamhenpohhaaGreatDoor
