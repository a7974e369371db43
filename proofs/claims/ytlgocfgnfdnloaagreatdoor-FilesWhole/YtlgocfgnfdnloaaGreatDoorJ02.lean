import Derived.WalkKit
import Derived.WalkSpells
import Derived.WalkLawsBesides
import Derived.Deep.MidRow
import Derived.MapKept
import Derived.WideKeyRuns
import Derived.ChangeKeysEq
import Derived.Test.YtlgocfgnfdnloaaGreatDoorJ01
set_option linter.unusedSimpArgs false
set_option linter.unusedVariables false
section
namespace Go.Proofs.YtlgocfgnfdnloaaGreatDoor
open Go.RowKit
structure Fr (b : Nat) (g : Option Nat) (w w' : World) : Prop where
  os : w'.os = w.os
  tape : w'.tape = w.tape
  output : w'.output = w.output
  size : w.heap.size ≤ w'.heap.size
  block : ∀ k, k < w.heap.size → k ≠ b → some k ≠ g → w'.heap[k]? = w.heap[k]?
theorem Fr.refl (b : Nat) (g : Option Nat) (w : World) : Fr b g w w := ⟨rfl, rfl, rfl, Nat.le_refl _, fun _ _ _ _ => rfl⟩
def Nx (w : World) (g g' : Option Nat) : Prop := ∀ k, g' = some k → g = some k ∨ w.heap.size ≤ k
theorem Nx.refl (w : World) (g : Option Nat) : Nx w g g := fun _ h => Or.inl h
theorem Nx.none (w : World) (g : Option Nat) : Nx w g none := fun _ h => by cases h
theorem Nx.trans {w w1 : World} {g g1 g2 : Option Nat} (h : Nx w g g1) (k : Nx w1 g1 g2) (hs : w.heap.size ≤ w1.heap.size) : Nx w g g2 := fun j hj => by
  rcases k j hj with h1 | h1
  · exact h j h1
  · exact Or.inr (Nat.le_trans hs h1)
theorem Fr.trans {b : Nat} {g g' : Option Nat} {w w' w'' : World} (h : Fr b g w w') (k : Fr b g' w' w'') (hn : Nx w g g') : Fr b g w w'' where
  os := k.os.trans h.os
  tape := k.tape.trans h.tape
  output := k.output.trans h.output
  size := Nat.le_trans h.size k.size
  block j hj hb hg := (k.block j (Nat.lt_of_lt_of_le hj h.size) hb (fun e => by
    rcases hn j e.symm with h1 | h1
    · exact hg h1.symm
    · omega)).trans (h.block j hj hb hg)
theorem Fr.of_since {b : Nat} {g : Option Nat} {w w' : World} (h : Since w w') : Fr b g w w' := ⟨h.os, h.tape, h.output, h.size, fun k hk _ _ => h.block k hk⟩
theorem Fr.setCell (b : Nat) (g : Option Nat) (o : Nat) (w : World) (v : Value) : Fr b g w (w.setCell ⟨b, o, none⟩ v) :=
  ⟨rfl, rfl, rfl, by simp [World.setCell], fun k _ hb _ => Below.heap_setCell _ _ _ _ hb⟩
theorem Fr.trans' {b : Nat} {g : Option Nat} {w w' w'' : World} (h : Fr b g w w') (k : Fr b g w' w'') : Fr b g w w'' := h.trans k (Nx.refl _ _)
theorem Fr.setCells (b : Nat) (g : Option Nat) : ∀ (vs : List Value) (o : Nat) (w : World), Fr b g w (w.setCells b o vs)
  | [], _, w => Fr.refl _ _ w
  | v :: r, o, w => (Fr.setCell b g o w v).trans' (Fr.setCells b g r (o + 1) _)
theorem Fr.since {b : Nat} {g : Option Nat} {a w w' : World} (h : Fr b g w w') (hs : Since a w) (hb : a.heap.size ≤ b) (hg : ∀ k, g = some k → a.heap.size ≤ k) : Since a w' :=
  Below.trans (show Below a.heap.size a w from hs) ⟨h.os, h.tape, h.output, h.size, fun k hk => h.block k (Nat.lt_of_lt_of_le hk hs.size) (by omega) (fun e => by have := hg k e.symm; omega)⟩
theorem Fr.cell {b : Nat} {g : Option Nat} {w w' : World} (h : Fr b g w w') {p : Addr} (hp : p.block < w.heap.size) (hb : p.block ≠ b) (hg : some p.block ≠ g) : w'.cell? p = w.cell? p :=
  World.cell?_of_block (w := w) (h.block p.block hp hb hg)
theorem Fr.frozen {b : Nat} {g : Option Nat} {w w' : World} (h : Fr b g w w') {p : Addr} (hp : p.block < w.heap.size) (hb : p.block ≠ b) (hg : some p.block ≠ g) : w'.frozen? p = w.frozen? p :=
  World.frozen?_of_block (w := w) (h.block p.block hp hb hg)
theorem Fr.drewN (b : Nat) (g : Option Nat) (w : World) (n : Nat) : Fr b g w (w.drewN n) := Fr.of_since ((Since.refl w).drewN n)
structure Cel (w : World) (b n : Nat) (f : Nat → Value) : Prop where
  cell : ∀ j, j < n → w.cell? ⟨b, j, none⟩ = some (f j)
  frozen : ∀ j, j < n → w.frozen? ⟨b, j, none⟩ = false
def updv (f : Nat → Value) (i : Nat) (x : Value) : Nat → Value := fun j => if j = i then x else f j
def updl (f : Nat → Value) (o n : Nat) (g : Nat → Value) : Nat → Value := fun j => if o ≤ j ∧ j < o + n then g (j - o) else f j
theorem Cel.congr {w : World} {b n : Nat} {f g : Nat → Value} (h : Cel w b n f) (e : ∀ j, j < n → f j = g j) : Cel w b n g :=
  ⟨fun j hj => by rw [← e j hj]; exact h.cell j hj, h.frozen⟩
theorem Cel.set {w : World} {b n : Nat} {f : Nat → Value} (h : Cel w b n f) (i : Nat) (hi : i < n) (x : Value) : Cel (w.setCell ⟨b, i, none⟩ x) b n (updv f i x) where
  cell j hj := by
    unfold updv
    by_cases e : j = i
    · subst e
      rw [if_pos rfl]
      exact World.cell?_setCell_same _ _ _ (h.cell j hj)
    · rw [if_neg e, World.cell?_setCell_other _ _ _ _ (by intro hc; injection hc with _ h2; omega)]
      exact h.cell j hj
  frozen j hj := by simp; exact h.frozen j hj
theorem Cel.other {w : World} {b n : Nat} {f : Nat → Value} (h : Cel w b n f) {a : Addr} (ha : a.block ≠ b) (v : Value) : Cel (w.setCell a v) b n f where
  cell j hj := by
    rw [World.cell?_setCell_other _ _ _ _ (by intro hc; subst hc; exact ha rfl)]
    exact h.cell j hj
  frozen j hj := by simp; exact h.frozen j hj
theorem Cel.lt {w : World} {b n : Nat} {f : Nat → Value} (h : Cel w b n f) (hn : 0 < n) : b < w.heap.size :=
  World.block_lt_of_cell? w _ (h.cell 0 hn)
theorem Cel.since {w w' : World} {b n : Nat} {f : Nat → Value} (h : Cel w b n f) (hs : Since w w') : Cel w' b n f where
  cell j hj := by
    have hc := h.cell j hj
    rw [hs.cell (p := ⟨b, j, none⟩) (World.block_lt_of_cell? w _ hc)]; exact hc
  frozen j hj := by
    have hc := h.cell j hj
    rw [hs.frozen (p := ⟨b, j, none⟩) (World.block_lt_of_cell? w _ hc)]; exact h.frozen j hj
theorem Cel.fr {w w' : World} {b b' n : Nat} {g : Option Nat} {f : Nat → Value} (h : Cel w b n f) (hs : Fr b' g w w') (hb : b ≠ b') (hg : some b ≠ g) : Cel w' b n f where
  cell j hj := by
    have hc := h.cell j hj
    rw [hs.cell (p := ⟨b, j, none⟩) (World.block_lt_of_cell? w _ hc) hb hg]; exact hc
  frozen j hj := by
    have hc := h.cell j hj
    rw [hs.frozen (p := ⟨b, j, none⟩) (World.block_lt_of_cell? w _ hc) hb hg]; exact h.frozen j hj
theorem Cel.new (w : World) (n : Nat) (f : Nat → Value) (t : TypeId) (cs : Array Value) (hc : ∀ j, j < n → cs[j]? = some (f j)) (k : Nat) (hk : k = w.heap.size) : Cel (w.alloc (.cells cs t)) k n f where
  cell j hj := by
    subst hk
    rw [World.cell?_alloc_new]
    exact hc j hj
  frozen j hj := by subst hk; exact World.frozen?_alloc_at _ _ _ _ rfl
def brow (n : Nat) (g : Nat → Value) : List Value := (List.range n).map g
theorem brow_length (n : Nat) (g : Nat → Value) : (brow n g).length = n := by simp [brow]
theorem brow_get (n : Nat) (g : Nat → Value) (j : Nat) (hj : j < n) : (brow n g)[j]? = some (g j) := by simp [brow, hj]
theorem brow_one (n : Nat) (g : Nat → Value) (h : ∀ j, j < n → (g j).oneCell' = true) : ∀ v ∈ brow n g, v.oneCell' = true := by
  intro v hv
  simp only [brow, List.mem_map, List.mem_range] at hv
  obtain ⟨i, hi, rfl⟩ := hv
  exact h i hi
theorem brow_of {l : List Value} {n : Nat} {g : Nat → Value} (hl : l.length = n) (h : ∀ j, j < n → l[j]? = some (g j)) : l = brow n g := by
  apply List.ext_getElem?
  intro i
  by_cases hi : i < n
  · rw [h i hi, brow_get n g i hi]
  · rw [List.getElem?_eq_none (by omega), List.getElem?_eq_none (by rw [brow_length]; omega)]
theorem Cel.range {w : World} {b n : Nat} {f : Nat → Value} (h : Cel w b n f) (o m : Nat) (hm : o + m ≤ n) : w.rangeAt b o (brow m (fun j => f (o + j))) := fun j v hv => by
  have hj : j < m := by have := (List.getElem?_eq_some_iff.1 hv).1; rwa [brow_length] at this
  rw [brow_get _ _ j hj] at hv
  rw [h.cell (o + j) (by omega), hv]
theorem Cel.there {w : World} {b n : Nat} {f : Nat → Value} (h : Cel w b n f) (o m : Nat) (hm : o + m ≤ n) : w.there b o m := fun j hj =>
  ⟨by rw [h.cell (o + j) (by omega)]; rfl, h.frozen (o + j) (by omega)⟩
theorem Cel.setRow {w : World} {b n : Nat} {f : Nat → Value} (h : Cel w b n f) (o m : Nat) (hm : o + m ≤ n) (g : Nat → Value) : Cel (w.setCells b o (brow m g)) b n (updl f o m g) where
  cell j hj := by
    unfold updl
    split
    · rename_i hc
      have := World.rangeAt_setCells_same w b o (brow m g) (by rw [brow_length]; exact h.there o m hm) (j - o) (g (j - o)) (brow_get m g _ (by omega))
      rwa [show o + (j - o) = j by omega] at this
    · rename_i hc
      rw [World.cell?_setCells_out b _ o w _ (fun _ _ => by rw [brow_length]; show j < o ∨ o + m ≤ j; omega)]
      exact h.cell j hj
  frozen j hj := by rw [World.frozen?_setCells]; exact h.frozen j hj
theorem Cel.setRow_other {w : World} {b n : Nat} {f : Nat → Value} (h : Cel w b n f) {b' o' : Nat} (vs : List Value) (hb : b ≠ b') : Cel (w.setCells b' o' vs) b n f where
  cell j hj := by
    rw [World.cell?_setCells_out b' _ o' w _ (fun e _ => absurd e hb)]
    exact h.cell j hj
  frozen j hj := by rw [World.frozen?_setCells]; exact h.frozen j hj
theorem Cel.store {w : World} {b n : Nat} {f : Nat → Value} (h : Cel w b n f) (P : Program) (o m : Nat) (hm : o + m ≤ n) (g : Nat → Value) (h1 : ∀ j, j < m → (g j).oneCell' = true) : (storeCells ⟨b, o, none⟩ (brow m g)).run P w = .ok () (w.setCells b o (brow m g)) := by
  have := run_storeCells_cells (P := P) b o (brow m g) 0 w (fun j hj => by rw [brow_length] at hj; simpa using (h.there o m hm j hj).1) (fun j hj => by rw [brow_length] at hj; simpa using (h.there o m hm j hj).2) (brow_one m g h1)
  simpa using this
theorem results_row {fn : Func} {p : Tmp} {ty : TypeId} (h : fn.results = #[.cell p ty]) (tmps : Array Value) (P : Program) (w : World) (b : Nat) (cs : List Value) (d : TypeDesc)
    (hx : tmps.getD p undef = .pointer (some ⟨b, 0, none⟩)) (hc : w.rangeAt b 0 cs) (hu : P.underlying ty = some d) (hd : d.isRow = true) (hi : (P.info? ty).map (·.size) = some cs.length) :
    (results fn tmps).run P w = .ok (.agg cs.toArray) w := by
  simp only [results, h]
  have h1 := run_loadVar_mid (P := P) w b 0 ty cs d hc hu hd hi
  have h2 : tmps[p]?.getD undef = .pointer (some ⟨b, 0, none⟩) := by simpa using hx
  simp [asAddr, h2, h1]
def bv (x : UInt8) : Value := .int .u8 (x.toNat : Int)
def sb (s : ByteArray) (i : Nat) : UInt8 := s.data[i]?.getD 0
def txt (n : Nat) (f : Nat → UInt8) : ByteArray := ⟨((List.range n).map f).toArray⟩
theorem txt_size (n : Nat) (f : Nat → UInt8) : (txt n f).size = n := by simp [txt, ByteArray.size]
theorem sb_txt (n : Nat) (f : Nat → UInt8) (i : Nat) (hi : i < n) : sb (txt n f) i = f i := by simp [sb, txt, hi]
end Go.Proofs.YtlgocfgnfdnloaaGreatDoor
end
section
namespace Go.Proofs.YtlgocfgnfdnloaaGreatDoor
open Go.RowKit
structure Dv where
  blk : Nat → Nat → Nat → UInt8
  cnt : Nat → Nat
  sure : Nat → Nat
  slot : Nat → Nat → UInt8
  ws : List (Nat × ByteArray)
  fused : Bool
  left : Int
def scell (blk : Nat → Nat → UInt8) (cnt sure : Nat) (o : Nat) : Value :=
  if o < 2048 then bv (blk (o / 128) (o % 128)) else if o = 2048 then .int .i64 cnt else .int .i64 sure
def dcell (D : Dv) (v : Value) (o : Nat) : Value :=
  if o < 16400 then scell (D.blk (o / 2050)) (D.cnt (o / 2050)) (D.sure (o / 2050)) (o % 2050)
  else if o < 17400 then bv (D.slot ((o - 16400) / 500) ((o - 16400) % 500))
  else if o = 17400 then v
  else if o = 17401 then .bool D.fused
  else .int .i64 D.left
def wcells (ws : List (Nat × ByteArray)) : List Value := ws.flatMap fun p => [.int .i64 (p.1 : Int), .string p.2]
structure Dv.ok (D : Dv) : Prop where
  cnt : ∀ z, z < 8 → D.cnt z ≤ 16
  sure : ∀ z, z < 8 → D.sure z ≤ D.cnt z
  zero : ∀ z k i, z < 8 → D.cnt z ≤ k → k < 16 → i < 128 → D.blk z k i = 0
  left : 0 ≤ D.left ∧ D.left ≤ 9223372036854775807
  ws : ∀ p ∈ D.ws, p.1 < 2 ∧ p.2.size ≤ 500
  few : D.ws.length ≤ 1000
structure Dev (w : World) (b : Nat) (D : Dv) (v : Value) : Prop where
  cel : Cel w b 17403 (dcell D v)
  own : w.ownsRow 0 303 2 v D.ws.length (wcells D.ws)
  ne : some b ≠ v.ownBlock
  ok : D.ok
theorem Dev.lt {w : World} {b : Nat} {D : Dv} {v : Value} (h : Dev w b D v) : b < w.heap.size := h.cel.lt (by omega)
theorem Dev.glt {w : World} {b : Nat} {D : Dv} {v : Value} (h : Dev w b D v) : ∀ k, v.ownBlock = some k → k < w.heap.size := fun k hk => (h.own.lt k hk).2
theorem ownsRow_fr {w w' : World} {b base e size n : Nat} {g : Option Nat} {v : Value} {xs : List Value} (h : w.ownsRow base e size v n xs) (hf : Fr b g w w') (hb : v.ownBlock ≠ some b) (hg : v.ownBlock = none ∨ v.ownBlock ≠ g) : w'.ownsRow base e size v n xs := by
  refine ⟨h.1, ?_⟩
  rcases h.2 with hn | ⟨k, cap, cur, rfl, hbk, hk, rest⟩
  · exact .inl hn
  · refine .inr ⟨k, cap, cur, rfl, hbk, ?_, rest⟩
    rw [hf.block k (Array.getElem?_eq_some_iff.1 hk).1 (fun e => hb (by simp [Value.ownBlock, e])) (fun e => by
      rcases hg with h1 | h1
      · simp [Value.ownBlock] at h1
      · exact h1 (by simpa [Value.ownBlock] using e))]
    exact hk
theorem Dev.since {w w' : World} {b : Nat} {D : Dv} {v : Value} (h : Dev w b D v) (hs : Since w w') : Dev w' b D v where
  cel := h.cel.since hs
  own := by
    refine ⟨h.own.1, ?_⟩
    rcases h.own.2 with hn | ⟨k, cap, cur, hv, hbk, hk, rest⟩
    · exact .inl hn
    · exact .inr ⟨k, cap, cur, hv, hbk, by rw [hs.block k (Array.getElem?_eq_some_iff.1 hk).1]; exact hk, rest⟩
  ne := h.ne
  ok := h.ok
theorem Dev.fr {w w' : World} {b b' : Nat} {g' : Option Nat} {D : Dv} {v : Value} (h : Dev w b D v) (hf : Fr b' g' w w') (h1 : b ≠ b') (h2 : some b ≠ g') (h3 : v.ownBlock ≠ some b') (h4 : v.ownBlock = none ∨ v.ownBlock ≠ g') : Dev w' b D v :=
  ⟨h.cel.fr hf h1 h2, ownsRow_fr h.own hf h3 h4, h.ne, h.ok⟩
theorem Dev.turn {w w' : World} {b : Nat} {D D' : Dv} {v : Value} (h : Dev w b D v) (hc : Cel w' b 17403 (dcell D' v)) (hf : Fr b none w w') (hw : D'.ws = D.ws) (hok : D'.ok) : Dev w' b D' v :=
  ⟨hc, by rw [hw]; exact ownsRow_fr h.own hf (fun e => h.ne e.symm) (by
    cases hv : v.ownBlock with
    | none => exact Or.inl rfl
    | some k => exact Or.inr (by simp)), h.ne, hok⟩
theorem dcell_blk (D : Dv) (v : Value) (z k i : Nat) (hz : z < 8) (hk : k < 16) (hi : i < 128) : dcell D v (z * 2050 + k * 128 + i) = bv (D.blk z k i) := by
  unfold dcell scell
  rw [if_pos (by omega), show (z * 2050 + k * 128 + i) / 2050 = z by omega, show (z * 2050 + k * 128 + i) % 2050 = k * 128 + i by omega, if_pos (by omega), show (k * 128 + i) / 128 = k by omega, show (k * 128 + i) % 128 = i by omega]
theorem dcell_cnt (D : Dv) (v : Value) (z : Nat) (hz : z < 8) : dcell D v (z * 2050 + 2048) = .int .i64 (D.cnt z) := by
  unfold dcell scell
  rw [if_pos (by omega), show (z * 2050 + 2048) / 2050 = z by omega, show (z * 2050 + 2048) % 2050 = 2048 by omega, if_neg (by omega), if_pos rfl]
theorem dcell_sure (D : Dv) (v : Value) (z : Nat) (hz : z < 8) : dcell D v (z * 2050 + 2049) = .int .i64 (D.sure z) := by
  unfold dcell scell
  rw [if_pos (by omega), show (z * 2050 + 2049) / 2050 = z by omega, show (z * 2050 + 2049) % 2050 = 2049 by omega, if_neg (by omega), if_neg (by omega)]
theorem dcell_slot (D : Dv) (v : Value) (k i : Nat) (hk : k < 2) (hi : i < 500) : dcell D v (16400 + k * 500 + i) = bv (D.slot k i) := by
  unfold dcell
  rw [if_neg (by omega), if_pos (by omega), show (16400 + k * 500 + i - 16400) / 500 = k by omega, show (16400 + k * 500 + i - 16400) % 500 = i by omega]
theorem dcell_ws (D : Dv) (v : Value) : dcell D v 17400 = v := rfl
theorem dcell_fused (D : Dv) (v : Value) : dcell D v 17401 = .bool D.fused := rfl
theorem dcell_left (D : Dv) (v : Value) : dcell D v 17402 = .int .i64 D.left := rfl
end Go.Proofs.YtlgocfgnfdnloaaGreatDoor
end
section
namespace Go.Proofs.YtlgocfgnfdnloaaGreatDoor
open Go.RowKit
def eat8 : Nat → List Value → Option (List Value)
  | 0, l => some l
  | n + 1, .int .u8 (.ofNat 0) :: r => eat8 n r
  | _ + 1, _ => none
def eatZ : Nat → List Value → Option (List Value)
  | 0, l => some l
  | k + 1, l => match eat8 2048 l with
    | some (.int .i64 (.ofNat 0) :: .int .i64 (.ofNat 0) :: r) => eatZ k r
    | _ => none
theorem eat8_get : ∀ (n : Nat) (l r : List Value), eat8 n l = some r → (∀ j, j < n → l[j]? = some (bv 0)) ∧ ∀ j, l[n + j]? = r[j]?
  | 0, l, r, h => by
    simp only [eat8, Option.some.injEq] at h
    subst h
    exact ⟨fun j hj => by omega, fun j => by rw [Nat.zero_add]⟩
  | n + 1, [], r, h => by simp [eat8] at h
  | n + 1, x :: l, r, h => by
    unfold eat8 at h
    split at h
    · rename_i hq
      exact absurd hq (by omega)
    · rename_i heq1 heq2
      cases heq1
      injection heq2 with h1 h2
      subst h1 h2
      obtain ⟨a, b⟩ := eat8_get n _ r h
      refine ⟨fun j hj => ?_, fun j => ?_⟩
      · cases j with
        | zero => rfl
        | succ j => simpa using a j (by omega)
      · rw [show n + 1 + j = (n + j) + 1 by omega]
        simpa using b j
    · cases h
theorem eatZ_get : ∀ (k : Nat) (l r : List Value), eatZ k l = some r → (∀ j, j < 2050 * k → l[j]? = some (scell (fun _ _ => 0) 0 0 (j % 2050))) ∧ ∀ j, l[2050 * k + j]? = r[j]?
  | 0, l, r, h => by
    simp only [eatZ, Option.some.injEq] at h
    subst h
    exact ⟨fun j hj => by omega, fun j => by rw [Nat.mul_zero, Nat.zero_add]⟩
  | k + 1, l, r, h => by
    unfold eatZ at h
    split at h
    · rename_i r' heq
      obtain ⟨a, b⟩ := eat8_get 2048 l _ heq
      obtain ⟨c, d⟩ := eatZ_get k _ r h
      refine ⟨fun j hj => ?_, fun j => ?_⟩
      · rcases Nat.lt_or_ge j 2048 with h1 | h1
        · rw [a j h1]
          unfold scell
          rw [if_pos (by omega)]
        · have e := b (j - 2048)
          rw [show 2048 + (j - 2048) = j by omega] at e
          rw [e]
          rcases Nat.lt_or_ge j 2050 with h2 | h2
          · have h3 : j = 2048 ∨ j = 2049 := by omega
            rcases h3 with rfl | rfl <;> rfl
          · have e2 : j - 2048 = (j - 2050) + 1 + 1 := by omega
            rw [e2, List.getElem?_cons_succ, List.getElem?_cons_succ, c (j - 2050) (by omega)]
            rw [show (j - 2050) % 2050 = j % 2050 by omega]
      · have e := b (2 + (2050 * k + j))
        rw [show 2048 + (2 + (2050 * k + j)) = 2050 * (k + 1) + j by omega] at e
        rw [e, show 2 + (2050 * k + j) = (2050 * k + j) + 1 + 1 by omega, List.getElem?_cons_succ, List.getElem?_cons_succ]
        exact d j
    · cases h
def isEnd : Option (List Value) → Bool
  | some [.slice none 0 0, .bool false, .int .i64 (.ofNat 0)] => true
  | _ => false
theorem isEnd_eq {o : Option (List Value)} (h : isEnd o = true) : o = some [.slice none 0 0, .bool false, .int .i64 0] := by
  unfold isEnd at h
  split at h
  · rfl
  · cases h
def isNil : Option (List Value) → Bool
  | some [] => true
  | _ => false
theorem isNil_eq {o : Option (List Value)} (h : isNil o = true) : o = some [] := by
  unfold isNil at h
  split at h
  · rfl
  · cases h
theorem zeroDevice_chk : isEnd ((eatZ 8 Tryz.zeroCells129.toList).bind (eat8 1000)) = true := by kernel_rfl
theorem zeroStrip_chk : isNil (eatZ 1 Tryz.zeroCells123.toList) = true := by kernel_rfl
theorem zeroSlot_chk : isNil (eat8 500 Tryz.zeroCells125.toList) = true := by kernel_rfl
theorem zeroBlock_chk : isNil (eat8 128 Tryz.zeroCells120.toList) = true := by kernel_rfl
def dv0 : Dv := { blk := fun _ _ _ => 0, cnt := fun _ => 0, sure := fun _ => 0, slot := fun _ _ => 0, ws := [], fused := false, left := 0 }
theorem dv0_ok : dv0.ok := ⟨fun _ _ => by simp [dv0], fun _ _ => by simp [dv0], fun _ _ _ _ _ _ _ => rfl, by simp [dv0], fun p hp => by simp [dv0] at hp, by simp [dv0]⟩
theorem zeroDevice_get (j : Nat) (hj : j < 17403) : Tryz.zeroCells129[j]? = some (dcell dv0 (.slice none 0 0) j) := by
  have h := isEnd_eq zeroDevice_chk
  obtain ⟨r, h1, h2⟩ := Option.bind_eq_some_iff.1 h
  obtain ⟨a, b⟩ := eatZ_get 8 _ r h1
  obtain ⟨c, d⟩ := eat8_get 1000 r _ h2
  rw [← Array.getElem?_toList]
  unfold dcell
  by_cases g1 : j < 16400
  · rw [if_pos g1, a j (by omega)]
    rfl
  · rw [if_neg g1]
    have e := b (j - 16400)
    rw [show 2050 * 8 + (j - 16400) = j by omega] at e
    rw [e]
    by_cases g2 : j < 17400
    · rw [if_pos g2, c (j - 16400) (by omega)]
      rfl
    · rw [if_neg g2]
      have e2 := d (j - 17400)
      rw [show 1000 + (j - 17400) = j - 16400 by omega] at e2
      rw [e2]
      have h3 : j = 17400 ∨ j = 17401 ∨ j = 17402 := by omega
      rcases h3 with rfl | rfl | rfl <;> rfl
theorem zeroStrip_get (j : Nat) (hj : j < 2050) : Tryz.zeroCells123[j]? = some (scell (fun _ _ => 0) 0 0 j) := by
  obtain ⟨a, _⟩ := eatZ_get 1 _ _ (isNil_eq zeroStrip_chk)
  rw [← Array.getElem?_toList, a j (by omega), Nat.mod_eq_of_lt hj]
theorem zeroSlot_get (j : Nat) (hj : j < 500) : Tryz.zeroCells125[j]? = some (bv 0) := by
  obtain ⟨a, _⟩ := eat8_get 500 _ _ (isNil_eq zeroSlot_chk)
  rw [← Array.getElem?_toList, a j hj]
theorem zeroBlock_get (j : Nat) (hj : j < 128) : Tryz.zeroCells120[j]? = some (bv 0) := by
  obtain ⟨a, _⟩ := eat8_get 128 _ _ (isNil_eq zeroBlock_chk)
  rw [← Array.getElem?_toList, a j hj]
theorem scell_one (blk : Nat → Nat → UInt8) (c s j : Nat) : (scell blk c s j).oneCell' = true := by
  unfold scell; split
  · rfl
  · split <;> rfl
theorem zeroStrip_list : Tryz.zeroCells123.toList = brow 2050 (scell (fun _ _ => 0) 0 0) :=
  brow_of (by rw [Array.length_toList, Tryz.zeroCells123_size]) (fun j hj => by rw [Array.getElem?_toList]; exact zeroStrip_get j hj)
theorem new_any (w : World) : Calls Tryz.prog 10 #[] w fun e w' => e = .returned (.pointer (some ⟨w.heap.size, 0, none⟩)) ∧ w' = w.alloc (.cells Tryz.zeroCells129 129) := by
  go_enter Tryz.func10, Tryz.ntmps10
  go_wp2_with fail
  go_ret
  exact ⟨rfl, rfl⟩
theorem dev_new (w : World) : Dev (w.alloc (.cells Tryz.zeroCells129 129)) w.heap.size dv0 (.slice none 0 0) where
  cel := Cel.new w _ _ _ _ zeroDevice_get _ rfl
  own := World.ownsRow_nil _ _ _ _
  ne := by simp [Value.ownBlock]
  ok := dv0_ok
theorem orNew_any (a : Addr) (w : World) : Calls Tryz.prog 91 #[.pointer (some a)] w fun e w' => e = .returned (.pointer (some a)) ∧ w' = w := by
  go_enter Tryz.func91, Tryz.ntmps91
  go_wp2_with fail
  go_ret
  exact ⟨rfl, rfl⟩
theorem hasZone_any (z : Int) (w : World) : Calls Tryz.prog 230 #[.int .i64 z] w fun e w' => e = .returned (.bool (decide (0 ≤ z) && decide (z < 8))) ∧ w' = w := by
  by_cases h : 0 ≤ z
  · go_enter Tryz.func230, Tryz.ntmps230
    go_wp2_with fail
    go_ret
    exact ⟨by simp [h], rfl⟩
  · go_enter Tryz.func230, Tryz.ntmps230
    go_wp2_with fail
    go_ret
    exact ⟨by simp [h]; omega, rfl⟩
theorem hasSlot_any (z : Int) (w : World) : Calls Tryz.prog 277 #[.int .i64 z] w fun e w' => e = .returned (.bool (decide (0 ≤ z) && decide (z < 2))) ∧ w' = w := by
  by_cases h : 0 ≤ z
  · go_enter Tryz.func277, Tryz.ntmps277
    go_wp2_with fail
    go_ret
    exact ⟨by simp [h], rfl⟩
  · go_enter Tryz.func277, Tryz.ntmps277
    go_wp2_with fail
    go_ret
    exact ⟨by simp [h]; omega, rfl⟩
theorem every_any (i : Int) (w : World) : Calls Tryz.prog 219 #[.int .i64 i] w fun e w' => e = .returned (.bool true) ∧ w' = w := by
  go_enter Tryz.func219, Tryz.ntmps219
  go_wp2_with fail
  go_ret
  exact ⟨rfl, rfl⟩
end Go.Proofs.YtlgocfgnfdnloaaGreatDoor
end
section
namespace Go.Proofs.YtlgocfgnfdnloaaGreatDoor
set_option linter.unusedSectionVars false
namespace Tw
open Go.RowKit
structure Tb where
  count : Int
  zone : Nat → Int
  off : Nat → Int
  tag : Nat → ByteArray
def Tb.zero : Tb := ⟨0, fun _ => 0, fun _ => 0, fun _ => ⟨#[]⟩⟩
def tpart (T : Tb) (i r : Nat) : Value := if r = 0 then .int .i64 (T.zone i) else if r = 1 then .int .i64 (T.off i) else .string (T.tag i)
def tcell (T : Tb) (j : Nat) : Value := if j = 0 then .int .i64 T.count else tpart T ((j - 1) / 3) ((j - 1) % 3)
theorem tcell_at (T : Tb) (i r : Nat) (hr : r < 3) : tcell T (1 + i * 3 + r) = tpart T i r := by
  unfold tcell
  rw [if_neg (by omega), show (1 + i * 3 + r - 1) / 3 = i by omega, show (1 + i * 3 + r - 1) % 3 = r by omega]
def ccell (T : Tb) (j : Nat) : Value := tpart T (j / 3) (j % 3)
theorem ccell_at (T : Tb) (i r : Nat) (hr : r < 3) : ccell T (i * 3 + r) = tpart T i r := by
  unfold ccell
  rw [show (i * 3 + r) / 3 = i by omega, show (i * 3 + r) % 3 = r by omega]
theorem tcell_succ (T : Tb) (j : Nat) : tcell T (1 + j) = ccell T j := by
  unfold tcell ccell
  rw [if_neg (by omega), show 1 + j - 1 = j by omega]
def tval (T : Tb) : Value := .agg (brow 73 (tcell T)).toArray
def one (T : Tb) (i : Nat) : Array Value := #[.int .i64 (T.zone i), .int .i64 (T.off i), .string (T.tag i)]
def Same (T U : Tb) : Prop := T.count = U.count ∧ ∀ i, i < 24 → T.zone i = U.zone i ∧ T.off i = U.off i ∧ T.tag i = U.tag i
theorem Same.cell {T U : Tb} (h : Same T U) (j : Nat) (hj : j < 73) : tcell T j = tcell U j := by
  unfold tcell tpart
  split
  · rw [h.1]
  · obtain ⟨a, b, c⟩ := h.2 ((j - 1) / 3) (by omega)
    rw [a, b, c]
theorem brow_congr {n : Nat} {f g : Nat → Value} (h : ∀ j, j < n → f j = g j) : brow n f = brow n g := by
  unfold brow
  exact List.map_congr_left (fun i hi => h i (List.mem_range.1 hi))
theorem Same.val {T U : Tb} (h : Same T U) : tval T = tval U := by
  unfold tval
  rw [brow_congr (fun j hj => h.cell j hj)]
abbrev nul (T : Tb) (i : Nat) : Prop := T.zone i = 0 ∧ T.off i = 0 ∧ T.tag i = ⟨#[]⟩
abbrev may (T : Tb) (i : Nat) : Prop := (T.tag i).size = 16 ∧ 0 ≤ T.zone i ∧ T.zone i < 8 ∧ 0 ≤ T.off i ∧ T.off i < 16
def hit (T : Tb) (k : Nat) (z o : Int) : Prop := ∃ j, j < k ∧ ¬ nul T j ∧ T.zone j = z ∧ T.off j = o
def fine (T : Tb) (k : Nat) : Prop := ∀ i, i < k → nul T i ∨ (may T i ∧ ¬ hit T i (T.zone i) (T.off i))
def Rt (T : Tb) : Prop := (1 ≤ T.count ∧ T.count ≤ 1099511627776) ∧ fine T 24
theorem fine_zero (T : Tb) : fine T 0 := fun i hi => by omega
theorem fine_nul {T : Tb} {k : Nat} (h : fine T k) (hn : nul T k) : fine T (k + 1) := fun i hi => by
  by_cases e : i = k
  · subst e; exact Or.inl hn
  · exact h i (by omega)
theorem fine_may {T : Tb} {k : Nat} (h : fine T k) (hm : may T k) (hh : ¬ hit T k (T.zone k) (T.off k)) : fine T (k + 1) := fun i hi => by
  by_cases e : i = k
  · subst e; exact Or.inr ⟨hm, hh⟩
  · exact h i (by omega)
theorem fine_not {T : Tb} {k n : Nat} (hn : ¬ nul T k) (hb : ¬ may T k ∨ hit T k (T.zone k) (T.off k)) (hk : k < n) : ¬ fine T n := fun h => by
  rcases h k hk with h1 | ⟨h1, h2⟩
  · exact hn h1
  · rcases hb with hb | hb
    · exact hb h1
    · exact h2 hb
theorem hit_zero (T : Tb) (z o : Int) : ¬ hit T 0 z o := fun ⟨j, hj, _⟩ => by omega
theorem hit_nul {T : Tb} {k : Nat} (hn : nul T k) (z o : Int) : hit T (k + 1) z o ↔ hit T k z o := by
  constructor
  · rintro ⟨j, hj, h1, h2⟩
    by_cases e : j = k
    · subst e; exact absurd hn h1
    · exact ⟨j, by omega, h1, h2⟩
  · rintro ⟨j, hj, h1, h2⟩
    exact ⟨j, by omega, h1, h2⟩
theorem hit_set {T : Tb} {k : Nat} (hn : ¬ nul T k) (z o : Int) : hit T (k + 1) z o ↔ hit T k z o ∨ (T.zone k = z ∧ T.off k = o) := by
  constructor
  · rintro ⟨j, hj, h1, h2⟩
    by_cases e : j = k
    · subst e; exact Or.inr h2
    · exact Or.inl ⟨j, by omega, h1, h2⟩
  · rintro (⟨j, hj, h1, h2⟩ | h2)
    · exact ⟨j, by omega, h1, h2⟩
    · exact ⟨k, by omega, hn, h2⟩
def cellL (T : Tb) (i : Nat) : List UInt8 := if nul T i then 255 :: List.replicate 17 0 else UInt8.ofNat (T.zone i).toNat :: UInt8.ofNat (T.off i).toNat :: (T.tag i).data.toList
theorem cellL_len {T : Tb} {n : Nat} (h : fine T n) (i : Nat) (hi : i < n) : (cellL T i).length = 18 := by
  unfold cellL
  split
  · simp
  · rename_i hn
    rcases h i hi with h1 | ⟨h1, _⟩
    · exact absurd h1 hn
    · have : (T.tag i).data.size = 16 := h1.1
      simp [this]
def cellsL (T : Tb) (k : Nat) : List UInt8 := (List.range k).flatMap (cellL T)
theorem cellsL_zero (T : Tb) : cellsL T 0 = [] := rfl
theorem cellsL_succ (T : Tb) (k : Nat) : cellsL T (k + 1) = cellsL T k ++ cellL T k := by
  unfold cellsL
  rw [List.range_succ, List.flatMap_append]
  simp
theorem cellsL_len {T : Tb} {n : Nat} (h : fine T n) : ∀ k, k ≤ n → (cellsL T k).length = 18 * k := by
  intro k
  induction k with
  | zero => intro _; rfl
  | succ k ih =>
    intro hk
    rw [cellsL_succ, List.length_append, ih (by omega), cellL_len h k (by omega)]
    omega
def numAt (s : ByteArray) (a : Nat) : Nat → Nat
  | 0 => 0
  | k + 1 => numAt s a k * 256 + (sb s (a + k)).toNat
theorem numAt_lt (s : ByteArray) (a k : Nat) : numAt s a k < 256 ^ k := by
  induction k with
  | zero => simp [numAt]
  | succ k ih =>
    have := (sb s (a + k)).toNat_lt
    unfold numAt
    rw [Nat.pow_succ]
    omega
def tail0 (s : ByteArray) : Prop := ∀ j, 456 ≤ j → j < s.size → sb s j = 0
section
variable {P : Program} {kt : TypeId}
end
end Tw
end Go.Proofs.YtlgocfgnfdnloaaGreatDoor
end
