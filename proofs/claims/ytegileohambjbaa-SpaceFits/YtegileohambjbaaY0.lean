/- Tables: what stands in each of their cells, which are right, how they are written, what is read; maps of pairs. -/
import Derived.Test.YtegileohambjbaaV0
import Derived.MapKept
import Derived.WideKeyRuns
import Derived.ChangeKeysEq
namespace Go.Proofs.Ytegileohambjbaa
set_option linter.unusedSimpArgs false
set_option linter.unusedVariables false
set_option linter.unusedSectionVars false
namespace Tw
open Go.RowKit

/-- a table: how many times it was told, and of each cell its zone, its place, its tag -/
structure Tb where
  count : Int
  zone : Nat → Int
  off : Nat → Int
  tag : Nat → ByteArray
def Tb.zero : Tb := ⟨0, fun _ => 0, fun _ => 0, fun _ => ⟨#[]⟩⟩
/-- one of the three values of a cell -/
def tpart (T : Tb) (i r : Nat) : Value := if r = 0 then .int .i64 (T.zone i) else if r = 1 then .int .i64 (T.off i) else .string (T.tag i)
/-- value j of a table -/
def tcell (T : Tb) (j : Nat) : Value := if j = 0 then .int .i64 T.count else tpart T ((j - 1) / 3) ((j - 1) % 3)
theorem tcell_at (T : Tb) (i r : Nat) (hr : r < 3) : tcell T (1 + i * 3 + r) = tpart T i r := by
  unfold tcell
  rw [if_neg (by omega), show (1 + i * 3 + r - 1) / 3 = i by omega, show (1 + i * 3 + r - 1) % 3 = r by omega]
/-- the cells alone -/
def ccell (T : Tb) (j : Nat) : Value := tpart T (j / 3) (j % 3)
theorem ccell_at (T : Tb) (i r : Nat) (hr : r < 3) : ccell T (i * 3 + r) = tpart T i r := by
  unfold ccell
  rw [show (i * 3 + r) / 3 = i by omega, show (i * 3 + r) % 3 = r by omega]
theorem tcell_succ (T : Tb) (j : Nat) : tcell T (1 + j) = ccell T j := by
  unfold tcell ccell
  rw [if_neg (by omega), show 1 + j - 1 = j by omega]
def tval (T : Tb) : Value := .agg (brow 73 (tcell T)).toArray
def cval (T : Tb) : Value := .agg (brow 72 (ccell T)).toArray
def one (T : Tb) (i : Nat) : Array Value := #[.int .i64 (T.zone i), .int .i64 (T.off i), .string (T.tag i)]
/-- two tables that are alike where a table is -/
def Same (T U : Tb) : Prop := T.count = U.count ∧ ∀ i, i < 24 → T.zone i = U.zone i ∧ T.off i = U.off i ∧ T.tag i = U.tag i
theorem Same.cell {T U : Tb} (h : Same T U) (j : Nat) (hj : j < 73) : tcell T j = tcell U j := by
  unfold tcell tpart
  split
  · rw [h.1]
  · obtain ⟨a, b, c⟩ := h.2 ((j - 1) / 3) (by omega)
    rw [a, b, c]
theorem brow_congr {n : Nat} {f g : Nat → Value} (h : ∀ j, j < n → f j = g j) : brow n f = brow n g := by
  unfold brow
  exact List.map_congr_left (fun i hi => h i (List.mem_range.1 hi))
theorem Same.val {T U : Tb} (h : Same T U) : tval T = tval U := by
  unfold tval
  rw [brow_congr (fun j hj => h.cell j hj)]

/-- a cell is zero; it may be; its place is taken by one of the first k -/
abbrev nul (T : Tb) (i : Nat) : Prop := T.zone i = 0 ∧ T.off i = 0 ∧ T.tag i = ⟨#[]⟩
abbrev may (T : Tb) (i : Nat) : Prop := (T.tag i).size = 16 ∧ 0 ≤ T.zone i ∧ T.zone i < 8 ∧ 0 ≤ T.off i ∧ T.off i < 16
def hit (T : Tb) (k : Nat) (z o : Int) : Prop := ∃ j, j < k ∧ ¬ nul T j ∧ T.zone j = z ∧ T.off j = o
/-- the first k cells are right -/
def fine (T : Tb) (k : Nat) : Prop := ∀ i, i < k → nul T i ∨ (may T i ∧ ¬ hit T i (T.zone i) (T.off i))
def Rt (T : Tb) : Prop := (1 ≤ T.count ∧ T.count ≤ 1099511627776) ∧ fine T 24
theorem fine_zero (T : Tb) : fine T 0 := fun i hi => by omega
theorem fine_nul {T : Tb} {k : Nat} (h : fine T k) (hn : nul T k) : fine T (k + 1) := fun i hi => by
  by_cases e : i = k
  · subst e; exact Or.inl hn
  · exact h i (by omega)
theorem fine_may {T : Tb} {k : Nat} (h : fine T k) (hm : may T k) (hh : ¬ hit T k (T.zone k) (T.off k)) : fine T (k + 1) := fun i hi => by
  by_cases e : i = k
  · subst e; exact Or.inr ⟨hm, hh⟩
  · exact h i (by omega)
theorem fine_not {T : Tb} {k n : Nat} (hn : ¬ nul T k) (hb : ¬ may T k ∨ hit T k (T.zone k) (T.off k)) (hk : k < n) : ¬ fine T n := fun h => by
  rcases h k hk with h1 | ⟨h1, h2⟩
  · exact hn h1
  · rcases hb with hb | hb
    · exact hb h1
    · exact h2 hb
theorem hit_zero (T : Tb) (z o : Int) : ¬ hit T 0 z o := fun ⟨j, hj, _⟩ => by omega
theorem hit_nul {T : Tb} {k : Nat} (hn : nul T k) (z o : Int) : hit T (k + 1) z o ↔ hit T k z o := by
  constructor
  · rintro ⟨j, hj, h1, h2⟩
    by_cases e : j = k
    · subst e; exact absurd hn h1
    · exact ⟨j, by omega, h1, h2⟩
  · rintro ⟨j, hj, h1, h2⟩
    exact ⟨j, by omega, h1, h2⟩
theorem hit_set {T : Tb} {k : Nat} (hn : ¬ nul T k) (z o : Int) : hit T (k + 1) z o ↔ hit T k z o ∨ (T.zone k = z ∧ T.off k = o) := by
  constructor
  · rintro ⟨j, hj, h1, h2⟩
    by_cases e : j = k
    · subst e; exact Or.inr h2
    · exact Or.inl ⟨j, by omega, h1, h2⟩
  · rintro (⟨j, hj, h1, h2⟩ | h2)
    · exact ⟨j, by omega, h1, h2⟩
    · exact ⟨k, by omega, hn, h2⟩
/-- the pairs of the first k cells that are not zero -/
def prs (T : Tb) (k : Nat) : List (Int × Int) := ((List.range k).filter (fun j => decide (¬ nul T j))).map (fun j => (T.zone j, T.off j))
theorem prs_mem (T : Tb) (k : Nat) (z o : Int) : (z, o) ∈ prs T k ↔ hit T k z o := by
  unfold prs hit
  simp only [List.mem_map, List.mem_filter, List.mem_range, decide_eq_true_eq, Prod.mk.injEq]
  constructor
  · rintro ⟨j, ⟨h1, h2⟩, h3, h4⟩; exact ⟨j, h1, h2, h3, h4⟩
  · rintro ⟨j, h1, h2, h3, h4⟩; exact ⟨j, ⟨h1, h2⟩, h3, h4⟩
theorem prs_nul {T : Tb} {k : Nat} (hn : nul T k) : prs T (k + 1) = prs T k := by
  unfold prs
  rw [List.range_succ, List.filter_append, List.map_append]
  simp [hn]
theorem prs_set {T : Tb} {k : Nat} (hn : ¬ nul T k) : prs T (k + 1) = prs T k ++ [(T.zone k, T.off k)] := by
  have e : [k].filter (fun j => decide (¬ nul T j)) = [k] := List.filter_eq_self.2 (fun a ha => by
    rw [List.mem_singleton.1 ha]
    exact decide_eq_true hn)
  unfold prs
  rw [List.range_succ, List.filter_append, e, List.map_append]
  rfl

/-- a cell as bytes -/
def cellL (T : Tb) (i : Nat) : List UInt8 := if nul T i then 255 :: List.replicate 17 0 else UInt8.ofNat (T.zone i).toNat :: UInt8.ofNat (T.off i).toNat :: (T.tag i).data.toList
theorem cellL_len {T : Tb} {n : Nat} (h : fine T n) (i : Nat) (hi : i < n) : (cellL T i).length = 18 := by
  unfold cellL
  split
  · simp
  · rename_i hn
    rcases h i hi with h1 | ⟨h1, _⟩
    · exact absurd h1 hn
    · have : (T.tag i).data.size = 16 := h1.1
      simp [this]
def cellsL (T : Tb) (k : Nat) : List UInt8 := (List.range k).flatMap (cellL T)
theorem cellsL_zero (T : Tb) : cellsL T 0 = [] := rfl
theorem cellsL_succ (T : Tb) (k : Nat) : cellsL T (k + 1) = cellsL T k ++ cellL T k := by
  unfold cellsL
  rw [List.range_succ, List.flatMap_append]
  simp
theorem cellsL_len {T : Tb} {n : Nat} (h : fine T n) : ∀ k, k ≤ n → (cellsL T k).length = 18 * k := by
  intro k
  induction k with
  | zero => intro _; rfl
  | succ k ih =>
    intro hk
    rw [cellsL_succ, List.length_append, ih (by omega), cellL_len h k (by omega)]
    omega

/-- what is read: eight bytes as a number, the greatest first -/
def numAt (s : ByteArray) (a : Nat) : Nat → Nat
  | 0 => 0
  | k + 1 => numAt s a k * 256 + (sb s (a + k)).toNat
theorem numAt_lt (s : ByteArray) (a k : Nat) : numAt s a k < 256 ^ k := by
  induction k with
  | zero => simp [numAt]
  | succ k ih =>
    have := (sb s (a + k)).toNat_lt
    unfold numAt
    rw [Nat.pow_succ]
    omega
/-- 0 alone stands behind -/
def tail0 (s : ByteArray) : Prop := ∀ j, 456 ≤ j → j < s.size → sb s j = 0
theorem whole_iff (s u : ByteArray) (hu : u.size = 456) (hs : 456 ≤ s.size) : s = u ++ txt (s.size - 456) (fun _ => 0) ↔ s.extract 0 456 = u ∧ tail0 s := by
  have hsz : s.data.size = s.size := rfl
  have huz : u.data.size = 456 := hu
  have hg : ∀ i, (u ++ txt (s.size - 456) (fun _ => 0)).data[i]? = if i < 456 then u.data[i]? else if i < s.size then some 0 else none := fun i => by
    rw [ByteArray.data_append, Array.getElem?_append, huz]
    split
    · rfl
    · have e2 : (txt (s.size - 456) (fun _ => 0)).data[i - 456]? = ((List.range (s.size - 456)).map (fun _ => (0 : UInt8)))[i - 456]? := by unfold txt; exact List.getElem?_toArray ..
      rw [e2, List.getElem?_map]
      split
      · rw [List.getElem?_range (by omega)]; rfl
      · rw [List.getElem?_eq_none (by simp; omega)]; rfl
  have he : ∀ i, (s.extract 0 456).data[i]? = if i < 456 then s.data[i]? else none := fun i => by
    rw [ByteArray.data_extract, Array.getElem?_extract]
    split
    · rw [if_pos (by omega), Nat.zero_add]
    · rw [if_neg (by omega)]
  constructor
  · intro h
    constructor
    · apply ByteArray.ext
      apply Array.ext_getElem?
      intro i
      rw [he i]
      split
      · rename_i hi
        have := hg i
        rw [← h, if_pos hi] at this
        exact this
      · rw [Array.getElem?_eq_none (by omega)]
    · intro j h1 h2
      have := hg j
      rw [← h, if_neg (by omega), if_pos h2] at this
      unfold sb
      rw [this]
      rfl
  · rintro ⟨h1, h2⟩
    apply ByteArray.ext
    apply Array.ext_getElem?
    intro i
    rw [hg i]
    split
    · rename_i hi
      have := he i
      rw [h1, if_pos hi] at this
      exact this.symm
    · rename_i hi
      split
      · rename_i hi2
        have := h2 i (by omega) hi2
        unfold sb at this
        rw [Array.getElem?_eq_getElem (by omega)] at this ⊢
        simpa using this
      · rw [Array.getElem?_eq_none (by omega)]

def pk (p : Int × Int) : Value := .agg #[.int .i64 p.1, .int .i64 p.2]
/-- entries of a map of pairs -/
def pes : List (Int × Int) → Nat → List MapEntry
  | [], _ => []
  | p :: r, i => { key := pk p, val := .bool true, born := i } :: pes r (i + 1)
theorem pes_append (L : List (Int × Int)) (p : Int × Int) (i : Nat) : pes (L ++ [p]) i = pes L i ++ [{ key := pk p, val := .bool true, born := i + L.length }] := by
  induction L generalizing i with
  | nil => simp [pes]
  | cons q r ih => simp [pes, ih]; omega
/-- kt is the type of pairs of numbers -/
structure PT (P : Program) (kt : TypeId) : Prop where
  h3 : P.underlying 3 = some (.int .i64)
  hk : P.underlying kt = some (.array 2 3)
  hi : ∃ i, P.info? 3 = some i
  hag : ∀ w, (isAgg 3).run P w = .ok false w
  hsz : ∀ w, (sizeOf 3).run P w = .ok 1 w
  hc : P.cellsOf 3 = 1
section
variable {P : Program} {kt : TypeId}
theorem pk_part (X : PT P kt) (w : World) (cs : Array Value) (o : Nat) (v : Value) (h : cs[o]? = some v) : (part 3 cs o).run P w = .ok v w := by
  simp [part, X.hag, h]
theorem pk_equal (X : PT P kt) (w : World) (p q : Int × Int) : (Op.equal kt (pk p) (pk q)).run P w = .ok (decide (p = q)) w := by
  obtain ⟨a, b⟩ := p
  obtain ⟨c, d⟩ := q
  have hp := pk_part X w
  have e1 : ∀ (a b : Int), (Op.equalIn 9999 3 (.int .i64 a) (.int .i64 b)).run P w = .ok (a == b) w := fun a b => run_equalIn_int w 9998 3 .i64 .i64 a b X.h3
  obtain ⟨i3, hi⟩ := X.hi
  have e2 := run_equalIn_array (P := P) w 9999 #[.int .i64 a, .int .i64 b] #[.int .i64 c, .int .i64 d] X.hk hi
  unfold Op.equal pk
  rw [show Op.maxDepth = 9999 + 1 from rfl, e2, X.hc, show List.range 2 = [0, 1] from rfl]
  have q0 := hp #[.int .i64 a, .int .i64 b] (0 * 1) (.int .i64 a) rfl
  have q1 := hp #[.int .i64 a, .int .i64 b] (1 * 1) (.int .i64 b) rfl
  have q2 := hp #[.int .i64 c, .int .i64 d] (0 * 1) (.int .i64 c) rfl
  have q3 := hp #[.int .i64 c, .int .i64 d] (1 * 1) (.int .i64 d) rfl
  simp only [Op.eqItems, Sem.run_bind, Sem.run_ite, Sem.run_pure, q0, q1, q2, q3, e1, Result.andThen_ok]
  by_cases h1 : a = c
  · by_cases h2 : b = d
    · subst h1 h2
      simp
    · simp [h1, h2]
  · simp [h1]
theorem pk_check (X : PT P kt) (w : World) (em : Bool) (p : Int × Int) : (Instr.checkKey em 10000 kt (pk p)).run P w = .ok () w := by
  have hp := pk_part X w
  have q0 := hp #[.int .i64 p.1, .int .i64 p.2] (0 * 1) (.int .i64 p.1) rfl
  have q1 := hp #[.int .i64 p.1, .int .i64 p.2] (1 * 1) (.int .i64 p.2) rfl
  have e1 : ∀ a : Int, (Instr.checkKey em 9999 3 (.int .i64 a)).run P w = .ok () w := fun a => MapKept.run_checkKey X.h3 (by simp [MapKept.IsKey]) em 9998
  unfold pk
  rw [show 10000 = 9999 + 1 from rfl, Instr.checkKey]
  simp only [Sem.run_bind, run_underlying X.hk, Result.andThen_ok, Std.Legacy.Range.forIn_eq_forIn_range', Std.Legacy.Range.size]
  rw [show List.range' 0 ((2 - 0 + 1 - 1) / 1) = [0, 1] from rfl]
  simp only [List.forIn_cons, List.forIn_nil, Sem.run_bind, X.hsz, Result.andThen_ok, q0, q1, e1, Sem.run_pure]
theorem pk_find (X : PT P kt) (w : World) (p : Int × Int) : ∀ (L : List (Int × Int)) (i j : Nat), ∃ a, (Instr.findAsking kt (pk p) (pes L i) j).run P w = .ok a w ∧ (p ∈ L → ∃ n, a = some (n, .bool true)) ∧ (p ∉ L → a = none)
  | [], i, j => ⟨none, by simp [pes, Instr.findAsking], by simp, by simp⟩
  | q :: r, i, j => by
    by_cases h : p = q
    · exact ⟨some (j, .bool true), by simp [pes, Instr.findAsking, pk_equal X, h], fun _ => ⟨j, rfl⟩, by simp [h]⟩
    · obtain ⟨a, h1, h2, h4⟩ := pk_find X w p r (i + 1) (j + 1)
      exact ⟨a, by simp [pes, Instr.findAsking, pk_equal X, h, h1], by simpa [h] using h2, by simpa [h] using h4⟩
theorem pk_findKey (X : PT P kt) (w : World) (p : Int × Int) (L : List (Int × Int)) : ∃ a, (Instr.findKey kt (pk p) (pes L 0)).run P w = .ok a w ∧ (p ∈ L → ∃ n, a = some (n, .bool true)) ∧ (p ∉ L → a = none) := by
  rw [run_findKey_eq w (by simp [X.hk])]
  exact pk_find X w p L 0 0
theorem pk_lookup (X : PT P kt) {mt : TypeId} (hm : P.underlying mt = some (.map kt 4)) (hz : ∀ w, (zeroValue 4).run P w = .ok (.bool false) w) (w : World) (r : Nat) (L : List (Int × Int)) (c : Nat) (p : Int × Int) (hb : w.heap[r]? = some (.map (pes L 0).toArray c)) :
    (Instr.lookup mt (.map (some r)) (pk p) false).run P w = .ok (.bool (decide (p ∈ L))) w := by
  obtain ⟨a, h1, h2, h4⟩ := pk_findKey X w p L
  by_cases h : p ∈ L
  · obtain ⟨n, rfl⟩ := h2 h
    simp [Instr.lookup, run_underlying hm, MapKept.run_getObj_map hb, pk_check X, h1, h, Result.andThen]
  · obtain rfl := h4 h
    simp [Instr.lookup, run_underlying hm, MapKept.run_getObj_map hb, pk_check X, h1, h, hz, Result.andThen]
theorem pk_update (X : PT P kt) {mt : TypeId} (hm : P.underlying mt = some (.map kt 4)) (w : World) (r : Nat) (L : List (Int × Int)) (p : Int × Int) (hb : w.heap[r]? = some (.map (pes L 0).toArray L.length)) (h : p ∉ L) :
    (Instr.mapUpdate mt (.map (some r)) (pk p) (.bool true)).run P w = .ok () { w with heap := w.heap.setIfInBounds r (.map (pes (L ++ [p]) 0).toArray (L ++ [p]).length) } := by
  obtain ⟨a, h1, h2, h4⟩ := pk_findKey X w p L
  obtain rfl := h4 h
  simp [Instr.mapUpdate, run_underlying hm, MapKept.run_getObj_map hb, pk_check X, h1, MapKept.run_setObj_map _ hb, Result.andThen, pes_append]
end
end Tw
end Go.Proofs.Ytegileohambjbaa
