import Derived.Test.YtjfhggcjdckfgaaDoorW8
namespace Go.Proofs.YtjfhggcjdckfgaaDoor
set_option linter.unusedSimpArgs false
set_option linter.unusedVariables false
set_option maxRecDepth 100000
namespace Sm
open Go.RowKit

theorem heap_lt {w : World} {k : Nat} {o : Obj} (h : w.heap[k]? = some o) : k < w.heap.size := by
  rcases Nat.lt_or_ge k w.heap.size with h1 | h1
  · exact h1
  · rw [Array.getElem?_eq_none h1] at h; cases h
theorem builderAt_since {B b : Nat} {p : Value} {bs : List Value} {w w' : World} (h : Lib.BuilderAtF 126 5 B b p bs w) (hs : Since w w') : Lib.BuilderAtF 126 5 B b p bs w' := by
  obtain ⟨h1, v, hb, hown, hne⟩ := h
  refine ⟨h1, v, by rw [Below.block hs b (heap_lt hb)]; exact hb, ?_, hne⟩
  obtain ⟨o1, o2⟩ := hown
  refine ⟨o1, ?_⟩
  rcases o2 with o2 | ⟨g, cap, cur, o2⟩
  · exact Or.inl o2
  · obtain ⟨fz, hv, hg, hh, r⟩ := o2
    exact Or.inr ⟨g, cap, cur, fz, hv, hg, by rw [Below.block hs g (heap_lt hh)]; exact hh, r⟩
theorem builder_since {B b : Nat} {bs : List Value} {w w' : World} (h : Lib.IsBuilderF 126 5 B b bs w) (hs : Since w w') : Lib.IsBuilderF 126 5 B b bs w' := by
  rcases h with h | h
  · exact Or.inl (builderAt_since h hs)
  · exact Or.inr (builderAt_since h hs)

/-- what a mark is the sum of: the kind, and of each of n texts how many bytes it has, and they -/
def accTo (kd : UInt8) (ps : Nat → ByteArray) : Nat → List UInt8
  | 0 => [kd]
  | n + 1 => accTo kd ps n ++ (strOfNums (be8 (ps n).size)).data.toList ++ (ps n).data.toList
theorem acc_len (kd : UInt8) (ps : Nat → ByteArray) (m : Nat) (hp : ∀ j, j < m → (ps j).size ≤ 900) : ∀ n, n ≤ m → (accTo kd ps n).length ≤ 1 + 908 * n := by
  intro n
  induction n with
  | zero => intro _; simp [accTo]
  | succ n ih =>
    intro hn
    have h1 := ih (by omega)
    have h2 := hp n (by omega)
    have h3 : (ps n).data.size ≤ 900 := h2
    simp [accTo, strOfNums_data, be8]
    omega
def markOf (s : ByteArray) : ByteArray := (strOfNums (sumSt s).bytes).extract 0 16

set_option maxHeartbeats 1000000 in
theorem mark_any (kd : UInt8) (pb po m cap : Nat) (ps : Nat → ByteArray) (w : World) (hm : m ≤ 10) (hp : ∀ j, j < m → (ps j).size ≤ 900) (hT : Tab w)
    (hc : ∀ j, j < m → w.cell? ⟨pb, po + j, none⟩ = some (.string (ps j))) :
    Calls Tryd.prog 19 #[.int .u8 kd.toNat, .slice (some ⟨pb, po, none⟩) m cap] w fun e w' => e = .returned (.string (markOf ⟨(accTo kd ps m).toArray⟩)) ∧ Since w w' := by
  have h0 : Lib.IsBuilderF 126 5 w.heap.size w.heap.size [] (w.alloc (.cells #[.pointer none, .slice none 0 0] 126)) := Lib.IsBuilderF.of (Lib.fresh_isBuilder 126 5 w)
  have b0 : Since w (w.alloc (.cells #[.pointer none, .slice none 0 0] 126)) := (Since.refl w).alloc _
  go_enter Tryd.func19, Tryd.ntmps19
  go_wp2_with fail
  refine (writeByte_any w.heap.size w.heap.size [] kd.toNat _ h0 (by decide) b0.size).mono ?_
  rintro e w1 ⟨rfl, h1, b1, _⟩
  have s1 : Since w w1 := Below.trans b0 b1
  clear h0 b0 b1
  go_wp2_with fail
  go_loopw [12] (fun i wr => ∃ k : Nat, k ≤ m ∧ i = .int .i64 k ∧ Lib.IsBuilderF 126 5 w.heap.size w.heap.size (Lib.byteCells (accTo kd ps k)) wr ∧ Since w wr) (fun i _ => m - (intOf i).toNat)
  case atStart => exact ⟨0, by omega, rfl, Or.inr h1, s1⟩
  case round =>
    obtain ⟨k, hk, rfl, hB, hS⟩ := hrel
    by_cases hlt : k < m
    · have hck : wr.cell? ⟨pb, po + k, none⟩ = some (.string (ps k)) := by
        have h := hc k hlt
        rw [hS.cell (p := ⟨pb, po + k, none⟩) (World.block_lt_of_cell? w _ h)]; exact h
      have hpk := hp k hlt
      have hl := acc_len kd ps m hp k (by omega)
      go_wp2_with fail
      refine (num_any _ _).mono ?_
      rintro e w2 ⟨rfl, h2⟩
      rw [Int.emod_eq_of_lt (by omega) (by omega)]
      have hB2 := builder_since hB h2
      have hS2 := hS.trans h2
      go_wp2_with fail
      refine (writeString_any w.heap.size w.heap.size _ (strOfNums (be8 (ps k).size)) _ hB2 (by rw [Lib.byteCells_length, strOfNums_size]; simp [be8]; omega) hS2.size).mono ?_
      rintro e w3 ⟨rfl, h3, b3, _⟩
      have hS3 : Since w w3 := Below.trans hS2 b3
      go_wp2_with fail
      refine (writeString_any w.heap.size w.heap.size _ (ps k) _ (Or.inr h3) (by rw [List.length_append, Lib.strCells_length, Lib.byteCells_length, strOfNums_size]; simp [be8]; omega) hS3.size).mono ?_
      rintro e w4 ⟨rfl, h4, b4, _⟩
      have hS4 : Since w w4 := Below.trans hS3 b4
      have hB4 : Lib.IsBuilderF 126 5 w.heap.size w.heap.size (Lib.byteCells (accTo kd ps (k + 1))) w4 := by
        refine Or.inr ?_
        rw [Lib.strCells_eq, Lib.strCells_eq] at h4
        simpa [Lib.byteCells, accTo] using h4
      clear h3 h4 hB hB2 hl
      go_wp2_with fail
      go_roundw
      case rel => exact ⟨k + 1, by omega, by go_num, hB4, hS4⟩
      case measure => simp [intOf]; omega
    · have hkm : k = m := by omega
      subst hkm
      have hl := acc_len kd ps k hp k (Nat.le_refl _)
      go_wp2_with fail
      refine (string_any w.heap.size w.heap.size _ _ hB hS.size).mono ?_
      rintro e w2 ⟨rfl, _, b2, _⟩
      have hS2 : Since w w2 := Below.trans hS b2
      clear hB b2
      go_wp2_with fail
      refine (sum_any _ _ (by rw [show (⟨(accTo kd ps k).toArray⟩ : ByteArray).size = (accTo kd ps k).length by simp [ByteArray.size]]; omega) (hT.since hS2)).mono ?_
      rintro e w3 ⟨rfl, h3⟩
      generalize hS : sumSt _ = q
      have HS : Hid (sumSt ⟨(accTo kd ps k).toArray⟩ = q) := hS
      clear hS
      have hsz : (strOfNums q.bytes).size = 32 := by rw [strOfNums_size]; rfl
      go_wp2_with fail
      go_ret
      exact ⟨by unfold markOf; rw [HS.out]; rfl, hS2.trans h3⟩

set_option maxHeartbeats 1000000 in
theorem mark_nil (a : Option Addr) (kd : UInt8) (ps : Nat → ByteArray) (cap : Nat) (w : World) (hT : Tab w) :
    Calls Tryd.prog 19 #[.int .u8 kd.toNat, .slice a 0 cap] w fun e w' => e = .returned (.string (markOf ⟨(accTo kd ps 0).toArray⟩)) ∧ Since w w' := by
  have h0 : Lib.IsBuilderF 126 5 w.heap.size w.heap.size [] (w.alloc (.cells #[.pointer none, .slice none 0 0] 126)) := Lib.IsBuilderF.of (Lib.fresh_isBuilder 126 5 w)
  have b0 : Since w (w.alloc (.cells #[.pointer none, .slice none 0 0] 126)) := (Since.refl w).alloc _
  go_enter Tryd.func19, Tryd.ntmps19
  go_wp2_with fail
  refine (writeByte_any w.heap.size w.heap.size [] kd.toNat _ h0 (by decide) b0.size).mono ?_
  rintro e w1 ⟨rfl, h1, b1, _⟩
  have s1 : Since w w1 := Below.trans b0 b1
  clear h0 b0 b1
  go_wp2_with fail
  refine wp_loop_rounds 1 ?_
  rw [rounds_succ]
  go_wp2_with fail
  refine (string_any w.heap.size w.heap.size (accTo kd ps 0) _ (Or.inr h1) s1.size).mono ?_
  rintro e w2 ⟨rfl, _, b2, _⟩
  have hS2 : Since w w2 := Below.trans s1 b2
  clear b2
  go_wp2_with fail
  refine (sum_any _ _ (by show [kd].length ≤ 100000; simp) (hT.since hS2)).mono ?_
  rintro e w3 ⟨rfl, h3⟩
  generalize hS : sumSt _ = q
  have HS : Hid (sumSt ⟨(accTo kd ps 0).toArray⟩ = q) := hS
  clear hS
  have hsz : (strOfNums q.bytes).size = 32 := by rw [strOfNums_size]; rfl
  go_wp2_with fail
  go_ret
  exact ⟨by unfold markOf; rw [HS.out]; rfl, hS2.trans h3⟩
end Sm
end Go.Proofs.YtjfhggcjdckfgaaDoor
