import Derived.Test.YtlgocfgnfdnloaaGreatDoorJ01
import Derived.Test.YtlgocfgnfdnloaaGreatDoorJ14
import Derived.Test.YtlgocfgnfdnloaaGreatDoorJ17
set_option linter.unusedSimpArgs false
set_option linter.unusedVariables false
section
namespace Go.Proofs.YtlgocfgnfdnloaaGreatDoor
set_option maxRecDepth 100000
namespace Sm
open Go.RowKit
attribute [local go_sem] U_add U_mulc U_xor U_and U_or U_shr U_shl U_not U_conv U_byte U_cells U_match U_oneCell U_store U_store1
theorem Arr.part {w : World} {b n m o : Nat} {f : Nat → BitVec 32} (h : Arr w b 0 n f) (ho : o + m ≤ n) : Arr w b o m (fun j => f (o + j)) where
  cell j hj := by have := h.cell (o + j) (by omega); rwa [Nat.zero_add] at this
  frozen j hj := by have := h.frozen (o + j) (by omega); rwa [Nat.zero_add] at this
theorem Arr.apart {w : World} {b o n : Nat} {f : Nat → BitVec 32} (h : Arr w b o n f) (i : Nat) (hi : i < o ∨ o + n ≤ i) (v : Value) : Arr (w.setCell ⟨b, i, none⟩ v) b o n f where
  cell j hj := by rw [cell_set_ne _ _ _ _ _ (by omega)]; exact h.cell j hj
  frozen j hj := by simp; exact h.frozen j hj
end Sm
end Go.Proofs.YtlgocfgnfdnloaaGreatDoor
end
section
namespace Go.Proofs.YtlgocfgnfdnloaaGreatDoor
set_option maxRecDepth 100000
namespace Sm
open Go.RowKit
attribute [local go_sem ↓] conv1
def acc (kd : UInt8) (ps : Nat → ByteArray) (n : Nat) : ByteArray := ⟨(accTo kd ps n).toArray⟩
end Sm
end Go.Proofs.YtlgocfgnfdnloaaGreatDoor
end
section
namespace Go.Proofs.YtlgocfgnfdnloaaGreatDoor
set_option maxRecDepth 100000
namespace Mt
open Go.RowKit Sm
def two (a b : ByteArray) : Nat → ByteArray := fun j => if j = 0 then a else b
def keyOf (secret word : ByteArray) : ByteArray := strOfNums (sumSt (markOf ⟨(accTo 107 (two secret word) 2).toArray⟩)).bytes
theorem mark_size (s : ByteArray) : (markOf s).size = 16 := by
  unfold markOf
  have h : (strOfNums (sumSt s).bytes).size = 32 := by rw [strOfNums_size]; rfl
  simp [ByteArray.size_extract, h]
theorem two_cells (w : World) (a b : ByteArray) (t : TypeId) (j : Nat) (hj : j < 2) : (w.alloc (.cells #[.string a, .string b] t)).cell? ⟨w.heap.size, 0 + j, none⟩ = some (.string (two a b j)) := by
  rw [Nat.zero_add, World.cell?_alloc_new]
  match j, hj with
  | 0, _ => rfl
  | 1, _ => rfl
theorem two_size (a b : ByteArray) (ha : a.size ≤ 900) (hb : b.size ≤ 900) (j : Nat) : (two a b j).size ≤ 900 := by
  unfold two; split <;> assumption
set_option maxHeartbeats 2000000 in
theorem key_hit (s : ByteArray) (u : Int) (word : ByteArray) (w : World) (h : s.size = 16) (hu : u = 98 ∧ word = wBlocks ∨ u = 116 ∧ word = wTables) (hT : Tab w) :
    Calls Tryz.prog 186 #[.string s, .int .u8 u] w fun e w' => e = .returned (.tuple #[.string (keyOf s word), .nilIface]) ∧ Since w w' := by
  have e1 : (s.size : Int) = 16 := by omega
  have hws : word.size ≤ 900 := by rcases hu with ⟨_, rfl⟩ | ⟨_, rfl⟩ <;> decide
  have hfn : ∃ i, Instr.findNow (.int .u8) (.int .u8 u) uses.toList 0 = some (some (i, .agg #[.string word])) := by
    rcases hu with ⟨rfl, rfl⟩ | ⟨rfl, rfl⟩
    · exact ⟨0, rfl⟩
    · exact ⟨1, rfl⟩
  obtain ⟨i0, hfn⟩ := hfn
  clear hu
  go_enter Tryz.func186, Tryz.ntmps186
  go_wp2_with fail
  refine (purposes_any _).mono ?_
  rintro e w1 ⟨rfl, hw1⟩
  have hS1 : Since w w1 := by rw [hw1]; exact (Since.refl w).alloc _
  have hl := map_get w1 uses 2 w.heap.size u (some (i0, .agg #[.string word])) (by rw [hw1]; show (w.heap.push _)[w.heap.size]? = _; simp) hfn
  simp only at hl
  clear hw1 hfn
  go_wp2_with fail
  have hm := mark_any 107 (w1.heap.size + 1) 0 2 2 (two s word) ((w1.alloc (.cells #[.string word] 328)).alloc (.cells #[.string s, .string word] 9)) (by omega) (fun j _ => two_size s word (by omega) hws j) (hT.since ((hS1.alloc _).alloc _))
    (fun j hj => by have h := two_cells (w1.alloc (.cells #[.string word] 328)) s word 9 j hj; rw [World.size_alloc] at h; exact h)
  rw [show ((107 : UInt8).toNat : Int) = 107 from rfl] at hm
  refine hm.mono ?_
  rintro e w2 ⟨rfl, h2⟩
  have hS2 : Since w w2 := ((hS1.alloc _).alloc _).trans h2
  clear hm h2 hl
  have hms : (markOf ⟨(accTo 107 (two s word) 2).toArray⟩).size ≤ 100000 := by rw [mark_size]; omega
  generalize hmk : markOf ⟨(accTo 107 (two s word) 2).toArray⟩ = mk at *
  have HMK : Hid (markOf ⟨(accTo 107 (two s word) 2).toArray⟩ = mk) := hmk
  clear hmk
  go_wp2_with fail
  refine (sum_any mk _ hms (hT.since hS2)).mono ?_
  rintro e w3 ⟨rfl, h3⟩
  generalize hSe : strOfNums (sumSt mk).bytes = q
  have HS : Hid (strOfNums (sumSt mk).bytes = q) := hSe
  clear hSe
  go_wp2_with fail
  go_ret2
  exact ⟨by unfold keyOf; rw [HMK.out, HS.out]; rfl, hS2.trans h3⟩
end Mt
end Go.Proofs.YtlgocfgnfdnloaaGreatDoor
end
