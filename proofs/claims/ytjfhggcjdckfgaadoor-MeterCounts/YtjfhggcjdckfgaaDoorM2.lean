/- A secret's key: the program's and the reference's. -/
import Derived.Test.YtjfhggcjdckfgaaDoorM1
import Derived.Test.YtjfhggcjdckfgaaDoorW10
import Derived.Test.YtjfhggcjdckfgaaDoorW18
namespace Go.Proofs.YtjfhggcjdckfgaaDoor
set_option linter.unusedSimpArgs false
set_option linter.unusedVariables false
set_option maxRecDepth 100000
namespace Mt
open Go.RowKit Sm

def two (a b : ByteArray) : Nat → ByteArray := fun j => if j = 0 then a else b
/-- the key of a secret for a word -/
def keyOf (secret word : ByteArray) : ByteArray := strOfNums (sumSt (markOf ⟨(accTo 107 (two secret word) 2).toArray⟩)).bytes
theorem mark_size (s : ByteArray) : (markOf s).size = 16 := by
  unfold markOf
  have h : (strOfNums (sumSt s).bytes).size = 32 := by rw [strOfNums_size]; rfl
  simp [ByteArray.size_extract, h]
theorem two_cells (w : World) (a b : ByteArray) (t : TypeId) (j : Nat) (hj : j < 2) : (w.alloc (.cells #[.string a, .string b] t)).cell? ⟨w.heap.size, 0 + j, none⟩ = some (.string (two a b j)) := by
  rw [Nat.zero_add, World.cell?_alloc_new]
  match j, hj with
  | 0, _ => rfl
  | 1, _ => rfl
theorem two_size (a b : ByteArray) (ha : a.size ≤ 900) (hb : b.size ≤ 900) (j : Nat) : (two a b j).size ≤ 900 := by
  unfold two; split <;> assumption

set_option maxHeartbeats 1000000 in
theorem key_arg (s : ByteArray) (u : Int) (w : World) (h : s.size ≠ 16) :
    Calls Tryd.prog 64 #[.string s, .int .u8 u] w fun e w' => e = .returned (.tuple #[.string ⟨#[]⟩, .iface 30 (.int .i64 1)]) ∧ w' = w := by
  have h2 : ¬ (s.size : Int) = 16 := by omega
  go_enter Tryd.func64, Tryd.ntmps64
  go_wp2_with fail
  go_ret2
  exact ⟨rfl, rfl⟩
theorem uses_none (u : Int) (h1 : u ≠ 98) (h2 : u ≠ 116) : Instr.findNow (.int .u8) (.int .u8 u) uses.toList 0 = some none := by
  have q1 : (u == 98) = false := by simpa using h1
  have q2 : (u == 116) = false := by simpa using h2
  simp only [uses, Instr.findNow, Instr.sameNow, if_true, q1, q2]
set_option maxHeartbeats 1000000 in
theorem key_none (s : ByteArray) (u : Int) (w : World) (h : s.size = 16) (h1 : u ≠ 98) (h2 : u ≠ 116) :
    Calls Tryd.prog 64 #[.string s, .int .u8 u] w fun e w' => e = .returned (.tuple #[.string ⟨#[]⟩, .iface 30 (.int .i64 8)]) ∧ Since w w' := by
  have e1 : (s.size : Int) = 16 := by omega
  go_enter Tryd.func64, Tryd.ntmps64
  go_wp2_with fail
  refine (purposes_any _).mono ?_
  rintro e w1 ⟨rfl, hw1⟩
  have hS1 : Since w w1 := by rw [hw1]; exact (Since.refl w).alloc _
  have hl := map_get w1 uses 2 w.heap.size u none (by rw [hw1]; show (w.heap.push _)[w.heap.size]? = _; simp) (uses_none u h1 h2)
  simp only at hl
  clear hw1
  go_wp2_with fail
  go_ret2
  refine ⟨rfl, ?_⟩
  first | exact hS1.alloc _ | exact (hS1.alloc _).setCell hS1.size _
set_option maxHeartbeats 2000000 in
theorem key_hit (s : ByteArray) (u : Int) (word : ByteArray) (w : World) (h : s.size = 16) (hu : u = 98 ∧ word = wBlocks ∨ u = 116 ∧ word = wTables) (hT : Tab w) :
    Calls Tryd.prog 64 #[.string s, .int .u8 u] w fun e w' => e = .returned (.tuple #[.string (keyOf s word), .nilIface]) ∧ Since w w' := by
  have e1 : (s.size : Int) = 16 := by omega
  have hws : word.size ≤ 900 := by rcases hu with ⟨_, rfl⟩ | ⟨_, rfl⟩ <;> decide
  have hfn : ∃ i, Instr.findNow (.int .u8) (.int .u8 u) uses.toList 0 = some (some (i, .agg #[.string word])) := by
    rcases hu with ⟨rfl, rfl⟩ | ⟨rfl, rfl⟩
    · exact ⟨0, rfl⟩
    · exact ⟨1, rfl⟩
  obtain ⟨i0, hfn⟩ := hfn
  clear hu
  go_enter Tryd.func64, Tryd.ntmps64
  go_wp2_with fail
  refine (purposes_any _).mono ?_
  rintro e w1 ⟨rfl, hw1⟩
  have hS1 : Since w w1 := by rw [hw1]; exact (Since.refl w).alloc _
  have hl := map_get w1 uses 2 w.heap.size u (some (i0, .agg #[.string word])) (by rw [hw1]; show (w.heap.push _)[w.heap.size]? = _; simp) hfn
  simp only at hl
  clear hw1 hfn
  go_wp2_with fail
  have hm := mark_any 107 (w1.heap.size + 1) 0 2 2 (two s word) ((w1.alloc (.cells #[.string word] 176)).alloc (.cells #[.string s, .string word] 9)) (by omega) (fun j _ => two_size s word (by omega) hws j) (hT.since ((hS1.alloc _).alloc _))
    (fun j hj => by have h := two_cells (w1.alloc (.cells #[.string word] 176)) s word 9 j hj; rw [World.size_alloc] at h; exact h)
  rw [show ((107 : UInt8).toNat : Int) = 107 from rfl] at hm
  refine hm.mono ?_
  rintro e w2 ⟨rfl, h2⟩
  have hS2 : Since w w2 := ((hS1.alloc _).alloc _).trans h2
  clear hm h2 hl
  have hms : (markOf ⟨(accTo 107 (two s word) 2).toArray⟩).size ≤ 100000 := by rw [mark_size]; omega
  generalize hmk : markOf ⟨(accTo 107 (two s word) 2).toArray⟩ = mk at *
  have HMK : Hid (markOf ⟨(accTo 107 (two s word) 2).toArray⟩ = mk) := hmk
  clear hmk
  go_wp2_with fail
  refine (sum_any mk _ hms (hT.since hS2)).mono ?_
  rintro e w3 ⟨rfl, h3⟩
  generalize hSe : strOfNums (sumSt mk).bytes = q
  have HS : Hid (strOfNums (sumSt mk).bytes = q) := hSe
  clear hSe
  go_wp2_with fail
  go_ret2
  exact ⟨by unfold keyOf; rw [HMK.out, HS.out]; rfl, hS2.trans h3⟩

/-- the reference's -/
theorem rkey_arg (b : Nat) (s : ByteArray) (u : Int) (w : World) (h : s.size ≠ 16) :
    Calls Tryd.prog 63 #[.pointer (some ⟨b, 0, none⟩), .string s, .int .u8 u] w fun e w' => e = .returned (.tuple #[.string ⟨#[]⟩, .int .i64 1]) ∧ w' = w := by
  have h2 : ¬ (s.size : Int) = 16 := by omega
  go_enter Tryd.func63, Tryd.ntmps63
  go_wp2_with fail
  go_ret2
  exact ⟨rfl, rfl⟩
theorem rkey_none (b : Nat) (s : ByteArray) (u : Int) (w : World) (h : s.size = 16) (h1 : u ≠ 98) (h2 : u ≠ 116) :
    Calls Tryd.prog 63 #[.pointer (some ⟨b, 0, none⟩), .string s, .int .u8 u] w fun e w' => e = .returned (.tuple #[.string ⟨#[]⟩, .int .i64 8]) ∧ w' = w := by
  have e1 : (s.size : Int) = 16 := by omega
  go_enter Tryd.func63, Tryd.ntmps63
  go_wp2_with fail
  go_ret2
  exact ⟨rfl, rfl⟩
set_option maxHeartbeats 2000000 in
theorem rkey_hit (hsum : RSum) (b : Nat) (s : ByteArray) (u : Int) (word : ByteArray) (w : World) (h : s.size = 16) (hu : u = 98 ∧ word = wBlocks ∨ u = 116 ∧ word = wTables) (hh : Arr w b 0 8 H0.fn) (hk : Arr w b 8 64 kn) :
    Calls Tryd.prog 63 #[.pointer (some ⟨b, 0, none⟩), .string s, .int .u8 u] w fun e w' => e = .returned (.tuple #[.string (keyOf s word), .int .i64 0]) ∧ Since w w' := by
  have e1 : (s.size : Int) = 16 := by omega
  have hws : word.size ≤ 900 := by rcases hu with ⟨_, rfl⟩ | ⟨_, rfl⟩ <;> decide
  have hms : (markOf ⟨(accTo 107 (two s word) 2).toArray⟩).size ≤ 10000 := by rw [mark_size]; omega
  rcases hu with ⟨rfl, hwd⟩ | ⟨rfl, hwd⟩
  all_goals
    have HW : Hid (word = _) := hwd
    clear hwd
    go_enter Tryd.func63, Tryd.ntmps63
    go_wp2_with fail
    have hS1 : Since w (w.alloc (.cells #[.string s, .string word] 9)) := (Since.refl w).alloc _
    have hm := rmark_any hsum b 107 w.heap.size 0 2 2 (two s word) (w.alloc (.cells #[.string s, .string word] 9)) (by omega) (fun j _ => two_size s word (by omega) hws j) (hh.since hS1) (hk.since hS1) (fun j hj => two_cells w s word 9 j hj)
    rw [show ((107 : UInt8).toNat : Int) = 107 from rfl] at hm
    have hwe := HW.out
    simp only [wBlocks, wTables] at hwe
    rw [← hwe]
    clear hwe
    refine hm.mono ?_
    clear hm
    rintro e w2 ⟨rfl, h2⟩
    have hS2 : Since w w2 := hS1.trans h2
    clear h2
    generalize hmk : markOf ⟨(accTo 107 (two s word) 2).toArray⟩ = mk at *
    have HMK : Hid (markOf ⟨(accTo 107 (two s word) 2).toArray⟩ = mk) := hmk
    clear hmk
    go_wp2_with fail
    refine (hsum b mk _ hms (hh.since hS2) (hk.since hS2)).mono ?_
    rintro e w3 ⟨rfl, h3⟩
    generalize hSe : strOfNums (sumSt mk).bytes = q
    have HS : Hid (strOfNums (sumSt mk).bytes = q) := hSe
    clear hSe
    go_wp2_with fail
    go_ret2
    exact ⟨by unfold keyOf; rw [HMK.out, HS.out]; rfl, hS2.trans h3⟩
end Mt
end Go.Proofs.YtjfhggcjdckfgaaDoor
