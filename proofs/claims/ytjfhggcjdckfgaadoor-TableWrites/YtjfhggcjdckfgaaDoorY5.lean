/- Package table: Write. -/
import Derived.Test.YtjfhggcjdckfgaaDoorY3
import Derived.Test.YtjfhggcjdckfgaaDoorW10
namespace Go.Proofs.YtjfhggcjdckfgaaDoor
set_option linter.unusedSimpArgs false
set_option linter.unusedVariables false
set_option maxRecDepth 100000
namespace Tw
open Go.RowKit
open Sm (Tab mark_any num_any markOf accTo be8 sumSt builder_since)

def two (a b : ByteArray) : Nat → ByteArray := fun j => if j = 0 then a else b
theorem mark_size (s : ByteArray) : (markOf s).size = 16 := by
  unfold markOf
  have h : (strOfNums (sumSt s).bytes).size = 32 := by rw [strOfNums_size]; rfl
  simp [ByteArray.size_extract, h]
theorem two_cells (w : World) (a b : ByteArray) (t : TypeId) (j : Nat) (hj : j < 2) : (w.alloc (.cells #[.string a, .string b] t)).cell? ⟨w.heap.size, 0 + j, none⟩ = some (.string (two a b j)) := by
  rw [Nat.zero_add, World.cell?_alloc_new]
  match j, hj with
  | 0, _ => rfl
  | 1, _ => rfl
theorem two_size (a b : ByteArray) (ha : a.size ≤ 900) (hb : b.size ≤ 900) (j : Nat) : (two a b j).size ≤ 900 := by
  unfold two; split <;> assumption
/-- the count's eight bytes -/
def hd (T : Tb) : ByteArray := strOfNums (be8 (T.count % 18446744073709551616))
theorem hd_size (T : Tb) : (hd T).size = 8 := by unfold hd; rw [strOfNums_size]; rfl
/-- all that is marked, up to k cells -/
def bodyL (T : Tb) (k : Nat) : List UInt8 := (hd T).data.toList ++ cellsL T k
theorem bodyL_len {T : Tb} {n : Nat} (h : fine T n) (k : Nat) (hk : k ≤ n) : (bodyL T k).length = 8 + 18 * k := by
  have h8 : (hd T).data.size = 8 := hd_size T
  unfold bodyL
  rw [List.length_append, cellsL_len h k hk, Array.length_toList, h8]
theorem bodyL_succ (T : Tb) (k : Nat) : bodyL T (k + 1) = bodyL T k ++ cellL T k := by
  unfold bodyL
  rw [cellsL_succ, List.append_assoc]
def body (T : Tb) : ByteArray := ⟨(bodyL T 24).toArray⟩
theorem body_size {T : Tb} (h : fine T 24) : (body T).size = 440 := by
  show (bodyL T 24).toArray.size = 440
  rw [List.size_toArray, bodyL_len h 24 (Nat.le_refl _)]
def mk2 (key b : ByteArray) : ByteArray := markOf ⟨(accTo 116 (two key b) 2).toArray⟩
theorem mk2_size (key b : ByteArray) : (mk2 key b).size = 16 := mark_size _
/-- a table as a text -/
def text (key : ByteArray) (T : Tb) : ByteArray := mk2 key (body T) ++ body T
theorem text_size {key : ByteArray} {T : Tb} (h : fine T 24) : (text key T).size = 456 := by
  unfold text
  rw [ByteArray.size_append, mk2_size, body_size h]

theorem write_key (key : ByteArray) (T : Tb) (w : World) (h : key.size ≠ 32) :
    Calls Tryd.prog 71 #[.string key, tval T] w fun e w' => e = .returned (.tuple #[.string ⟨#[]⟩, .iface 30 (.int .i64 1)]) ∧ Since w w' := by
  have e1 : ¬ (key.size : Int) = 32 := by omega
  unfold tval
  generalize (brow 73 (tcell T)).toArray = cs
  have HS : Hid (Since w (w.alloc (.cells cs 100))) := (Since.refl w).alloc _
  go_enter Tryd.func71, Tryd.ntmps71
  go_wp2_with fail
  go_ret2
  exact ⟨rfl, HS.out⟩
set_option maxHeartbeats 1000000 in
theorem write_not (key : ByteArray) (T : Tb) (w : World) (h : key.size = 32) (hr : rtB T = false) :
    Calls Tryd.prog 71 #[.string key, tval T] w fun e w' => e = .returned (.tuple #[.string ⟨#[]⟩, .iface 30 (.int .i64 1)]) ∧ Since w w' := by
  have e1 : (key.size : Int) = 32 := by omega
  have hR := tab_all (tab_cel T w)
  have hri := fun W => right_any T W
  rw [hr] at hri
  have HRI : Hid (∀ W, Calls Tryd.prog 72 #[tval T] W fun e w' => e = .returned (.bool false) ∧ Since W w') := hri
  clear hri hr
  have hL : (brow 73 (tcell T)).length = 73 := brow_length _ _
  unfold tval at *
  generalize brow 73 (tcell T) = cs at *
  have HS : Hid (Since w (w.alloc (.cells cs.toArray 100))) := (Since.refl w).alloc _
  go_enter Tryd.func71, Tryd.ntmps71
  go_wp2_with fail
  refine wp_load_mid 100 _ (by rfl) w.heap.size 0 (by rfl) _ _ hR Tryd.underlying100 (by rfl) (by rw [hL]; kernel_rfl) ?_
  clear hR hL
  go_wp2_with fail
  refine (HRI.out _).mono ?_
  rintro e w1 ⟨rfl, h1⟩
  go_wp2_with fail
  go_ret2
  exact ⟨rfl, HS.out.trans h1⟩
end Tw
end Go.Proofs.YtjfhggcjdckfgaaDoor
