/- The reference's TableWrite. -/
import Derived.Test.YtjfhggcjdckfgaaDoorY6
import Derived.Test.YtjfhggcjdckfgaaDoorY4
import Derived.Test.YtjfhggcjdckfgaaDoorW18
namespace Go.Proofs.YtjfhggcjdckfgaaDoor
set_option linter.unusedSimpArgs false
set_option linter.unusedVariables false
set_option maxRecDepth 100000
namespace Tw
open Go.RowKit
open Sm (Tab RSum rmark_any refNum_any markOf accTo be8 Arr H0 kn conv_cells)
open Sl (zeros_any)

theorem conv2 (W : World) (x y : Int) (ty : TypeId) (cap : Nat) :
    (convert 120 9 (.slice (some ⟨W.heap.size, 0, none⟩) 2 cap)).run Tryd.prog (W.alloc (.cells #[.int .u8 x, .int .u8 y] ty)) = .ok (.string (strOfNums [x, y])) (W.alloc (.cells #[.int .u8 x, .int .u8 y] ty)) := by
  refine conv_cells _ [x, y] W.heap.size 2 cap rfl (fun i hi => ?_)
  have hi2 : i < 2 := hi
  rw [World.cell?_alloc_new]
  match i, hi2 with
  | 0, _ => rfl
  | 1, _ => rfl
attribute [local go_sem ↓] conv2
/-- the text so far -/
def bodyT (T : Tb) (k : Nat) : ByteArray := ⟨(bodyL T k).toArray⟩
theorem bodyT_size {T : Tb} {n : Nat} (h : fine T n) (k : Nat) (hk : k ≤ n) : (bodyT T k).size = 8 + 18 * k := by
  show (bodyL T k).toArray.size = _
  rw [List.size_toArray, bodyL_len h k hk]
theorem bodyT_zero (T : Tb) : bodyT T 0 = hd T := by
  unfold bodyT bodyL
  rw [cellsL_zero, List.append_nil]
theorem bodyT_nul {T : Tb} {k : Nat} (hn : nul T k) : bodyT T k ++ ((⟨#[255]⟩ : ByteArray) ++ txt 17 (fun _ => 0)) = bodyT T (k + 1) := by
  apply ByteArray.ext
  unfold bodyT
  rw [bodyL_succ, ByteArray.data_append, ByteArray.data_append]
  have : cellL T k = 255 :: List.replicate 17 0 := by unfold cellL; rw [if_pos hn]
  rw [this]
  have e : (⟨#[255]⟩ : ByteArray).data ++ (txt 17 (fun _ => 0)).data = (255 :: List.replicate 17 0).toArray := by rfl
  rw [e]
  simp
theorem bodyT_may {T : Tb} {k : Nat} (hn : ¬ nul T k) (z o : Nat) (hz : T.zone k = z) (ho : T.off k = o) : bodyT T k ++ strOfNums [(z : Int), (o : Int)] ++ T.tag k = bodyT T (k + 1) := by
  apply ByteArray.ext
  unfold bodyT
  rw [bodyL_succ, ByteArray.data_append, ByteArray.data_append]
  have : cellL T k = UInt8.ofNat z :: UInt8.ofNat o :: (T.tag k).data.toList := by unfold cellL; rw [if_neg hn, hz, ho]; rfl
  rw [this]
  simp [strOfNums]
theorem rwrite_key (b : Nat) (key : ByteArray) (T : Tb) (w : World) (h : key.size ≠ 32) :
    Calls Tryd.prog 70 #[.pointer (some ⟨b, 0, none⟩), .string key, tval T] w fun e w' => e = .returned (.tuple #[.string ⟨#[]⟩, .int .i64 1]) ∧ Since w w' := by
  have e1 : ¬ (key.size : Int) = 32 := by omega
  unfold tval
  generalize (brow 73 (tcell T)).toArray = cs
  have HS : Hid (Since w (w.alloc (.cells cs 100))) := (Since.refl w).alloc _
  go_enter Tryd.func70, Tryd.ntmps70
  go_wp2_with fail
  go_ret2
  exact ⟨rfl, HS.out⟩
set_option maxHeartbeats 1000000 in
theorem rwrite_not (b : Nat) (key : ByteArray) (T : Tb) (w : World) (h : key.size = 32) (hr : rtB T = false) :
    Calls Tryd.prog 70 #[.pointer (some ⟨b, 0, none⟩), .string key, tval T] w fun e w' => e = .returned (.tuple #[.string ⟨#[]⟩, .int .i64 1]) ∧ Since w w' := by
  have e1 : (key.size : Int) = 32 := by omega
  have hR := tab_all (tab_cel T w)
  have hri := fun W => rright_any T W
  rw [hr] at hri
  have HRI : Hid (∀ W, Calls Tryd.prog 73 #[tval T] W fun e w' => e = .returned (.bool false) ∧ Since W w') := hri
  clear hri hr
  have hL : (brow 73 (tcell T)).length = 73 := brow_length _ _
  unfold tval at *
  generalize brow 73 (tcell T) = cs at *
  have HS : Hid (Since w (w.alloc (.cells cs.toArray 100))) := (Since.refl w).alloc _
  go_enter Tryd.func70, Tryd.ntmps70
  go_wp2_with fail
  refine wp_load_mid 100 _ (by rfl) w.heap.size 0 (by rfl) _ _ hR Tryd.underlying100 (by rfl) (by rw [hL]; kernel_rfl) ?_
  clear hR hL
  go_wp2_with fail
  refine (HRI.out _).mono ?_
  rintro e w1 ⟨rfl, h1⟩
  go_wp2_with fail
  go_ret2
  exact ⟨rfl, HS.out.trans h1⟩
end Tw
end Go.Proofs.YtjfhggcjdckfgaaDoor
