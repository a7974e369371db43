import Derived.Test.YtlgocfgnfdnloaaGreatDoorJ03
import Derived.Test.YtlgocfgnfdnloaaGreatDoorJ06
set_option linter.unusedSimpArgs false
set_option linter.unusedVariables false
namespace Go.Proofs.YtlgocfgnfdnloaaGreatDoor
set_option maxRecDepth 100000
namespace Sm
open Go.RowKit
attribute [local go_sem ↓] conv1 conv4 conv8 son_append son_nil nil_son strOfNums_size
theorem repeat_zero (c : Nat) : (⟨(Lib.repeatL (⟨#[0]⟩ : ByteArray).data.toList c).toArray⟩ : ByteArray) = strOfNums (List.replicate c 0) := by
  apply ByteArray.ext
  show (Lib.repeatL [0] c).toArray = ((List.replicate c 0).map fun n : Int => UInt8.ofNat n.toNat).toArray
  congr 1
  induction c with
  | zero => rfl
  | succ c ih => simp [Lib.repeatL, List.replicate_succ] at ih ⊢; exact ih
theorem cat128 (xs : List Int) : (⟨#[128]⟩ : ByteArray) ++ strOfNums xs = strOfNums (128 :: xs) := by
  have e : (⟨#[128]⟩ : ByteArray) = strOfNums [128] := rfl
  rw [e, son_append]; rfl
attribute [local go_sem ↓] cat128
def pad (n : Nat) : List Int := [128] ++ List.replicate (63 - (n + 8) % 64) 0 ++ be8 (8 * n)
theorem pad_length (n : Nat) : (pad n).length = 72 - (n + 8) % 64 := by simp [pad, be8]; omega
set_option maxHeartbeats 1000000 in
theorem ending_any (n : Nat) (w : World) (hn : n ≤ 1000000) :
    Calls Tryz.prog 293 #[.int .i64 n] w fun e w' => e = .returned (.string (strOfNums (pad n))) ∧ Since w w' := by
  have e1 : (63 : Int) - ((n : Int) + 8) % 64 = ((63 - (n + 8) % 64 : Nat) : Int) := by omega
  have E1 : Hid ((63 : Int) - ((n : Int) + 8) % 64 = ((63 - (n + 8) % 64 : Nat) : Int)) := e1
  clear e1
  go_enter Tryz.func293, Tryz.ntmps293
  go_wp2_with fail
  rw [E1.out]
  refine (repeat_any ⟨#[0]⟩ _ _ (by omega) (by show 1 * _ ≤ _; omega)).mono ?_
  rintro e w1 ⟨rfl, h1⟩
  rw [repeat_zero]
  go_wp2_with fail
  refine (eight_any _ _ (by omega) (by omega)).mono ?_
  rintro e w2 ⟨rfl, h2⟩
  have l8 : (be8 (8 * (n : Int))).length = 8 := rfl
  go_wp2_with fail
  go_ret
  refine ⟨ret_son ?_, Since.trans h1 h2⟩
  show (128 :: List.replicate _ 0) ++ be8 _ = _
  rfl
end Sm
end Go.Proofs.YtlgocfgnfdnloaaGreatDoor
