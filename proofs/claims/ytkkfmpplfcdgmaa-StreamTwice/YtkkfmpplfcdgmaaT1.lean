import Derived.Test.YtkkfmpplfcdgmaaX
namespace Go.Proofs.Ytkkfmpplfcdgmaa
set_option linter.unusedSimpArgs false
set_option linter.unusedVariables false
open Go.RowKit

theorem conv1 (w : World) (a : Int) (t : TypeId) (k cap : Nat) (hk : k = w.heap.size) :
    (convert 29 9 (.slice (some ⟨k, 0, none⟩) 1 cap)).run Try.prog (w.alloc (.cells #[.int .u8 a] t)) = .ok (.string (strOfNums [a])) (w.alloc (.cells #[.int .u8 a] t)) := by
  subst hk
  refine run_convert_bytes_arg _ 29 5 Try.underlying29 Try.underlying5 w.heap.size 0 1 cap [a] rfl (fun i hi => ?_) 9 Try.underlying9
  have hi0 : i = 0 := by simp at hi; omega
  subst hi0
  rw [World.cell?_alloc_new]
  rfl
theorem son_append (xs ys : List Int) : strOfNums xs ++ strOfNums ys = strOfNums (xs ++ ys) := by
  apply ByteArray.ext
  simp [strOfNums, ByteArray.data_append]
def blk0 : ByteArray := strOfNums [16, 241, 231, 228, 209, 59, 89, 21, 80, 15, 221, 31, 163, 32, 113, 196, 199, 209, 244, 199, 51, 192, 104, 3, 4, 34, 170, 154, 195, 212, 108, 78, 210, 130, 100, 70, 7, 159, 170, 9, 20, 194, 215, 5, 217, 139, 2, 162, 181, 18, 156, 209, 222, 22, 78, 185, 203, 208, 131, 232, 162, 80, 60, 78]
theorem blk0_eq : strOfNums (blockOf key0 (BitVec.ofInt 32 1) nonce0) = blk0 := by rw [block0]; rfl
theorem blk0_size : blk0.size = 64 := by kernel_rfl
theorem hexA : strOfNums ((List.range (2 * (blk0.extract 0 16).size)).map (hexAt (blk0.extract 0 16))) = ⟨#[49, 48, 102, 49, 101, 55, 101, 52, 100, 49, 51, 98, 53, 57, 49, 53, 53, 48, 48, 102, 100, 100, 49, 102, 97, 51, 50, 48, 55, 49, 99, 52]⟩ := by kernel_rfl
theorem hexB : strOfNums ((List.range (2 * (blk0.extract 60 64).size)).map (hexAt (blk0.extract 60 64))) = ⟨#[97, 50, 53, 48, 51, 99, 52, 101]⟩ := by kernel_rfl

def up (k : Nat) : List Int := (List.range k).map (fun (n : Nat) => (n : Int))
theorem up_succ (k : Nat) : up (k + 1) = up k ++ [(k : Int)] := by unfold up; rw [List.range_succ, List.map_append]; rfl
attribute [local go_sem ↓] conv1 son_append

set_option maxHeartbeats 1000000 in
theorem streamed_any (w : World) : Calls Try.prog 4 #[] w fun e w' => e = .returned (.bool true) ∧ Since w w' := by
  go_enter Try.func4, Try.ntmps4
  go_wp2_with fail
  go_loopw [5, 1] (fun i o wr => ∃ k : Nat, k ≤ 32 ∧ i = .int .i64 k ∧ o = .string (strOfNums (up k)) ∧ Since w wr) (fun i _ _ => 32 - (intOf i).toNat)
  case atStart => exact ⟨0, by omega, rfl, rfl, Since.refl w⟩
  case round =>
    obtain ⟨k, hk, rfl, rfl, hS⟩ := hrel
    by_cases hlt : k < 32
    · have hw : IntKind.u8.wrap (k : Int) = k := by simp [IntKind.wrap, IntKind.bits, IntKind.signed]; omega
      have HU := (show Hid (up (k + 1) = up k ++ [(k : Int)]) from up_succ k)
      have hz : (strOfNums (up k)).size = k := by rw [strOfNums_size]; simp [up]
      have hz1 : (strOfNums [(k : Int)]).size = 1 := by rw [strOfNums_size]; rfl
      go_wp2_with fail
      go_roundw
      case rel => exact ⟨k + 1, by omega, by go_num, by rw [HU.out], hS.alloc _⟩
      case measure => simp [intOf]; omega
    · have hke : k = 32 := by omega
      subst hke
      have e0 : strOfNums (up 32) = key0 := rfl
      rw [e0]
      generalize hkk : key0 = key at *
      have HK := (show Hid (key0 = key) from hkk)
      clear hkk e0
      go_wp2_with fail
      rw [← HK.out]
      have en : (Value.string { data := #[0, 0, 0, 9, 0, 0, 0, 74, 0, 0, 0, 0] }) = .string nonce0 := rfl
      rw [en]
      refine (block_any key0 nonce0 1 _ (by kernel_rfl) (by kernel_rfl) (by decide) (by decide)).mono ?_
      rintro e w2 ⟨rfl, h2⟩
      rw [blk0_eq]
      have hS2 := hS.trans h2
      have hsz := blk0_size
      have HA := (show Hid _ from hexA)
      have HB := (show Hid _ from hexB)
      generalize blk0 = B at *
      generalize key0 = key at *
      have hs1 : (B.extract 0 16).size = 16 := by simp [ByteArray.size_extract]; omega
      have hs2 : (B.extract 60 64).size = 4 := by simp [ByteArray.size_extract]; omega
      go_wp2_with fail
      refine (hex_any _ _ (by omega)).mono ?_
      rintro e w3 ⟨rfl, h3⟩
      rw [HA.out]
      have hS3 := hS2.trans h3
      go_wp2_with fail
      refine (hex_any _ _ (by omega)).mono ?_
      rintro e w4 ⟨rfl, h4⟩
      rw [HB.out]
      go_wp2_with fail
      go_ret
      exact ⟨rfl, hS3.trans h4⟩
end Go.Proofs.Ytkkfmpplfcdgmaa
