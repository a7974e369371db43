import Derived.Test.YtjfhggcjdckfgaaDoorC3
import Derived.Test.YtjfhggcjdckfgaaDoorC4
import Derived.Test.YtjfhggcjdckfgaaDoorC5
namespace Go.Proofs.YtjfhggcjdckfgaaDoor
set_option maxRecDepth 100000
namespace Sm.Sr
set_option linter.unusedSimpArgs false
set_option linter.unusedVariables false
open Go.RowKit
attribute [local go_sem] U_add U_mulc U_xor U_and U_or U_shr U_shl U_not U_conv U_byte U_cells U_match U_oneCell U_store U_store1

theorem conv_cells (w : World) (xs : List Int) (k m cap : Nat) (hm : m = xs.length) (hb : ∀ i, i < xs.length → w.cell? ⟨k, i, none⟩ = some (.int .u8 (xs.getD i 0))) :
    (convert 120 9 (.slice (some ⟨k, 0, none⟩) m cap)).run Tryd.prog w = .ok (.string (strOfNums xs)) w := by
  subst hm
  exact run_convert_bytes_arg _ 120 5 Tryd.underlying120 Tryd.underlying5 k 0 xs.length cap xs rfl (fun i hi => by rw [Nat.zero_add]; exact hb i hi) 9 Tryd.underlying9

/-- what is laid, with a number -/
theorem laid_num (key nonce : ByteArray) (n : BitVec 32) (j : Nat) : upd (laidF key nonce 0#32) 12 n j = laidF key nonce n j := by
  unfold upd laidF
  by_cases e : j = 12
  · subst e; simp
  · rw [if_neg e, if_neg e, if_neg e]

theorem sized_any (key nonce : ByteArray) (w : World) :
    Calls Tryd.prog 90 #[.string key, .string nonce] w fun e w' => e = .returned (.bool (decide (key.size = 32) && decide (nonce.size = 12))) ∧ w' = w := by
  by_cases h1 : key.size = 32
  · by_cases h2 : nonce.size = 12
    · go_enter Tryd.func90, Tryd.ntmps90
      go_wp2_with fail
      go_ret
      exact ⟨by simp [h1, h2], rfl⟩
    · go_enter Tryd.func90, Tryd.ntmps90
      go_wp2_with fail
      go_ret
      refine ⟨?_, rfl⟩
      simp [h1, h2]
      omega
  · go_enter Tryd.func90, Tryd.ntmps90
    go_wp2_with fail
    go_ret
    refine ⟨?_, rfl⟩
    simp [h1]

set_option maxHeartbeats 1000000 in
theorem block_bad (key nonce : ByteArray) (n : Int) (w : World) (h : ¬ (key.size = 32 ∧ nonce.size = 12 ∧ 0 ≤ n ∧ n < 4294967296)) (hn : -9223372036854775808 ≤ n) (hn2 : n ≤ 9223372036854775807) :
    Calls Tryd.prog 22 #[.string key, .int .i64 n, .string nonce] w fun e w' => e = .returned (.tuple #[.string ⟨#[]⟩, .iface 30 (.int .i64 1)]) ∧ w' = w := by
  by_cases hk : key.size = 32 ∧ nonce.size = 12
  · obtain ⟨h1, h2⟩ := hk
    have hs : (decide (key.size = 32) && decide (nonce.size = 12)) = true := by simp [h1, h2]
    go_enter Tryd.func22, Tryd.ntmps22
    go_wp2_with fail
    refine (sized_any _ _ _).mono ?_
    rintro e w1 ⟨rfl, rfl⟩
    rw [hs]
    by_cases n0 : n < 0
    · go_wp2_with fail
      go_ret2
      exact ⟨rfl, rfl⟩
    · have g1 : IntKind.u64.wrap n = n := by simp [IntKind.wrap, IntKind.bits, IntKind.signed]; omega
      have g2 : n > 4294967295 := by omega
      go_wp2_with fail
      go_ret2
      exact ⟨rfl, rfl⟩
  · have hs : (decide (key.size = 32) && decide (nonce.size = 12)) = false := by
      rw [Bool.and_eq_false_iff]
      by_cases h1 : key.size = 32
      · right; simp; intro h2; exact hk ⟨h1, h2⟩
      · left; simp [h1]
    go_enter Tryd.func22, Tryd.ntmps22
    go_wp2_with fail
    refine (sized_any _ _ _).mono ?_
    rintro e w1 ⟨rfl, rfl⟩
    rw [hs]
    go_wp2_with fail
    go_ret2
    exact ⟨rfl, rfl⟩

set_option maxHeartbeats 1000000 in
set_option maxRecDepth 100000 in
theorem block_any (key nonce : ByteArray) (n : Int) (w : World) (hk : key.size = 32) (hn : nonce.size = 12) (n0 : 0 ≤ n) (n1 : n < 4294967296) :
    Calls Tryd.prog 22 #[.string key, .int .i64 n, .string nonce] w fun e w' => e = .returned (.tuple #[.string (strOfNums (blockOf key (BitVec.ofInt 32 n) nonce)), .nilIface]) ∧ Since w w' := by
  have hs : (decide (key.size = 32) && decide (nonce.size = 12)) = true := by simp [hk, hn]
  go_enter Tryd.func22, Tryd.ntmps22
  go_wp2_with fail
  refine (sized_any _ _ _).mono ?_
  rintro e w1 ⟨rfl, rfl⟩
  rw [hs]
  have g0 : ¬ n < 0 := by omega
  have g1 : IntKind.u64.wrap n = n := by simp [IntKind.wrap, IntKind.bits, IntKind.signed]; omega
  have g2 : ¬ n > 4294967295 := by omega
  go_wp2_with fail
  refine (laid_any key nonce _ hk hn).mono ?_
  rintro e w2 ⟨rfl, h2⟩
  have hL : (row 16 (laidF key nonce 0#32)).length = 16 := row_length _ _
  go_wp2_with fail
  rw [Arr.store (f := fun _ => 0) (Arr.new _ _ _ _ _ (by rfl) _ rfl)]
  go_simp
  generalize hw3 : World.setCells _ _ _ _ = w3
  have hA : Arr w3 w2.heap.size 0 16 (laidF key nonce 0#32) := by rw [← hw3]; exact Arr.setRow (f := fun _ => 0) (Arr.new _ _ _ _ _ (by rfl) _ rfl) _
  have hS : Since w1 w3 := by rw [← hw3]; exact (h2.alloc _).setCells h2.size _ _
  have hb2 := h2.size
  clear hw3 hL
  have c1 := hA.cell 12 (by omega)
  have f1 := hA.frozen 12 (by omega)
  rw [Nat.zero_add] at c1 f1
  generalize w2.heap.size = b at *
  clear h2 hs
  have hU : Value.int .u32 n = U (BitVec.ofInt 32 n) := by unfold U; rw [← wrap_u32]; congr 1; simp [IntKind.wrap, IntKind.bits, IntKind.signed]; omega
  have hA4 : Arr (w3.setCell ⟨b, 12, none⟩ (.int .u32 n)) b 0 16 (laidF key nonce (BitVec.ofInt 32 n)) := by
    have h4 := hA.set 12 (by omega) (BitVec.ofInt 32 n)
    rw [Nat.zero_add] at h4
    rw [hU]
    exact h4.congr (fun j _ => laid_num key nonce _ j)
  have hRg := hA4.range
  have HA4 := (show Hid _ from hA4)
  have HS := (show Hid (Since w1 w3) from hS)
  clear hU hA4 hA hS
  go_wp2_with (refine wpList_load_mid (by rfl) 136 _ (by rfl) b 0 (by rfl) _ _ hRg Tryd.underlying136 (by rfl) (by rw [row_length]; kernel_rfl) ?_)
  refine (mixed_any _ _).mono ?_
  rintro e w5 ⟨rfl, h5⟩
  go_wp2_with fail
  refine (written_any _ _).mono ?_
  rintro e w6 ⟨rfl, h6⟩
  have hL6 : (brow 64 (bval (byteOf (mixd (laidF key nonce (BitVec.ofInt 32 n)))))).length = 64 := brow_length _ _
  have HB : Hid (blockOf key (BitVec.ofInt 32 n) nonce = bytesOf (mixd (laidF key nonce (BitVec.ofInt 32 n)))) := rfl
  generalize mixd (laidF key nonce (BitVec.ofInt 32 n)) = g at *
  clear hRg c1 f1
  go_wp2_with fail
  rw [Cel.store (Cel.zeros _ _ _ (by rfl) _ rfl)]
  go_simp
  generalize hw7 : World.setCells _ _ _ _ = w7
  have hC : Cel w7 w6.heap.size 64 (bval (byteOf g)) := by rw [← hw7]; exact Cel.setRow (Cel.zeros _ _ _ (by rfl) _ rfl) _
  have hS7 : Since w1 w7 := by
    rw [← hw7]
    have h4 := HS.out.setCell (p := ⟨b, 12, none⟩) hb2 (.int .u32 n)
    have h56 := (h4.trans h5).trans h6
    exact (h56.alloc _).setCells h56.size _ _
  have hcv := conv_cells w7 (bytesOf g) w6.heap.size 64 64 (by simp [bytesOf]) (fun i hi => by
    have hi' : i < 64 := by simpa [bytesOf] using hi
    rw [hC.cell i hi']; simp [bval, bytesOf, hi'])
  clear hw7 hC HA4 h5 h6 hL6
  go_wp2_with fail
  go_ret2
  exact ⟨by rw [HB.out]; rfl, hS7⟩
end Sm.Sr
end Go.Proofs.YtjfhggcjdckfgaaDoor
