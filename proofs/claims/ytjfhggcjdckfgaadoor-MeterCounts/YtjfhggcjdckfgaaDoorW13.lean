import Derived.Test.YtjfhggcjdckfgaaDoorW12
namespace Go.Proofs.YtjfhggcjdckfgaaDoor
set_option linter.unusedSimpArgs false
set_option linter.unusedVariables false
set_option maxRecDepth 100000
namespace Sm
open Go.RowKit
attribute [local go_sem] U_add U_mulc U_xor U_and U_or U_shr U_shl U_not U_conv U_byte U_cells U_match U_oneCell U_store U_store1

set_option maxHeartbeats 1000000 in
theorem root_any (p k : Nat) (w : World) (hk1 : 1 ≤ k) (hk : k ≤ 3) (hp : p < 65536) (hN : p * 65536 ^ (2 * k) < 1099511627776 ^ k) :
    Calls Tryd.prog 77 #[.int .u64 (p : Int), .int .i64 (k : Int)] w fun e w' =>
      ∃ r : Nat, e = .returned (U (BitVec.ofNat 32 r)) ∧ r ^ k ≤ p * 65536 ^ (2 * k) ∧ p * 65536 ^ (2 * k) < (r + 1) ^ k ∧ Since w w' := by
  generalize hNe : p * 65536 ^ (2 * k) = N at *
  have HN : Hid (p * 65536 ^ (2 * k) = N) := hNe
  have HN2 : Hid (N < 1099511627776 ^ k) := hN
  clear hNe hN
  go_enter Tryd.func77, Tryd.ntmps77
  go_wp2_with fail
  go_loopw [5, 6] (fun lo hi wr => ∃ l h : Nat, lo = .int .u64 l ∧ hi = .int .u64 h ∧ l < h ∧ h ≤ 1099511627776 ∧ Hid (l ^ k ≤ N) ∧ Hid (N < h ^ k) ∧ Since w wr) (fun lo hi _ => (intOf hi).toNat - (intOf lo).toNat)
  case atStart => exact ⟨0, 1099511627776, rfl, rfl, by omega, by omega, by show 0 ^ k ≤ N; rw [Nat.zero_pow (by omega)]; omega, HN2, Since.refl w⟩
  case round =>
    obtain ⟨l, h, rfl, rfl, hlh, hh, H1, H2, hS⟩ := hrel
    by_cases hc : l + 1 < h
    · go_wp2_with fail
      have e1 : ((l : Int) + h) / 2 = (((l + h) / 2 : Nat) : Int) := by omega
      rw [e1]
      clear e1
      have hm1 : l < (l + h) / 2 := by omega
      have hm2 : (l + h) / 2 < h := by omega
      generalize (l + h) / 2 = x at *
      refine (above_any x k p wr (by omega) hk hp).mono ?_
      rintro e w2 ⟨rfl, hS2⟩
      rw [HN.out]
      have hS3 := hS.trans hS2
      by_cases ha : N < x ^ k
      · have Ha : Hid (N < x ^ k) := ha
        rw [show decide (N < x ^ k) = true from by simpa using ha]
        clear ha
        go_wp2_with fail
        go_roundw
        case rel => exact ⟨l, x, rfl, rfl, by omega, by omega, H1, Ha, hS3⟩
        case measure => simp [intOf]; omega
      · have Ha : Hid (x ^ k ≤ N) := by show x ^ k ≤ N; omega
        rw [show decide (N < x ^ k) = false from by simpa using ha]
        clear ha
        go_wp2_with fail
        go_roundw
        case rel => exact ⟨x, h, rfl, rfl, by omega, by omega, Ha, H2, hS3⟩
        case measure => simp [intOf]; omega
    · have hh1 : h = l + 1 := by omega
      subst hh1
      go_wp2_with fail
      go_ret
      exact ⟨l, rfl, H1.out, H2.out, hS⟩
end Sm
end Go.Proofs.YtjfhggcjdckfgaaDoor
