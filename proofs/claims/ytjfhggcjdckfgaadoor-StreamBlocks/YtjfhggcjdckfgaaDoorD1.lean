import Derived.Test.YtjfhggcjdckfgaaDoorC7
import Derived.Laws.BitsAllLaws
namespace Go.Proofs.YtjfhggcjdckfgaaDoor
set_option maxRecDepth 100000
namespace Sm.Sr
set_option linter.unusedSimpArgs false
set_option linter.unusedVariables false
open Go.RowKit

theorem or_turn (x : BitVec 32) (n : Nat) (hn : n < 32) : BitVec.ofNat 32 (x.toNat * 2 ^ n ||| x.toNat * 2 ^ n / 4294967296) = rol x n := by
  unfold rol
  apply BitVec.eq_of_toNat_eq
  have hx := x.isLt
  rw [BitVec.toNat_ofNat, BitVec.toNat_or, BitVec.toNat_shiftLeft, BitVec.toNat_ushiftRight, Nat.shiftLeft_eq, Nat.shiftRight_eq_div_pow, Nat.or_mod_two_pow]
  have e : x.toNat * 2 ^ n / 4294967296 = x.toNat / 2 ^ (32 - n) := by
    rw [show 4294967296 = 2 ^ (32 - n) * 2 ^ n by rw [← Nat.pow_add, show 32 - n + n = 32 by omega], Nat.mul_div_mul_right _ _ (Nat.pow_pos (by decide))]
  rw [e, Nat.mod_eq_of_lt (a := x.toNat / 2 ^ (32 - n)) (Nat.lt_of_le_of_lt (Nat.div_le_self _ _) hx)]

attribute [local go_sem ↓] U_conv
set_option maxHeartbeats 400000 in
theorem left_any (x : BitVec 32) (n : Int) (w : World) (h0 : 0 ≤ n) (h1 : n < 32) :
    Calls Tryd.prog 139 #[U x, .int .u64 n] w fun e w' => e = .returned (U (rol x n.toNat)) ∧ w' = w := by
  obtain ⟨m, rfl⟩ := Int.eq_ofNat_of_zero_le h0
  have hm : m < 32 := by omega
  have hx := x.isLt
  have hU : U x = .int .u32 (x.toNat : Int) := rfl
  rw [hU]
  have v0 : IntKind.u64.wrap (x.toNat : Int) = x.toNat := by simp [IntKind.wrap, IntKind.bits, IntKind.signed]; omega
  have hp : x.toNat * 2 ^ m < 18446744073709551616 := by
    have h2 : 2 ^ m ≤ 2 ^ 31 := Nat.pow_le_pow_right (by decide) (by omega)
    have h3 : x.toNat * 2 ^ m ≤ x.toNat * 2 ^ 31 := Nat.mul_le_mul_left _ h2
    omega
  have hmin : min m 64 = m := by omega
  have v1 : IntKind.u64.wrap ((x.toNat : Int) * 2 ^ m) = ((x.toNat * 2 ^ m : Nat) : Int) := by
    have e : ((x.toNat : Int) * 2 ^ m) = ((x.toNat * 2 ^ m : Nat) : Int) := by norm_cast
    rw [e]; simp only [IntKind.wrap, IntKind.bits, IntKind.signed]; simp; omega
  go_enter Tryd.func139, Tryd.ntmps139
  go_wp2_with fail
  go_ret
  refine ⟨?_, rfl⟩
  have e : ((x.toNat : Int) * 2 ^ m) = ((x.toNat * 2 ^ m : Nat) : Int) := by norm_cast
  have e2 : (((x.toNat * 2 ^ m : Nat) : Int) / 4294967296) = ((x.toNat * 2 ^ m / 4294967296 : Nat) : Int) := (Int.natCast_ediv _ 4294967296).symm
  show Ending.returned (U (BitVec.ofInt 32 (bits BinOp.or IntKind.u64 ((x.toNat : Int) * 2 ^ m) ((x.toNat : Int) * 2 ^ m / 4294967296)))) = _
  rw [e, e2, u64_or_nat _ _ hp (by omega), BitVec.ofInt_natCast, or_turn x m hm, Int.toNat_natCast]
end Sm.Sr
end Go.Proofs.YtjfhggcjdckfgaaDoor
