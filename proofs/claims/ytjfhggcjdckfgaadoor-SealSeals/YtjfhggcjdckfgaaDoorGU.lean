/- Words of 32 bits as values that the walk does not look into: U x is the uint32 whose bits are x; one law for each operation. -/
import Derived.Test.YtjfhggcjdckfgaaDoorRows
import Derived.Test.YtjfhggcjdckfgaaDoorB0
import Derived.WalkKit
import Derived.WalkSpells
import Derived.WalkLawsBesides
namespace Go.Proofs.YtjfhggcjdckfgaaDoor
set_option linter.unusedSimpArgs false
set_option linter.unusedVariables false
set_option maxRecDepth 100000
namespace Sm
open Go.RowKit

def U (x : BitVec 32) : Value := .int .u32 (x.toNat : Int)

theorem wrap_u32 (n : Int) : IntKind.u32.wrap n = ((BitVec.ofInt 32 n).toNat : Int) := by
  simp [IntKind.wrap, IntKind.bits, IntKind.signed, BitVec.toNat_ofInt]
  omega

theorem ofInt_toNat (x : BitVec 32) : BitVec.ofInt 32 (x.toNat : Int) = x := by
  apply BitVec.eq_of_toNat_eq
  simp

section
variable (P : Program) (t : TypeId) (w : World) (x y : BitVec 32)
theorem U_add : binOp .add t (U x) (U y) = pure (U (x + y)) := by
  simp only [U, binOp_add, Op.intArith, wrap_u32]
  rw [BitVec.ofInt_add, ofInt_toNat, ofInt_toNat]
theorem U_mulc (c : Int) : binOp .mul t (U x) (.int .u32 c) = pure (U (x * BitVec.ofInt 32 c)) := by
  simp only [U, binOp_mul, Op.intArith, wrap_u32]
  rw [BitVec.ofInt_mul, ofInt_toNat]
theorem U_xor : binOp .xor t (U x) (U y) = pure (U (x ^^^ y)) := by
  simp only [U, binOp_xor, Op.intBits, wrap_u32, IntKind.bits, ofInt_toNat]; rfl
theorem U_and : binOp .and t (U x) (U y) = pure (U (x &&& y)) := by
  simp only [U, binOp_and, Op.intBits, wrap_u32, IntKind.bits, ofInt_toNat]; rfl
theorem U_or : binOp .or t (U x) (U y) = pure (U (x ||| y)) := by
  simp only [U, binOp_or, Op.intBits, wrap_u32, IntKind.bits, ofInt_toNat]; rfl
theorem pow_min (a : Nat) (n : Nat) (ha : a < 2 ^ 32) : a / 2 ^ (min n 32) = a / 2 ^ n := by
  rcases Nat.le_total n 32 with h | h
  · rw [Nat.min_eq_left h]
  · rw [Nat.min_eq_right h, Nat.div_eq_of_lt ha, Nat.div_eq_of_lt]
    exact Nat.lt_of_lt_of_le ha (Nat.pow_le_pow_right (by decide) h)
theorem U_shr (k : IntKind) (n : Int) (hn : 0 ≤ n) : binOp .shr t (U x) (.int k n) = pure (U (x >>> n.toNat)) := by
  obtain ⟨m, rfl⟩ := Int.eq_ofNat_of_zero_le hn
  simp only [U, binOp_shr, Op.shift]
  rw [if_neg (by omega)]
  simp only [IntKind.bits, Int.toNat_natCast]
  congr 2
  rw [Int.fdiv_eq_ediv_of_nonneg _ (by exact Int.le_of_lt (Int.pow_pos (by decide))), BitVec.toNat_ushiftRight, Nat.shiftRight_eq_div_pow]
  rw [← pow_min _ _ x.isLt]
  norm_cast
theorem U_shl (k : IntKind) (n : Int) (hn : 0 ≤ n) : binOp .shl t (U x) (.int k n) = pure (U (x <<< n.toNat)) := by
  obtain ⟨m, rfl⟩ := Int.eq_ofNat_of_zero_le hn
  simp only [U, binOp_shl, Op.shift]
  rw [if_neg (by omega)]
  simp only [IntKind.bits, Int.toNat_natCast, wrap_u32]
  congr 4
  apply BitVec.eq_of_toNat_eq
  rw [BitVec.toNat_ofInt, BitVec.toNat_shiftLeft, Nat.shiftLeft_eq]
  have e : ((x.toNat : Int) * 2 ^ (min m 32)) = ((x.toNat * 2 ^ (min m 32) : Nat) : Int) := by norm_cast
  rw [e, ← Int.natCast_emod, Int.toNat_natCast]
  rcases Nat.le_total m 32 with h | h
  · rw [Nat.min_eq_left h]
  · rw [Nat.min_eq_right h]
    obtain ⟨d, rfl⟩ := Nat.exists_eq_add_of_le h
    rw [Nat.pow_add, Nat.mul_left_comm, Nat.mul_mod_right, Nat.mul_mod_left]
theorem U_not : Op.unary .xor (U x) = pure (U (~~~x)) := by
  have e : Op.unary .xor (U x) = Op.intBits .xor .u32 4294967295 x.toNat := rfl
  rw [e]
  simp only [U, Op.intBits, IntKind.bits, ofInt_toNat, wrap_u32]
  have e2 : BitVec.ofInt 32 4294967295 = BitVec.allOnes 32 := by decide
  rw [e2]
  show pure (U (BitVec.allOnes 32 ^^^ x)) = _
  rw [BitVec.allOnes_xor]; rfl
theorem U_conv (src dst : TypeId) (k : IntKind) (n : Int) (hs : (P.underlying src).isSome = true) (hd : P.underlying dst = some (.int .u32)) :
    (convert src dst (.int k n)).run P w = .ok (U (BitVec.ofInt 32 n)) w := by
  have hk : P.intKind dst = .u32 := by simp [Program.intKind, hd]
  rw [run_convert_int (P := P) w src dst k n hs (by rw [hk]; exact hd), hk, wrap_u32, U]
/-- the last byte of a word -/
def lowb (x : BitVec 32) : Int := ((x.toNat % 256 : Nat) : Int)
theorem U_byte (src dst : TypeId) (hs : (P.underlying src).isSome = true) (hd : P.underlying dst = some (.int .u8)) :
    (convert src dst (U x)).run P w = .ok (.int .u8 (lowb x)) w := by
  have hk : P.intKind dst = .u8 := by simp [Program.intKind, hd]
  rw [U, run_convert_int (P := P) w src dst _ _ hs (by rw [hk]; exact hd), hk]
  simp [IntKind.wrap, IntKind.bits, IntKind.signed, lowb]
theorem U_store (a : Addr) (h : (w.cell? a).isSome = true) (hf : w.frozen? a = false) : (storeCells a [U x]).run P w = .ok () (w.setCell a (U x)) := by
  obtain ⟨u, hu⟩ := Option.isSome_iff_exists.1 h
  simp [U, go_sem, hu, hf]
theorem U_store1 (a : Addr) (h : (w.cell? a).isSome = true) (hf : w.frozen? a = false) : (store a (U x)).run P w = .ok () (w.setCell a (U x)) := by
  obtain ⟨u, hu⟩ := Option.isSome_iff_exists.1 h
  simp [U, go_sem, hu, hf]
theorem U_match (f : Array Value → Array Value) (g : Value → Array Value) : @Value.cells.match_1 (fun _ => Array Value) (U x) f g = g (U x) := rfl
theorem U_cells : (U x).cells = #[U x] := rfl
theorem U_oneCell : (U x).oneCell' = true := rfl
end

end Sm
end Go.Proofs.YtjfhggcjdckfgaaDoor
