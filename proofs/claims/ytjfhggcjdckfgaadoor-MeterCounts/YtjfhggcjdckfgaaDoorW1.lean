import Derived.Test.YtjfhggcjdckfgaaDoorGU
import Derived.Deep.QuietTactic
import Derived.BigQuiet
import Derived.Deep.RegionWith
import Derived.Deep.RegionHeld3
namespace Go.Proofs.YtjfhggcjdckfgaaDoor
set_option linter.unusedSimpArgs false
set_option linter.unusedVariables false
set_option maxRecDepth 100000
namespace Sm
open Go.RowKit
attribute [local go_sem ↓] U_add U_mulc U_xor U_and U_or U_shr U_shl U_not U_conv U_byte U_cells U_oneCell

def rol (x : BitVec 32) (s : Nat) : BitVec 32 := x <<< s ||| x >>> (32 - s)

theorem and31 (k : Int) : bits BinOp.and IntKind.u64 (IntKind.u64.wrap k) 31 = k % 32 := by
  have e : IntKind.u64.wrap k = k % 18446744073709551616 := by simp [IntKind.wrap, IntKind.bits, IntKind.signed]
  have h := bits_mask .u64 64 (by decide) (fun n h0 h1 => by simp [IntKind.wrap, IntKind.bits, IntKind.signed]; omega) 5 (by decide) (IntKind.u64.wrap k) (by omega) (by omega)
  have e2 : (2 : Int) ^ 5 - 1 = 31 := by decide
  rw [e2] at h
  rw [h, e]
  omega

set_option maxHeartbeats 400000 in
theorem rol_any (x : BitVec 32) (k : Int) (w : World) :
    Calls Tryd.prog 171 #[U x, .int .i64 k] w fun e w' => e = .returned (U (rol x (k % 32).toNat)) ∧ w' = w := by
  have hb := and31 k
  have h1 : (0 : Int) ≤ k % 32 := by omega
  have h2 : IntKind.u64.wrap (32 - k % 32) = 32 - k % 32 := by
    simp [IntKind.wrap, IntKind.bits, IntKind.signed]; omega
  have h4 : k % 32 ≤ 32 := by omega
  have h3 : (32 - k % 32).toNat = 32 - (k % 32).toNat := by omega
  go_enter Tryd.func171, Tryd.ntmps171
  go_wp2
  go_ret
  exact ⟨rfl, rfl⟩

set_option maxHeartbeats 400000 in
theorem turned_e (x : BitVec 32) (w : World) :
    Calls Tryd.prog 157 #[U x, .int .i64 6, .int .i64 11, .int .i64 25] w fun e w' => e = .returned (U (rol x 26 ^^^ rol x 21 ^^^ rol x 7)) ∧ w' = w := by
  go_enter Tryd.func157, Tryd.ntmps157
  go_wp2_with (go_at_call 171; refine (rol_any _ _ _).mono ?_; rintro e w' ⟨rfl, rfl⟩)
  go_ret
  exact ⟨rfl, rfl⟩

set_option maxHeartbeats 400000 in
theorem turned_a (x : BitVec 32) (w : World) :
    Calls Tryd.prog 157 #[U x, .int .i64 2, .int .i64 13, .int .i64 22] w fun e w' => e = .returned (U (rol x 30 ^^^ rol x 19 ^^^ rol x 10)) ∧ w' = w := by
  go_enter Tryd.func157, Tryd.ntmps157
  go_wp2_with (go_at_call 171; refine (rol_any _ _ _).mono ?_; rintro e w' ⟨rfl, rfl⟩)
  go_ret
  exact ⟨rfl, rfl⟩

set_option maxHeartbeats 400000 in
theorem shifted_l (x : BitVec 32) (w : World) :
    Calls Tryd.prog 170 #[U x, .int .i64 17, .int .i64 19, .int .i64 10] w fun e w' => e = .returned (U (rol x 15 ^^^ rol x 13 ^^^ x >>> 10)) ∧ ∃ n, w' = w.drewN n := by
  go_enter Tryd.func170, Tryd.ntmps170
  go_wp2_with fail
  go_quiet ((go_at_call 171; exact Calls.quiet_of_same (rol_any _ _ _)))
  go_wp2_with fail
  go_ret
  exact ⟨rfl, _, rfl⟩

set_option maxHeartbeats 400000 in
theorem shifted_e (x : BitVec 32) (w : World) :
    Calls Tryd.prog 170 #[U x, .int .i64 7, .int .i64 18, .int .i64 3] w fun e w' => e = .returned (U (rol x 25 ^^^ rol x 14 ^^^ x >>> 3)) ∧ ∃ n, w' = w.drewN n := by
  go_enter Tryd.func170, Tryd.ntmps170
  go_wp2_with fail
  go_quiet ((go_at_call 171; exact Calls.quiet_of_same (rol_any _ _ _)))
  go_wp2_with fail
  go_ret
  exact ⟨rfl, _, rfl⟩

def ror (x : BitVec 32) (s : Nat) : BitVec 32 := x >>> s + x <<< (32 - s)

set_option maxHeartbeats 400000 in
theorem rot_any (x : BitVec 32) (k : Int) (w : World) (hk : 0 ≤ k) (hk' : k ≤ 32) :
    Calls Tryd.prog 81 #[U x, .int .i64 k] w fun e w' => e = .returned (U (ror x k.toNat)) ∧ ∃ n, w' = w.drewN n := by
  have h1 : (0 : Int) ≤ 32 - k := by omega
  have h3 : IntKind.i64.wrap (32 - k) = 32 - k := by
    simp [IntKind.wrap, IntKind.bits, IntKind.signed]; omega
  have h4 : (32 - k).toNat = 32 - k.toNat := by omega
  go_enter Tryd.func81, Tryd.ntmps81
  go_wp2_with fail
  go_quiet (fail)
  go_wp2_with fail
  go_ret
  exact ⟨rfl, _, rfl⟩

def word4 (a b c d : UInt8) : BitVec 32 := BitVec.ofNat 32 a.toNat <<< 24 ||| BitVec.ofNat 32 b.toNat <<< 16 ||| BitVec.ofNat 32 c.toNat <<< 8 ||| BitVec.ofNat 32 d.toNat
set_option maxHeartbeats 400000 in
theorem word_any (s : ByteArray) (w : World) (hs : s.size = 4) :
    Calls Tryd.prog 169 #[.string s] w fun e w' => e = .returned (U (word4 (s[0]'(by omega)) (s[1]'(by omega)) (s[2]'(by omega)) (s[3]'(by omega)))) ∧ ∃ n, w' = w.drewN n := by
  go_enter Tryd.func169, Tryd.ntmps169
  go_wp2_with fail
  go_quiet (fail)
  go_wp2_with fail
  go_ret
  exact ⟨rfl, _, rfl⟩
end Sm
end Go.Proofs.YtjfhggcjdckfgaaDoor
