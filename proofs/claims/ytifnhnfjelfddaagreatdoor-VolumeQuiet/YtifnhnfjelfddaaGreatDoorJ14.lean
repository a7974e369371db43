import Derived.Deep.QuietTactic
import Derived.BigQuiet
import Derived.Deep.RegionWith
import Derived.Deep.RegionHeld3
import Derived.Test.YtifnhnfjelfddaaGreatDoorJ01
import Derived.Test.YtifnhnfjelfddaaGreatDoorJ13
set_option linter.unusedSimpArgs false
set_option linter.unusedVariables false
section
namespace Go.Proofs.YtifnhnfjelfddaaGreatDoor
set_option maxRecDepth 100000
namespace Sm
open Go.RowKit
attribute [local go_sem ↓] U_add U_mulc U_xor U_and U_or U_shr U_shl U_not U_conv U_byte U_cells U_oneCell
def rol (x : BitVec 32) (s : Nat) : BitVec 32 := x <<< s ||| x >>> (32 - s)
theorem and31 (k : Int) : bits BinOp.and IntKind.u64 (IntKind.u64.wrap k) 31 = k % 32 := by
  have e : IntKind.u64.wrap k = k % 18446744073709551616 := by simp [IntKind.wrap, IntKind.bits, IntKind.signed]
  have h := bits_mask .u64 64 (by decide) (fun n h0 h1 => by simp [IntKind.wrap, IntKind.bits, IntKind.signed]; omega) 5 (by decide) (IntKind.u64.wrap k) (by omega) (by omega)
  have e2 : (2 : Int) ^ 5 - 1 = 31 := by decide
  rw [e2] at h
  rw [h, e]
  omega
set_option maxHeartbeats 400000 in
theorem rol_any (x : BitVec 32) (k : Int) (w : World) :
    Calls Tryz.prog 153 #[U x, .int .i64 k] w fun e w' => e = .returned (U (rol x (k % 32).toNat)) ∧ w' = w := by
  have hb := and31 k
  have h1 : (0 : Int) ≤ k % 32 := by omega
  have h2 : IntKind.u64.wrap (32 - k % 32) = 32 - k % 32 := by
    simp [IntKind.wrap, IntKind.bits, IntKind.signed]; omega
  have h4 : k % 32 ≤ 32 := by omega
  have h3 : (32 - k % 32).toNat = 32 - (k % 32).toNat := by omega
  go_enter Tryz.func153, Tryz.ntmps153
  go_wp2
  go_ret
  exact ⟨rfl, rfl⟩
set_option maxHeartbeats 400000 in
theorem turned_e (x : BitVec 32) (w : World) :
    Calls Tryz.prog 148 #[U x, .int .i64 6, .int .i64 11, .int .i64 25] w fun e w' => e = .returned (U (rol x 26 ^^^ rol x 21 ^^^ rol x 7)) ∧ w' = w := by
  go_enter Tryz.func148, Tryz.ntmps148
  go_wp2_with (go_at_call 153; refine (rol_any _ _ _).mono ?_; rintro e w' ⟨rfl, rfl⟩)
  go_ret
  exact ⟨rfl, rfl⟩
set_option maxHeartbeats 400000 in
theorem turned_a (x : BitVec 32) (w : World) :
    Calls Tryz.prog 148 #[U x, .int .i64 2, .int .i64 13, .int .i64 22] w fun e w' => e = .returned (U (rol x 30 ^^^ rol x 19 ^^^ rol x 10)) ∧ w' = w := by
  go_enter Tryz.func148, Tryz.ntmps148
  go_wp2_with (go_at_call 153; refine (rol_any _ _ _).mono ?_; rintro e w' ⟨rfl, rfl⟩)
  go_ret
  exact ⟨rfl, rfl⟩
set_option maxHeartbeats 400000 in
theorem shifted_l (x : BitVec 32) (w : World) :
    Calls Tryz.prog 155 #[U x, .int .i64 17, .int .i64 19, .int .i64 10] w fun e w' => e = .returned (U (rol x 15 ^^^ rol x 13 ^^^ x >>> 10)) ∧ ∃ n, w' = w.drewN n := by
  go_enter Tryz.func155, Tryz.ntmps155
  go_wp2_with fail
  go_quiet ((go_at_call 153; exact Calls.quiet_of_same (rol_any _ _ _)))
  go_wp2_with fail
  go_ret
  exact ⟨rfl, _, rfl⟩
set_option maxHeartbeats 400000 in
theorem shifted_e (x : BitVec 32) (w : World) :
    Calls Tryz.prog 155 #[U x, .int .i64 7, .int .i64 18, .int .i64 3] w fun e w' => e = .returned (U (rol x 25 ^^^ rol x 14 ^^^ x >>> 3)) ∧ ∃ n, w' = w.drewN n := by
  go_enter Tryz.func155, Tryz.ntmps155
  go_wp2_with fail
  go_quiet ((go_at_call 153; exact Calls.quiet_of_same (rol_any _ _ _)))
  go_wp2_with fail
  go_ret
  exact ⟨rfl, _, rfl⟩
def word4 (a b c d : UInt8) : BitVec 32 := BitVec.ofNat 32 a.toNat <<< 24 ||| BitVec.ofNat 32 b.toNat <<< 16 ||| BitVec.ofNat 32 c.toNat <<< 8 ||| BitVec.ofNat 32 d.toNat
set_option maxHeartbeats 400000 in
theorem word_any (s : ByteArray) (w : World) (hs : s.size = 4) :
    Calls Tryz.prog 154 #[.string s] w fun e w' => e = .returned (U (word4 (s[0]'(by omega)) (s[1]'(by omega)) (s[2]'(by omega)) (s[3]'(by omega)))) ∧ ∃ n, w' = w.drewN n := by
  go_enter Tryz.func154, Tryz.ntmps154
  go_wp2_with fail
  go_quiet (fail)
  go_wp2_with fail
  go_ret
  exact ⟨rfl, _, rfl⟩
end Sm
end Go.Proofs.YtifnhnfjelfddaaGreatDoor
end
section
namespace Go.Proofs.YtifnhnfjelfddaaGreatDoor
set_option maxRecDepth 100000
namespace Sm
open Go.RowKit
attribute [local go_sem] U_add U_mulc U_xor U_and U_or U_shr U_shl U_not U_conv U_byte U_cells U_match U_oneCell U_store U_store1
def byteAt (s : ByteArray) (i : Nat) : UInt8 := s.data.toList.getD i 0
def wordAt (s : ByteArray) (i : Nat) : BitVec 32 := word4 (byteAt s (4 * i)) (byteAt s (4 * i + 1)) (byteAt s (4 * i + 2)) (byteAt s (4 * i + 3))
def schTo (s : ByteArray) : Nat → Nat → BitVec 32
  | 0 => fun i => if i < 16 then wordAt s i else 0
  | n + 1 => upd (schTo s n) (16 + n) ((rol (schTo s n (14 + n)) 15 ^^^ rol (schTo s n (14 + n)) 13 ^^^ schTo s n (14 + n) >>> 10) + schTo s n (9 + n) + (rol (schTo s n (1 + n)) 25 ^^^ rol (schTo s n (1 + n)) 14 ^^^ schTo s n (1 + n) >>> 3) + schTo s n n)
def fstTo (s : ByteArray) (n : Nat) : Nat → BitVec 32 := fun i => if i < n then wordAt s i else 0
theorem fst_step (s : ByteArray) (k j : Nat) : upd (fstTo s k) k (wordAt s k) j = fstTo s (k + 1) j := by
  unfold upd fstTo
  by_cases e : j = k
  · subst e; rw [if_pos rfl, if_pos (by omega)]
  · rw [if_neg e]
    by_cases h : j < k
    · rw [if_pos h, if_pos (by omega)]
    · rw [if_neg h, if_neg (by omega)]
theorem ext_byte (s : ByteArray) (a b i : Nat) (h : i < (s.extract a b).size) (hb : b ≤ s.size) : (s.extract a b)[i] = byteAt s (a + i) := by
  have h2 : a + i < s.size := by simp [ByteArray.size_extract] at h; omega
  unfold byteAt
  rw [ByteArray.getElem_extract]
  rw [List.getD_eq_getElem?_getD, List.getElem?_eq_getElem (by simpa using h2)]
  rfl
theorem sch_step (s : ByteArray) (k : Nat) (h : 16 ≤ k) : schTo s (k + 1 - 16) = upd (schTo s (k - 16)) k ((rol (schTo s (k - 16) (k - 2)) 15 ^^^ rol (schTo s (k - 16) (k - 2)) 13 ^^^ schTo s (k - 16) (k - 2) >>> 10) + schTo s (k - 16) (k - 7) + (rol (schTo s (k - 16) (k - 15)) 25 ^^^ rol (schTo s (k - 16) (k - 15)) 14 ^^^ schTo s (k - 16) (k - 15) >>> 3) + schTo s (k - 16) (k - 16)) := by
  obtain ⟨n, rfl⟩ := Nat.exists_eq_add_of_le h
  rw [show 16 + n + 1 - 16 = n + 1 by omega, show 16 + n - 16 = n by omega, show 16 + n - 2 = 14 + n by omega, show 16 + n - 7 = 9 + n by omega, show 16 + n - 15 = 1 + n by omega]
  rfl
theorem sch_arr {wr : World} {b : Nat} {s : ByteArray} {k : Nat} (h : Arr wr b 0 64 (schTo s (k - 16))) (hk : 16 ≤ k) (hlt : k < 64) :
    Arr (wr.setCell ⟨b, k, none⟩ (U ((rol (schTo s (k - 16) (k - 2)) 15 ^^^ rol (schTo s (k - 16) (k - 2)) 13 ^^^ schTo s (k - 16) (k - 2) >>> 10) + schTo s (k - 16) (k - 7) + (rol (schTo s (k - 16) (k - 15)) 25 ^^^ rol (schTo s (k - 16) (k - 15)) 14 ^^^ schTo s (k - 16) (k - 15) >>> 3) + schTo s (k - 16) (k - 16)))) b 0 64 (schTo s (k + 1 - 16)) := by
  have h3 := h.set k hlt ((rol (schTo s (k - 16) (k - 2)) 15 ^^^ rol (schTo s (k - 16) (k - 2)) 13 ^^^ schTo s (k - 16) (k - 2) >>> 10) + schTo s (k - 16) (k - 7) + (rol (schTo s (k - 16) (k - 15)) 25 ^^^ rol (schTo s (k - 16) (k - 15)) 14 ^^^ schTo s (k - 16) (k - 15) >>> 3) + schTo s (k - 16) (k - 16))
  rw [← sch_step s k hk, Nat.zero_add] at h3
  exact h3
set_option maxHeartbeats 1000000 in
set_option maxRecDepth 100000 in
theorem spread_any (s : ByteArray) (w : World) (hs : s.size = 64) :
    Calls Tryz.prog 147 #[.string s] w fun e w' => e = .returned (.agg (row 64 (schTo s 48)).toArray) ∧ Since w w' := by
  go_enter Tryz.func147, Tryz.ntmps147
  go_wp2_with fail
  go_loopw [8] (fun i wr => ∃ k : Nat, k ≤ 16 ∧ i = .int .i64 k ∧ Arr wr w.heap.size 0 64 (fun _ => 0) ∧ Arr wr (w.heap.size + 1) 0 64 (fstTo s k) ∧ Since w wr) (fun i _ => 16 - (intOf i).toNat)
  case atStart =>
    refine ⟨0, by omega, rfl, ?_, ?_, ?_⟩
    · exact (Arr.new w 64 (fun _ => 0) _ _ (by rfl) _ rfl).alloc _
    · exact Arr.new (w.alloc _) 64 _ _ _ (by rfl) _ (by simp)
    · exact ((Since.refl _).alloc _).alloc _
  case round =>
    obtain ⟨k, hk, rfl, hA, hB, hS⟩ := hrel
    by_cases hlt : k < 16
    · go_wp2_with fail
      have hex : (s.extract (4 * k) (4 * k + 4)).size = 4 := by simp [ByteArray.size_extract]; omega
      refine (word_any _ _ hex).mono ?_
      rintro e w1 ⟨rfl, n, rfl⟩
      have hB1 := hB.drewN n
      have c1 := hB.cell k (by omega)
      have c2 := hB.frozen k (by omega)
      rw [Nat.zero_add] at c1 c2
      have hw4 : word4 (s.extract (4 * k) (4 * k + 4))[0] (s.extract (4 * k) (4 * k + 4))[1] (s.extract (4 * k) (4 * k + 4))[2] (s.extract (4 * k) (4 * k + 4))[3] = wordAt s k := by
        unfold wordAt
        rw [ext_byte s _ _ _ _ (by omega), ext_byte s _ _ _ _ (by omega), ext_byte s _ _ _ _ (by omega), ext_byte s _ _ _ _ (by omega), Nat.add_zero]
      rw [hw4]
      clear hw4
      go_wp2_with fail
      go_roundw
      case rel => 
        have h3 := hB1.set k (by omega) (wordAt s k)
        rw [Nat.zero_add] at h3
        exact ⟨k + 1, by omega, by go_num, (hA.drewN n).other (by simp) _, h3.congr (fun j hj => fst_step s k j), (hS.drewN n).setCell (by simp) _⟩
      case measure => simp [intOf]; omega
    · have hk16 : k = 16 := by omega
      subst hk16
      go_wp2_with fail
      go_loopw [5] (fun i wr => ∃ k : Nat, 16 ≤ k ∧ k ≤ 64 ∧ i = .int .i64 k ∧ Arr wr w.heap.size 0 64 (fun _ => 0) ∧ Arr wr (w.heap.size + 1) 0 64 (schTo s (k - 16)) ∧ Since w wr) (fun i _ => 64 - (intOf i).toNat)
      case atStart => exact ⟨16, by omega, by omega, rfl, hA, hB, hS⟩
      case round =>
        clear hA hB hS
        obtain ⟨k, hk0, hk, rfl, hA, hB, hS⟩ := hrel
        by_cases hlt : k < 64
        · have c2 := hB.cell (k - 2) (by omega)
          have c15 := hB.cell (k - 15) (by omega)
          have c7 := hB.cell (k - 7) (by omega)
          have c16 := hB.cell (k - 16) (by omega)
          have f0 := hB.frozen k (by omega)
          have c0 := hB.cell k (by omega)
          rw [Nat.zero_add] at c2 c15 c7 c16 c0 f0
          go_wp2_with fail
          go_quiet (fail)
          go_wp2_with fail
          have n7 : ¬ k = k - 7 := by omega
          have n16 : ¬ k = k - 16 := by omega
          have a7 : (7 : Int) ≤ k := by omega
          have a7' : 7 ≤ k := by omega
          have b7 : (k : Int) - 7 < 64 := by omega
          have a16 : (16 : Int) ≤ k := by omega
          have b16 : (k : Int) - 16 < 64 := by omega
          have a0 : (0 : Int) ≤ k := by omega
          have t7 : ((k : Int) - 7).toNat = k - 7 := by omega
          have t16 : ((k : Int) - 16).toNat = k - 16 := by omega
          have v7 : IntKind.i64.wrap ((k : Int) - 7) = k - 7 := by simp [IntKind.wrap, IntKind.bits, IntKind.signed]; omega
          have v16 : IntKind.i64.wrap ((k : Int) - 16) = k - 16 := by simp [IntKind.wrap, IntKind.bits, IntKind.signed]; omega
          have b0 : (k : Int) < 64 := by omega
          go_region_held3 (fun w' => w'.cell? ⟨w.heap.size + 1, k - 7, none⟩ = some (U (schTo s (k - 16) (k - 7))) ∧ w'.cell? ⟨w.heap.size + 1, k - 16, none⟩ = some (U (schTo s (k - 16) (k - 16)))) (simp [cell_set_ne, n7, n16, c7, c16])
            (first | (go_at_call_of 155 (Value.int IntKind.i64 17); refine (shifted_l _ _).mono ?_; rintro e w' ⟨rfl, n, rfl⟩) | (go_at_call_of 155 (Value.int IntKind.i64 7); refine (shifted_e _ _).mono ?_; rintro e w' ⟨rfl, n, rfl⟩))
          go_wp2_with fail
          go_roundw
          case rel =>
            (repeat apply Exists.intro)
            exact ⟨⟨k + 1, by omega, by omega, by go_num, (hA.drewN _).other (by simp) _, sch_arr (hB.drewN _) hk0 hlt, (hS.drewN _).setCell (by simp) _⟩, rfl⟩
          case measure => simp [intOf]; omega
        · have hk64 : k = 64 := by omega
          subst hk64
          have hR := hB.range
          have hL : (row 64 (schTo s (64 - 16))).length = 64 := row_length _ _
          have hst := hA.store Tryz.prog (schTo s (64 - 16))
          go_wp2_with (refine wpList_load_mid (by rfl) 232 _ (by rfl) (w.heap.size + 1) 0 (by rfl) _ _ hR Tryz.underlying232 (by rfl) (by rw [row_length]; kernel_rfl) ?_)
          exact bodyPost_ret (results_row Tryz.results147 _ _ _ w.heap.size _ _ (by rfl) (hA.setRow (schTo s 48)).range Tryz.underlying232 (by rfl) (by rw [row_length]; kernel_rfl)) rfl ⟨rfl, hS.setCells (Nat.le_refl _) _ _⟩
end Sm
end Go.Proofs.YtifnhnfjelfddaaGreatDoor
end
