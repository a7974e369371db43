/- A new device: what its cells hold. -/
import Derived.Test.YtjfhggcjdckfgaaDoorZ0
namespace Go.Proofs.YtjfhggcjdckfgaaDoor
set_option linter.unusedSimpArgs false
set_option linter.unusedVariables false
open Go.RowKit

/-- n bytes 0 stand ahead: what stands behind them -/
def eat8 : Nat → List Value → Option (List Value)
  | 0, l => some l
  | n + 1, .int .u8 (.ofNat 0) :: r => eat8 n r
  | _ + 1, _ => none
/-- k zones stand ahead -/
def eatZ : Nat → List Value → Option (List Value)
  | 0, l => some l
  | k + 1, l => match eat8 2048 l with
    | some (.int .i64 (.ofNat 0) :: .int .i64 (.ofNat 0) :: r) => eatZ k r
    | _ => none
theorem eat8_get : ∀ (n : Nat) (l r : List Value), eat8 n l = some r → (∀ j, j < n → l[j]? = some (bv 0)) ∧ ∀ j, l[n + j]? = r[j]?
  | 0, l, r, h => by
    simp only [eat8, Option.some.injEq] at h
    subst h
    exact ⟨fun j hj => by omega, fun j => by rw [Nat.zero_add]⟩
  | n + 1, [], r, h => by simp [eat8] at h
  | n + 1, x :: l, r, h => by
    unfold eat8 at h
    split at h
    · rename_i hq
      exact absurd hq (by omega)
    · rename_i heq1 heq2
      cases heq1
      injection heq2 with h1 h2
      subst h1 h2
      obtain ⟨a, b⟩ := eat8_get n _ r h
      refine ⟨fun j hj => ?_, fun j => ?_⟩
      · cases j with
        | zero => rfl
        | succ j => simpa using a j (by omega)
      · rw [show n + 1 + j = (n + j) + 1 by omega]
        simpa using b j
    · cases h
theorem eatZ_get : ∀ (k : Nat) (l r : List Value), eatZ k l = some r → (∀ j, j < 2050 * k → l[j]? = some (scell (fun _ _ => 0) 0 0 (j % 2050))) ∧ ∀ j, l[2050 * k + j]? = r[j]?
  | 0, l, r, h => by
    simp only [eatZ, Option.some.injEq] at h
    subst h
    exact ⟨fun j hj => by omega, fun j => by rw [Nat.mul_zero, Nat.zero_add]⟩
  | k + 1, l, r, h => by
    unfold eatZ at h
    split at h
    · rename_i r' heq
      obtain ⟨a, b⟩ := eat8_get 2048 l _ heq
      obtain ⟨c, d⟩ := eatZ_get k _ r h
      refine ⟨fun j hj => ?_, fun j => ?_⟩
      · rcases Nat.lt_or_ge j 2048 with h1 | h1
        · rw [a j h1]
          unfold scell
          rw [if_pos (by omega)]
        · have e := b (j - 2048)
          rw [show 2048 + (j - 2048) = j by omega] at e
          rw [e]
          rcases Nat.lt_or_ge j 2050 with h2 | h2
          · have h3 : j = 2048 ∨ j = 2049 := by omega
            rcases h3 with rfl | rfl <;> rfl
          · have e2 : j - 2048 = (j - 2050) + 1 + 1 := by omega
            rw [e2, List.getElem?_cons_succ, List.getElem?_cons_succ, c (j - 2050) (by omega)]
            rw [show (j - 2050) % 2050 = j % 2050 by omega]
      · have e := b (2 + (2050 * k + j))
        rw [show 2048 + (2 + (2050 * k + j)) = 2050 * (k + 1) + j by omega] at e
        rw [e, show 2 + (2050 * k + j) = (2050 * k + j) + 1 + 1 by omega, List.getElem?_cons_succ, List.getElem?_cons_succ]
        exact d j
    · cases h
def isEnd : Option (List Value) → Bool
  | some [.slice none 0 0, .bool false, .int .i64 (.ofNat 0)] => true
  | _ => false
theorem isEnd_eq {o : Option (List Value)} (h : isEnd o = true) : o = some [.slice none 0 0, .bool false, .int .i64 0] := by
  unfold isEnd at h
  split at h
  · rfl
  · cases h
def isNil : Option (List Value) → Bool
  | some [] => true
  | _ => false
theorem isNil_eq {o : Option (List Value)} (h : isNil o = true) : o = some [] := by
  unfold isNil at h
  split at h
  · rfl
  · cases h
theorem zeroDevice_chk : isEnd ((eatZ 8 Tryd.zeroCells155.toList).bind (eat8 1000)) = true := by kernel_rfl
theorem zeroStrip_chk : isNil (eatZ 1 Tryd.zeroCells149.toList) = true := by kernel_rfl
theorem zeroSlot_chk : isNil (eat8 500 Tryd.zeroCells151.toList) = true := by kernel_rfl
theorem zeroBlocks_chk : isNil (eat8 2048 Tryd.zeroCells147.toList) = true := by kernel_rfl
theorem zeroBlock_chk : isNil (eat8 128 Tryd.zeroCells146.toList) = true := by kernel_rfl
/-- a new device -/
def dv0 : Dv := { blk := fun _ _ _ => 0, cnt := fun _ => 0, sure := fun _ => 0, slot := fun _ _ => 0, ws := [], fused := false, left := 0 }
theorem dv0_ok : dv0.ok := ⟨fun _ _ => by simp [dv0], fun _ _ => by simp [dv0], fun _ _ _ _ _ _ _ => rfl, by simp [dv0], fun p hp => by simp [dv0] at hp, by simp [dv0]⟩
theorem zeroDevice_get (j : Nat) (hj : j < 17403) : Tryd.zeroCells155[j]? = some (dcell dv0 (.slice none 0 0) j) := by
  have h := isEnd_eq zeroDevice_chk
  obtain ⟨r, h1, h2⟩ := Option.bind_eq_some_iff.1 h
  obtain ⟨a, b⟩ := eatZ_get 8 _ r h1
  obtain ⟨c, d⟩ := eat8_get 1000 r _ h2
  rw [← Array.getElem?_toList]
  unfold dcell
  by_cases g1 : j < 16400
  · rw [if_pos g1, a j (by omega)]
    rfl
  · rw [if_neg g1]
    have e := b (j - 16400)
    rw [show 2050 * 8 + (j - 16400) = j by omega] at e
    rw [e]
    by_cases g2 : j < 17400
    · rw [if_pos g2, c (j - 16400) (by omega)]
      rfl
    · rw [if_neg g2]
      have e2 := d (j - 17400)
      rw [show 1000 + (j - 17400) = j - 16400 by omega] at e2
      rw [e2]
      have h3 : j = 17400 ∨ j = 17401 ∨ j = 17402 := by omega
      rcases h3 with rfl | rfl | rfl <;> rfl
theorem zeroStrip_get (j : Nat) (hj : j < 2050) : Tryd.zeroCells149[j]? = some (scell (fun _ _ => 0) 0 0 j) := by
  obtain ⟨a, _⟩ := eatZ_get 1 _ _ (isNil_eq zeroStrip_chk)
  rw [← Array.getElem?_toList, a j (by omega), Nat.mod_eq_of_lt hj]
theorem zeroSlot_get (j : Nat) (hj : j < 500) : Tryd.zeroCells151[j]? = some (bv 0) := by
  obtain ⟨a, _⟩ := eat8_get 500 _ _ (isNil_eq zeroSlot_chk)
  rw [← Array.getElem?_toList, a j hj]
theorem zeroBlock_get (j : Nat) (hj : j < 128) : Tryd.zeroCells146[j]? = some (bv 0) := by
  obtain ⟨a, _⟩ := eat8_get 128 _ _ (isNil_eq zeroBlock_chk)
  rw [← Array.getElem?_toList, a j hj]
theorem scell_one (blk : Nat → Nat → UInt8) (c s j : Nat) : (scell blk c s j).oneCell' = true := by
  unfold scell; split
  · rfl
  · split <;> rfl
theorem zeroStrip_list : Tryd.zeroCells149.toList = brow 2050 (scell (fun _ _ => 0) 0 0) :=
  brow_of (by rw [Array.length_toList, Tryd.zeroCells149_size]) (fun j hj => by rw [Array.getElem?_toList]; exact zeroStrip_get j hj)
theorem zeroSlot_list : Tryd.zeroCells151.toList = brow 500 (fun _ => bv 0) :=
  brow_of (by rw [Array.length_toList, Tryd.zeroCells151_size]) (fun j hj => by rw [Array.getElem?_toList]; exact zeroSlot_get j hj)
theorem zeroBlock_list : Tryd.zeroCells146.toList = brow 128 (fun _ => bv 0) :=
  brow_of (by rw [Array.length_toList, Tryd.zeroCells146_size]) (fun j hj => by rw [Array.getElem?_toList]; exact zeroBlock_get j hj)

theorem new_any (w : World) : Calls Tryd.prog 28 #[] w fun e w' => e = .returned (.pointer (some ⟨w.heap.size, 0, none⟩)) ∧ w' = w.alloc (.cells Tryd.zeroCells155 155) := by
  go_enter Tryd.func28, Tryd.ntmps28
  go_wp2_with fail
  go_ret
  exact ⟨rfl, rfl⟩
theorem dev_new (w : World) : Dev (w.alloc (.cells Tryd.zeroCells155 155)) w.heap.size dv0 (.slice none 0 0) where
  cel := Cel.new w _ _ _ _ zeroDevice_get _ rfl
  own := World.ownsRow_nil _ _ _ _
  ne := by simp [Value.ownBlock]
  ok := dv0_ok
theorem orNew_any (a : Addr) (w : World) : Calls Tryd.prog 98 #[.pointer (some a)] w fun e w' => e = .returned (.pointer (some a)) ∧ w' = w := by
  go_enter Tryd.func98, Tryd.ntmps98
  go_wp2_with fail
  go_ret
  exact ⟨rfl, rfl⟩
theorem hasZone_any (z : Int) (w : World) : Calls Tryd.prog 99 #[.int .i64 z] w fun e w' => e = .returned (.bool (decide (0 ≤ z) && decide (z < 8))) ∧ w' = w := by
  by_cases h : 0 ≤ z
  · go_enter Tryd.func99, Tryd.ntmps99
    go_wp2_with fail
    go_ret
    exact ⟨by simp [h], rfl⟩
  · go_enter Tryd.func99, Tryd.ntmps99
    go_wp2_with fail
    go_ret
    exact ⟨by simp [h]; omega, rfl⟩
theorem hasSlot_any (z : Int) (w : World) : Calls Tryd.prog 102 #[.int .i64 z] w fun e w' => e = .returned (.bool (decide (0 ≤ z) && decide (z < 2))) ∧ w' = w := by
  by_cases h : 0 ≤ z
  · go_enter Tryd.func102, Tryd.ntmps102
    go_wp2_with fail
    go_ret
    exact ⟨by simp [h], rfl⟩
  · go_enter Tryd.func102, Tryd.ntmps102
    go_wp2_with fail
    go_ret
    exact ⟨by simp [h]; omega, rfl⟩
theorem every_any (i : Int) (w : World) : Calls Tryd.prog 105 #[.int .i64 i] w fun e w' => e = .returned (.bool true) ∧ w' = w := by
  go_enter Tryd.func105, Tryd.ntmps105
  go_wp2_with fail
  go_ret
  exact ⟨rfl, rfl⟩
end Go.Proofs.YtjfhggcjdckfgaaDoor
