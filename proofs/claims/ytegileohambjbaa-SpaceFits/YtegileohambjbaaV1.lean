/- Lists of numbers; the reference's Free and Room. -/
import Derived.Test.YtegileohambjbaaYT
import Derived.Deep.QuietTactic
import Derived.BigQuiet
import Derived.BigRegion
namespace Go.Proofs.Ytegileohambjbaa
set_option linter.unusedSimpArgs false
set_option linter.unusedVariables false
set_option maxRecDepth 100000
namespace Sp
open Go.RowKit

/-- v is a list of n numbers f 0 .. f (n-1), that was there when b was -/
def Ls (w : World) (b : Nat) (v : Value) (n : Nat) (f : Nat → Int) : Prop := ∃ (a : Option Addr) (c : Nat), v = .slice a n c ∧ n ≤ c ∧ (0 < n → ∃ k o, a = some ⟨k, o, none⟩ ∧ k < b ∧ ∀ j, j < n → w.cell? ⟨k, o + j, none⟩ = some (.int .i64 (f j)))
theorem Ls.since {w w' : World} {b : Nat} {v : Value} {n : Nat} {f : Nat → Int} (h : Ls w b v n f) (hs : Since w w') : Ls w' b v n f := by
  obtain ⟨a, c, hv, hc, h⟩ := h
  refine ⟨a, c, hv, hc, fun hn => ?_⟩
  obtain ⟨k, o, ha, hk, hc⟩ := h hn
  exact ⟨k, o, ha, hk, fun j hj => (hs.cell (p := ⟨k, o + j, none⟩) (World.block_lt_of_cell? w _ (hc j hj))).trans (hc j hj)⟩
/-- what a zone has less than 16 -/
def lack (x : Int) : Int := if x < 0 then 16 else if x < 16 then 16 - x else 0
def freeTo (f : Nat → Int) : Nat → Int
  | 0 => 0
  | k + 1 => freeTo f k + lack (f k)
theorem lack_range (x : Int) : 0 ≤ lack x ∧ lack x ≤ 16 := by unfold lack; split <;> (try split) <;> omega
theorem freeTo_range (f : Nat → Int) (k : Nat) : 0 ≤ freeTo f k ∧ freeTo f k ≤ 16 * k := by
  induction k with
  | zero => simp [freeTo]
  | succ k ih =>
    have := lack_range (f k)
    unfold freeTo
    omega
set_option maxHeartbeats 1000000 in
theorem rfree_any (v : Value) (n b : Nat) (f : Nat → Int) (w : World) (h : Ls w b v n f) (hn : n ≤ 1000) :
    Calls Try.prog 9 #[v] w fun e w' => e = .returned (.int .i64 (freeTo f n)) ∧ w' = w := by
  obtain ⟨a, c, rfl, hc, h'⟩ := h
  have HL : Hid (0 < n → ∃ k o, a = some ⟨k, o, none⟩ ∧ k < b ∧ ∀ j, j < n → w.cell? ⟨k, o + j, none⟩ = some (.int .i64 (f j))) := h'
  clear h'
  go_enter Try.func9, Try.ntmps9
  go_wp2_with fail
  go_loopw [8, 3, 5] (fun i s _ wr => ∃ k : Nat, k ≤ n ∧ i = .int .i64 k ∧ s = .int .i64 (freeTo f k) ∧ wr = w) (fun i _ _ _ => n - (intOf i).toNat)
  case atStart => exact ⟨0, by omega, rfl, rfl, rfl⟩
  case round =>
    obtain ⟨k, hk, rfl, rfl, rfl⟩ := hrel
    by_cases hlt : k < n
    · have hlt2 : (k : Int) < n := by omega
      obtain ⟨lk, lo, rfl, _, hcell⟩ := HL.out (by omega)
      have q := hcell k hlt
      clear hcell
      have hr := freeTo_range f k
      have hr2 := freeTo_range f (k + 1)
      have hs : freeTo f (k + 1) = freeTo f k + lack (f k) := rfl
      have HS : Hid (freeTo f (k + 1) = freeTo f k + lack (f k)) := hs
      by_cases h0 : f k < 0
      · have hl : lack (f k) = 16 := by unfold lack; rw [if_pos h0]
        rw [hl] at HS
        clear hs hl
        go_wp2_with fail
        go_roundw
        case rel => exact ⟨k + 1, by omega, by go_num, by rw [HS.out], trivial⟩
        case measure => simp [intOf]; omega
      · by_cases h16 : f k < 16
        · have hl : lack (f k) = 16 - f k := by unfold lack; rw [if_neg h0, if_pos h16]
          rw [hl] at HS
          clear hs hl
          go_wp2_with fail
          go_roundw
          case rel => exact ⟨k + 1, by omega, by go_num, by rw [HS.out], trivial⟩
          case measure => simp [intOf]; omega
        · have hl : lack (f k) = 0 := by unfold lack; rw [if_neg h0, if_neg h16]
          rw [hl] at HS
          clear hs hl
          go_wp2_with fail
          go_roundw
          case rel => exact ⟨k + 1, by omega, by go_num, by rw [HS.out, Int.add_zero], trivial⟩
          case measure => simp [intOf]; omega
    · have hke : k = n := by omega
      subst hke
      go_wp2_with fail
      go_ret
      exact ⟨rfl, rfl⟩
/-- the first zone that has room, but one -/
def IsRoom (n : Nat) (f : Nat → Int) (but : Int) (z : Int) (ok : Bool) : Prop :=
  (ok = true ∧ ∃ i : Nat, i < n ∧ z = i ∧ (i : Int) ≠ but ∧ f i < 16 ∧ ∀ j, j < i → (j : Int) = but ∨ 16 ≤ f j) ∨ (ok = false ∧ z = 0 ∧ ∀ j, j < n → (j : Int) = but ∨ 16 ≤ f j)
theorem IsRoom.one {n : Nat} {f : Nat → Int} {but z z' : Int} {ok ok' : Bool} (h : IsRoom n f but z ok) (h' : IsRoom n f but z' ok') : z = z' ∧ ok = ok' := by
  rcases h with ⟨rfl, i, hi, rfl, hb, hf, hl⟩ | ⟨rfl, rfl, hl⟩ <;> rcases h' with ⟨rfl, i', hi', rfl, hb', hf', hl'⟩ | ⟨rfl, rfl, hl'⟩
  · refine ⟨?_, rfl⟩
    by_cases h1 : i < i'
    · rcases hl' i h1 with h2 | h2 <;> omega
    · by_cases h2 : i' < i
      · rcases hl i' h2 with h3 | h3 <;> omega
      · omega
  · rcases hl' i hi with h2 | h2 <;> omega
  · rcases hl i' hi' with h2 | h2 <;> omega
  · exact ⟨rfl, rfl⟩
set_option maxHeartbeats 1000000 in
theorem rroom_any (v : Value) (n b : Nat) (f : Nat → Int) (but : Int) (w : World) (h : Ls w b v n f) (hn : n ≤ 1000) :
    Calls Try.prog 6 #[v, .int .i64 but] w fun e w' => (∃ z ok, e = .returned (.tuple #[.int .i64 z, .bool ok]) ∧ IsRoom n f but z ok) ∧ w' = w := by
  obtain ⟨a, c, rfl, hc, h'⟩ := h
  have HL : Hid (0 < n → ∃ k o, a = some ⟨k, o, none⟩ ∧ k < b ∧ ∀ j, j < n → w.cell? ⟨k, o + j, none⟩ = some (.int .i64 (f j))) := h'
  clear h'
  go_enter Try.func6, Try.ntmps6
  go_wp2_with fail
  go_loopw [9, 6] (fun i _ wr => ∃ k : Nat, k ≤ n ∧ i = .int .i64 k ∧ (∀ j, j < k → (j : Int) = but ∨ 16 ≤ f j) ∧ wr = w) (fun i _ _ => n - (intOf i).toNat)
  case atStart => exact ⟨0, by omega, rfl, fun j hj => by omega, rfl⟩
  case round =>
    obtain ⟨k, hk, rfl, hall, rfl⟩ := hrel
    have HA : Hid (∀ j, j < k → (j : Int) = but ∨ 16 ≤ f j) := hall
    clear hall
    by_cases hlt : k < n
    · have hlt2 : (k : Int) < n := by omega
      obtain ⟨lk, lo, rfl, _, hcell⟩ := HL.out (by omega)
      have q := hcell k hlt
      clear hcell
      by_cases hb : (k : Int) = but
      · have HA2 : Hid (∀ j, j < k + 1 → (j : Int) = but ∨ 16 ≤ f j) := fun j hj => by
          by_cases e : j = k
          · subst e; exact Or.inl hb
          · exact HA.out j (by omega)
        subst hb
        go_wp2_with fail
        go_roundw
        case rel => exact ⟨k + 1, by omega, by go_num, HA2.out, trivial⟩
        case measure => simp [intOf]; omega
      · by_cases h16 : f k < 16
        · go_wp2_with fail
          go_ret2
          exact ⟨⟨(k : Int), true, rfl, Or.inl ⟨rfl, k, hlt, rfl, hb, h16, HA.out⟩⟩, rfl⟩
        · have HA2 : Hid (∀ j, j < k + 1 → (j : Int) = but ∨ 16 ≤ f j) := fun j hj => by
            by_cases e : j = k
            · subst e; exact Or.inr (by omega)
            · exact HA.out j (by omega)
          go_wp2_with fail
          go_roundw
          case rel => exact ⟨k + 1, by omega, by go_num, HA2.out, trivial⟩
          case measure => simp [intOf]; omega
    · have hke : k = n := by omega
      subst hke
      go_wp2_with fail
      go_ret2
      exact ⟨⟨0, false, rfl, Or.inr ⟨rfl, rfl, HA.out⟩⟩, rfl⟩
end Sp
end Go.Proofs.Ytegileohambjbaa
