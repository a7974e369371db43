/- Plain facts for the law SpaceFits: what is free but in one zone; a piece of a list; cells of a zone rise. -/
import Derived.Test.YtegileohambjbaaP5
namespace Go.Proofs.Ytegileohambjbaa
set_option linter.unusedSimpArgs false
set_option linter.unusedVariables false
set_option maxRecDepth 100000
namespace Sp
open Go.RowKit
open Tw (Tb tcell)

/-- what is free in the first k zones, but one -/
def freeBut (f : Nat → Int) (but : Int) : Nat → Int
  | 0 => 0
  | k + 1 => freeBut f but k + (if (k : Int) = but then 0 else lack (f k))
theorem freeTo_but (f : Nat → Int) (but : Int) (k : Nat) : freeTo f k = freeBut f but k + (if 0 ≤ but ∧ but < k then lack (f but.toNat) else 0) := by
  induction k with
  | zero => rw [if_neg (by omega)]; rfl
  | succ k ih =>
    unfold freeTo freeBut
    rw [ih]
    by_cases e : (k : Int) = but
    · subst e
      rw [if_neg (by omega), if_pos rfl, if_pos (by omega)]
      simp
    · rw [if_neg e]
      by_cases h : 0 ≤ but ∧ but < k
      · rw [if_pos h, if_pos (by omega)]; omega
      · rw [if_neg h, if_neg (by omega)]; omega
theorem lack_zero (x : Int) : lack x = 0 ↔ 16 ≤ x := by
  unfold lack
  split
  · constructor <;> omega
  · split <;> constructor <;> omega
theorem freeBut_nonneg (f : Nat → Int) (but : Int) (k : Nat) : 0 ≤ freeBut f but k := by
  induction k with
  | zero => simp [freeBut]
  | succ k ih =>
    have := (lack_range (f k)).1
    unfold freeBut
    split <;> omega
theorem freeBut_le (f : Nat → Int) (but : Int) (k : Nat) : freeBut f but k ≤ 16 * k := by
  have := freeTo_range f k
  have h2 := freeTo_but f but k
  split at h2
  · have := lack_range (f but.toNat); omega
  · omega
theorem freeBut_zero (f : Nat → Int) (but : Int) (k : Nat) : freeBut f but k = 0 ↔ ∀ j, j < k → (j : Int) = but ∨ 16 ≤ f j := by
  induction k with
  | zero => exact ⟨fun _ j hj => by omega, fun _ => rfl⟩
  | succ k ih =>
    have h1 := freeBut_nonneg f but k
    have h2 := (lack_range (f k)).1
    unfold freeBut
    constructor
    · intro h j hj
      by_cases e : j = k
      · subst e
        by_cases eb : (j : Int) = but
        · exact Or.inl eb
        · rw [if_neg eb] at h
          exact Or.inr ((lack_zero _).1 (by omega))
      · exact ih.1 (by split at h <;> omega) j (by omega)
    · intro h
      rw [ih.2 (fun j hj => h j (by omega))]
      rcases h k (by omega) with hb | hb
      · rw [if_pos hb]; rfl
      · split
        · rfl
        · rw [(lack_zero _).2 hb]; rfl
/-- there is room just where something is free -/
theorem IsRoom.free {n : Nat} {f : Nat → Int} {but z : Int} {ok : Bool} (h : IsRoom n f but z ok) : ok = decide (0 < freeBut f but n) := by
  have h0 := freeBut_nonneg f but n
  rcases h with ⟨rfl, i, hi, rfl, hb, hf, _⟩ | ⟨rfl, rfl, hl⟩
  · symm
    refine decide_eq_true ?_
    by_cases e : freeBut f but n = 0
    · rcases (freeBut_zero f but n).1 e i hi with h1 | h1 <;> omega
    · omega
  · symm
    refine decide_eq_false ?_
    rw [(freeBut_zero f but n).2 hl]
    omega
theorem Ls.piece {w : World} {b : Nat} {a : Option Addr} {n c : Nat} {f : Nat → Int} (h : Ls w b (.slice a n c) n f) (i : Nat) (hi : i < n) : ∃ k o, a = some ⟨k, o, none⟩ ∧ ∀ c', 1 ≤ c' → Ls w b (.slice (some ⟨k, o + i, none⟩) 1 c') 1 (fun _ => f i) := by
  obtain ⟨a', c2, hv, hc, h⟩ := h
  obtain ⟨k, o, ha, hk, hc⟩ := h (by omega)
  injection hv with e1 e2 e3
  subst e1
  exact ⟨k, o, ha, fun c' hc' => ⟨_, _, rfl, hc', fun _ => ⟨k, o + i, rfl, hk, fun j hj => by
    obtain rfl : j = 0 := by omega
    exact hc i hi⟩⟩⟩
theorem Ls.at_ {w : World} {b : Nat} {a : Option Addr} {n c : Nat} {f : Nat → Int} (h : Ls w b (.slice a n c) n f) (i : Nat) (hi : i < n) : ∃ k o, a = some ⟨k, o, none⟩ ∧ k < b ∧ w.cell? ⟨k, o + i, none⟩ = some (.int .i64 (f i)) := by
  obtain ⟨a', c2, hv, hc, h⟩ := h
  obtain ⟨k, o, ha, hk, hc⟩ := h (by omega)
  injection hv with e1 e2 e3
  subst e1
  exact ⟨k, o, ha, hk, hc i hi⟩
theorem inI_sorted (T : Tb) (z : Int) (k : Nat) : (inI T z k).Pairwise (· < ·) := List.Pairwise.filter _ List.pairwise_lt_range
theorem inF_rise (T : Tb) (z : Int) (i : Nat) (h : i + 1 < (inI T z 24).length) : inF T z i ≤ inF T z (i + 1) := by
  have := List.pairwise_iff_getElem.1 (inI_sorted T z 24) i (i + 1) (by omega) h (by omega)
  unfold inF
  rw [List.getD_eq_getElem?_getD, List.getD_eq_getElem?_getD, List.getElem?_eq_getElem (by omega), List.getElem?_eq_getElem h]
  simp only [Option.getD_some]
  omega
end Sp
end Go.Proofs.Ytegileohambjbaa
