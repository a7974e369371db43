/- What the law SpaceFits calls besides: slices.IsSorted, spaced; plain facts of what is free. -/
import Derived.Test.YtegileohambjbaaP4
namespace Go.Proofs.Ytegileohambjbaa
set_option linter.unusedSimpArgs false
set_option linter.unusedVariables false
set_option maxRecDepth 100000
namespace Sp
open Go.RowKit

theorem nan_any (x : Int) (w : World) : Calls Try.prog 22 #[.int .i64 x] w fun e w' => e = .returned (.bool false) ∧ w' = w := by
  go_enter Try.func22, Try.ntmps22
  go_wp2_with fail
  go_ret
  exact ⟨by simp, rfl⟩
theorem less_any (x y : Int) (w : World) (h : ¬ x < y) : Calls Try.prog 21 #[.int .i64 x, .int .i64 y] w fun e w' => e = .returned (.bool false) ∧ w' = w := by
  have HN : Hid (y ≤ x) := Int.not_lt.1 h
  clear h
  go_enter Try.func21, Try.ntmps21
  go_wp2_with fail
  refine (nan_any _ _).mono ?_
  rintro e w1 ⟨rfl, hw⟩
  subst hw
  go_wp2_with fail
  go_ret
  refine ⟨?_, rfl⟩
  show Ending.returned (.bool (decide (x < y))) = _
  rw [decide_eq_false (Int.not_lt.2 HN.out)]
set_option maxHeartbeats 1000000 in
theorem sorted_any (v : Value) (n b : Nat) (f : Nat → Int) (w : World) (h : Ls w b v n f) (hn : n ≤ 1000) (hf : ∀ i, i + 1 < n → f i ≤ f (i + 1)) :
    Calls Try.prog 18 #[v] w fun e w' => e = .returned (.bool true) ∧ Since w w' := by
  obtain ⟨a, c, rfl, hc, h'⟩ := h
  have HL : Hid (0 < n → ∃ k o, a = some ⟨k, o, none⟩ ∧ k < b ∧ ∀ j, j < n → w.cell? ⟨k, o + j, none⟩ = some (.int .i64 (f j))) := h'
  have HF : Hid (∀ i, i + 1 < n → f i ≤ f (i + 1)) := hf
  clear h' hf
  go_enter Try.func18, Try.ntmps18
  go_wp2_with fail
  go_loopw [3] (fun i wr => ∃ k : Int, -1 ≤ k ∧ k < n ∧ i = .int .i64 k ∧ Since w wr) (fun i _ => (intOf i).toNat)
  case atStart => exact ⟨(n : Int) - 1, by omega, by omega, rfl, Since.refl _⟩
  case round =>
    obtain ⟨k, hk1, hk2, rfl, hs⟩ := hrel
    have HS : Hid (Since w wr) := hs
    clear hs
    by_cases hlt : 0 < k
    · obtain ⟨j, rfl⟩ : ∃ j : Nat, k = (j : Int) + 1 := ⟨(k - 1).toNat, by omega⟩
      obtain ⟨lk, lo, rfl, _, hcell⟩ := HL.out (by omega)
      have q := (HS.out.cell (p := ⟨lk, lo + j, none⟩) (World.block_lt_of_cell? w _ (hcell j (by omega)))).trans (hcell j (by omega))
      have q2 := (HS.out.cell (p := ⟨lk, lo + (j + 1), none⟩) (World.block_lt_of_cell? w _ (hcell (j + 1) (by omega)))).trans (hcell (j + 1) (by omega))
      have hle := HF.out j (by omega)
      have hle2 : ¬ f (j + 1) < f j := by omega
      clear hcell hle
      go_wp2_with fail
      go_quiet ((go_at_call 21; exact Calls.quiet_of_same (less_any _ _ _ (by omega))))
      go_wp2_with fail
      go_roundw
      case rel => exact ⟨(j : Int), by omega, by omega, by go_num, HS.out.drewN _⟩
      case measure => simp [intOf]
    · go_wp2_with fail
      go_ret
      exact ⟨rfl, HS.out⟩
theorem Ls.up {w : World} {b b' : Nat} {v : Value} {n : Nat} {f : Nat → Int} (h : Ls w b v n f) (hb : b ≤ b') : Ls w b' v n f := by
  obtain ⟨a, c, hv, hc, h⟩ := h
  refine ⟨a, c, hv, hc, fun hn => ?_⟩
  obtain ⟨k, o, ha, hk, hc⟩ := h hn
  exact ⟨k, o, ha, by omega, hc⟩
def tri (a b c : Int) (j : Nat) : Int := if j = 0 then a else if j = 1 then b else c
theorem ls_tri (w : World) (a b c : Int) : Ls (w.alloc (.cells #[.int .i64 a, .int .i64 b, .int .i64 c] 3)) (w.heap.size + 1) (.slice (some ⟨w.heap.size, 0, none⟩) 3 3) 3 (tri a b c) := by
  refine ⟨_, _, rfl, by omega, fun _ => ⟨w.heap.size, 0, rfl, by omega, fun j hj => ?_⟩⟩
  rw [World.cell?_alloc_new, Nat.zero_add]
  match j, hj with
  | 0, _ => rfl
  | 1, _ => rfl
  | 2, _ => rfl
theorem room_tri : IsRoom 3 (tri 16 3 0) 1 2 true := Or.inl ⟨rfl, 2, by omega, rfl, by omega, by unfold tri; simp, fun j hj => by
  match j, hj with
  | 0, _ => exact Or.inr (by unfold tri; simp)
  | 1, _ => exact Or.inl rfl⟩
theorem vic_tri : IsVic 3 3 (tri 16 3 16) (tri 4 0 2) 2 true := by
  refine Or.inl ⟨rfl, 2, rfl, by omega, ⟨by omega, by omega, by unfold tri; simp⟩, fun i _ hc => ?_⟩
  have h1 := hc.1
  match i, h1 with
  | 0, _ => exact Or.inl (by unfold tri; simp)
  | 1, _ => exact absurd hc.2.2 (by unfold tri; simp)
  | 2, _ => exact Or.inr ⟨rfl, by omega⟩
theorem free_tri : freeTo (tri 16 3 0) 3 = 29 := by decide
set_option maxHeartbeats 1000000 in
theorem spaced_any (w : World) : Calls Try.prog 17 #[] w fun e w' => e = .returned (.bool true) ∧ Since w w' := by
  have HL1 : Hid (∀ w : World, Ls (w.alloc (.cells #[.int .i64 16, .int .i64 3, .int .i64 0] 3)) (w.heap.size + 1) (.slice (some ⟨w.heap.size, 0, none⟩) 3 3) 3 (tri 16 3 0)) := fun w => ls_tri w 16 3 0
  have HL2 : Hid (∀ w : World, Ls ((w.alloc (.cells #[.int .i64 16, .int .i64 3, .int .i64 16] 3)).alloc (.cells #[.int .i64 4, .int .i64 0, .int .i64 2] 3)) (w.heap.size + 2) (.slice (some ⟨w.heap.size, 0, none⟩) 3 3) 3 (tri 16 3 16)) := fun w => ((ls_tri w 16 3 16).up (by omega)).since ((Since.refl _).alloc _)
  have HL3 : Hid (∀ w : World, Ls ((w.alloc (.cells #[.int .i64 16, .int .i64 3, .int .i64 16] 3)).alloc (.cells #[.int .i64 4, .int .i64 0, .int .i64 2] 3)) (w.heap.size + 2) (.slice (some ⟨w.heap.size + 1, 0, none⟩) 3 3) 3 (tri 4 0 2)) := fun w => by
    have h := ls_tri (w.alloc (.cells #[.int .i64 16, .int .i64 3, .int .i64 16] 3)) 4 0 2
    rw [World.size_alloc] at h
    exact h
  go_enter Try.func17, Try.ntmps17
  go_wp2_with fail
  refine (open_any _ 3 _ _ _ _ (HL1.out w) (by omega)).mono ?_
  rintro e w1 ⟨⟨z, ok, rfl, hr⟩, hw⟩
  obtain ⟨rfl, rfl⟩ := hr.one room_tri
  have HS1 : Hid (Since w w1) := by rw [hw]; exact (Since.refl w).alloc _
  clear hr hw
  go_wp2_with fail
  refine (victim_any _ _ 3 3 _ _ _ _ (HL2.out w1) (HL3.out w1) (by omega) (by omega)).mono ?_
  rintro e w2 ⟨⟨z, ok, rfl, hr⟩, hw⟩
  obtain ⟨rfl, rfl⟩ := hr.one vic_tri
  have HS2 : Hid (Since w w2) := ((HS1.out.alloc _).alloc _).trans hw
  clear hr hw HS1
  go_wp2_with fail
  refine (free_any _ 3 _ _ _ (HL1.out w2) (by omega)).mono ?_
  rintro e w3 ⟨rfl, hw⟩
  rw [free_tri]
  have HS3 : Hid (Since w w3) := by rw [hw]; exact HS2.out.alloc _
  clear hw HS2
  go_wp2_with fail
  go_ret
  exact ⟨rfl, HS3.out⟩
end Sp
end Go.Proofs.Ytegileohambjbaa
