/- Two lists of numbers held against each other. -/
import Derived.Test.YtegileohambjbaaV3
namespace Go.Proofs.Ytegileohambjbaa
set_option linter.unusedSimpArgs false
set_option linter.unusedVariables false
set_option maxRecDepth 100000
namespace Sp
open Go.RowKit

/-- an owned row of numbers is a list -/
theorem Ls.of_own {w : World} {base n : Nat} {v : Value} {xs : List Value} {f : Nat → Int} (h : w.ownsRow base 3 1 v n xs) (hx : ∀ j, j < n → xs[j]? = some (.int .i64 (f j))) : Ls w w.heap.size v n f := by
  rcases h.2 with ⟨rfl, rfl⟩ | ⟨g, cap, cur, rfl, hg, hh, h1, h2, h3, h4⟩
  · exact ⟨_, _, rfl, by omega, fun h => by omega⟩
  · refine ⟨_, _, rfl, h1, fun _ => ⟨g, 0, rfl, (Array.getElem?_eq_some_iff.1 hh).1, fun j hj => ?_⟩⟩
    have e := hx j hj
    rw [← h4, List.getElem?_take_of_lt (by omega), Array.getElem?_toList] at e
    rw [Nat.zero_add]
    simp [World.cell?, hh, e]
set_option maxHeartbeats 1000000 in
theorem sameInts_any (v u : Value) (n b c : Nat) (f : Nat → Int) (w : World) (h : Ls w b v n f) (h2 : Ls w c u n f) (hn : n ≤ 1000) :
    Calls Try.prog 12 #[v, u] w fun e w' => e = .returned (.bool true) ∧ Since w w' := by
  obtain ⟨a, c1, rfl, hc, h'⟩ := h
  obtain ⟨a2, c2, rfl, hc2, h2'⟩ := h2
  have HL : Hid (0 < n → ∃ k o, a = some ⟨k, o, none⟩ ∧ k < b ∧ ∀ j, j < n → w.cell? ⟨k, o + j, none⟩ = some (.int .i64 (f j))) := h'
  have HM : Hid (0 < n → ∃ k o, a2 = some ⟨k, o, none⟩ ∧ k < c ∧ ∀ j, j < n → w.cell? ⟨k, o + j, none⟩ = some (.int .i64 (f j))) := h2'
  clear h' h2'
  go_enter Try.func12, Try.ntmps12
  go_wp2_with fail
  go_loopw [5] (fun i wr => ∃ k : Nat, k ≤ n ∧ i = .int .i64 k ∧ Since w wr) (fun i _ => n - (intOf i).toNat)
  case atStart => exact ⟨0, by omega, rfl, Since.refl _⟩
  case round =>
    obtain ⟨k, hk, rfl, hs⟩ := hrel
    have HS : Hid (Since w wr) := hs
    clear hs
    by_cases hlt : k < n
    · have hlt2 : (k : Int) < n := by omega
      obtain ⟨lk, lo, rfl, _, hcell⟩ := HL.out (by omega)
      obtain ⟨mk, mo, rfl, _, hcell2⟩ := HM.out (by omega)
      have q := (HS.out.cell (p := ⟨lk, lo + k, none⟩) (World.block_lt_of_cell? w _ (hcell k (by omega)))).trans (hcell k (by omega))
      have q2 := (HS.out.cell (p := ⟨mk, mo + k, none⟩) (World.block_lt_of_cell? w _ (hcell2 k (by omega)))).trans (hcell2 k (by omega))
      clear hcell hcell2
      go_wp2_with fail
      go_quiet (fail)
      go_wp2_with fail
      go_roundw
      case rel => exact ⟨k + 1, by omega, by go_num, HS.out.drewN _⟩
      case measure => simp [intOf]; omega
    · have hke : k = n := by omega
      subst hke
      go_wp2_with fail
      go_ret
      exact ⟨rfl, HS.out⟩
end Sp
end Go.Proofs.Ytegileohambjbaa
