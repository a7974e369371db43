/- Package space: lies, In. -/
import Derived.Test.YtegileohambjbaaV3
namespace Go.Proofs.Ytegileohambjbaa
set_option linter.unusedSimpArgs false
set_option linter.unusedVariables false
set_option maxRecDepth 100000
namespace Sp
open Go.RowKit
open Tw (Tb tcell tval ccell tab_cel tab_cells tab_all idx_cell ln73)

theorem lies_any (x o z : Int) (t : ByteArray) (w : World) : Calls Try.prog 20 #[.agg #[.int .i64 x, .int .i64 o, .string t], .int .i64 z] w fun e w' => e = .returned (.bool (decide (¬ t = ⟨#[]⟩) && decide (x = z))) ∧ Since w w' := by
  by_cases te : t = ⟨#[]⟩
  · subst te
    rw [show (decide (¬ (⟨#[]⟩ : ByteArray) = ⟨#[]⟩) && decide (x = z)) = false by simp]
    go_enter Try.func20, Try.ntmps20
    go_wp2_with fail
    go_ret
    exact ⟨rfl, (Since.refl w).alloc _⟩
  · have ht1 : ¬ t.toList = [] := by
      rw [ByteArray.toList_eq]
      exact fun e => te (ByteArray.ext (Array.toList_inj.1 e))
    have ht2 : t.toList.isEmpty = false := by
      cases hq : t.toList with
      | nil => exact absurd hq ht1
      | cons _ _ => rfl
    by_cases hz : x = z
    · rw [decide_eq_true te, decide_eq_true hz]
      subst hz
      clear te
      go_enter Try.func20, Try.ntmps20
      go_wp2_with fail
      go_ret
      exact ⟨rfl, (Since.refl w).alloc _⟩
    · rw [decide_eq_true te, decide_eq_false hz]
      have hz2 : Hid ((x == z) = false) := by show (x == z) = false; simp [hz]
      clear te
      go_enter Try.func20, Try.ntmps20
      go_wp2_with fail
      go_ret
      refine ⟨?_, (Since.refl w).alloc _⟩
      show Ending.returned (.bool (x == z)) = _
      rw [hz2.out]
      rfl
theorem three {T : Tb} {w : World} {b : Nat} (h : Cel w b 73 (tcell T)) (k : Nat) (hk : k < 24) : w.cell? ⟨b, 1 + k * 3, none⟩ = some (.int .i64 (T.zone k)) ∧ w.cell? ⟨b, 1 + k * 3 + 1, none⟩ = some (.int .i64 (T.off k)) ∧ w.cell? ⟨b, 1 + k * 3 + 2, none⟩ = some (.string (T.tag k)) := by
  have q0 := h.cell (1 + k * 3 + 0) (by omega)
  have q1 := h.cell (1 + k * 3 + 1) (by omega)
  have q2 := h.cell (1 + k * 3 + 2) (by omega)
  rw [Tw.tcell_at T k 0 (by omega), show Tw.tpart T k 0 = .int .i64 (T.zone k) from rfl] at q0
  rw [Tw.tcell_at T k 1 (by omega), show Tw.tpart T k 1 = .int .i64 (T.off k) from rfl] at q1
  rw [Tw.tcell_at T k 2 (by omega), show Tw.tpart T k 2 = .string (T.tag k) from rfl] at q2
  exact ⟨q0, q1, q2⟩
set_option maxHeartbeats 4000000 in
theorem in_any (T : Tb) (z : Int) (w : World) : Calls Try.prog 15 #[tval T, .int .i64 z] w fun e w' => ∃ x, e = .returned x ∧ w'.ownsRow w.heap.size 3 1 x (inI T z 24).length (vals (inI T z 24)) ∧ Since w w' := by
  have HC : Hid (Cel (w.alloc (.cells (brow 73 (tcell T)).toArray 27)) w.heap.size 73 (tcell T)) := tab_cel T w
  have HS : Hid (Since w (w.alloc (.cells (brow 73 (tcell T)).toArray 27))) := (Since.refl w).alloc _
  have HSZ : Hid ((w.alloc (.cells (brow 73 (tcell T)).toArray 27)).heap.size = w.heap.size + 1) := World.size_alloc _ _
  unfold tval
  generalize (brow 73 (tcell T)).toArray = cs at *
  obtain ⟨i0, hi, hz0, hz1, hz2⟩ := info_parts infoI
  have HI : Hid (Try.prog.info? 3 = some i0 ∧ i0.zero = some (.int .i64 0) ∧ i0.size = 1 ∧ i0.bytes = 8) := ⟨hi, hz0, hz1, hz2⟩
  clear hi hz0 hz1 hz2
  go_enter Try.func15, Try.ntmps15
  go_wp2_with fail
  generalize w.alloc (.cells cs 27) = w0 at *
  go_loopw [7, 5, 6] (fun i x _ wr => ∃ k : Nat, k ≤ 24 ∧ i = .int .i64 k ∧ wr.ownsRow w0.heap.size 3 1 x (inI T z k).length (vals (inI T z k)) ∧ Since w0 wr) (fun i _ _ _ => 24 - (intOf i).toNat)
  case atStart => exact ⟨0, by omega, rfl, World.ownsRow_nil _ _ _ _, Since.refl _⟩
  case round =>
    obtain ⟨k, hk, rfl, hx, hs⟩ := hrel
    have HX : Hid (wr.ownsRow w0.heap.size 3 1 u5 (inI T z k).length (vals (inI T z k))) := hx
    have HSK : Hid (Since w0 wr) := hs
    clear hx hs
    by_cases hlt : k < 24
    · have hlt2 : (k : Int) < 24 := by omega
      obtain ⟨q0, q1, q2⟩ := three (HC.out.since HSK.out) k hlt
      go_wp2_with fail
      clear q0 q1 q2
      refine (lies_any _ _ _ _ _).mono ?_
      rintro e w1 ⟨rfl, h1⟩
      have HX1 : Hid (w1.ownsRow w0.heap.size 3 1 u5 (inI T z k).length (vals (inI T z k))) := ownsRow_since HX.out h1
      have HS1 : Hid (Since w0 w1) := HSK.out.trans h1
      clear h1
      by_cases hl : lies T z k = true
      · rw [show (decide (¬ T.tag k = ⟨#[]⟩) && decide (T.zone k = z)) = true from hl]
        have HE : Hid (inI T z (k + 1) = inI T z k ++ [k]) := inI_in hl
        have hle := inI_len T z k
        clear hl
        go_wp2_with (at_builtin; refine wpList_append_own _ (by rfl) _ _ _ (by rfl) w0.heap.size 3 i0 _ 1 8 Try.underlying22 HI.out.1 HI.out.2.1 HI.out.2.2.1 HI.out.2.2.2 (by rfl) (by decide) _ (inI T z k).length (vals (inI T z k)) (by rfl) (World.ownsRow.alloc HX1.out _) ⟨w1.heap.size, 0, none⟩ 1 1 [.int .i64 (k : Int)] (by rfl) (by rfl) (World.news_of_block (heap_alloc_new w1 _)) (by simp [Value.oneCell']) (by unfold maxLen; omega) (by omega) (by have := HS1.out.size; simp; omega) ?_; intro x' w3 hown1 hgrow _)
        have HO1 : Hid (w3.ownsRow w0.heap.size 3 1 x' (inI T z (k + 1)).length (vals (inI T z (k + 1)))) := by
          show World.ownsRow _ _ _ _ _ _ _
          rw [HE.out, List.length_append, show vals (inI T z k ++ [k]) = vals (inI T z k) ++ [.int .i64 (k : Int)] from by simp [vals]]
          exact hown1
        have HG1 : Hid (Since w0 w3) := Below.grown (Since.alloc HS1.out _) hgrow (by have := HS1.out.size; simp; omega) (fun j hj => (HX1.out.lt j hj).1)
        clear hown1 hgrow
        go_roundw
        case rel => exact ⟨k + 1, by omega, by go_num, HO1.out, HG1.out⟩
        case measure => simp [intOf]; omega
      · have hl2 : lies T z k = false := by cases h : lies T z k with | true => exact absurd h hl | false => rfl
        rw [show (decide (¬ T.tag k = ⟨#[]⟩) && decide (T.zone k = z)) = false from hl2]
        have HO : Hid (w1.ownsRow w0.heap.size 3 1 u5 (inI T z (k + 1)).length (vals (inI T z (k + 1)))) := by
          show World.ownsRow _ _ _ _ _ _ _
          rw [inI_out hl2]
          exact HX1.out
        clear hl hl2
        go_wp2_with fail
        go_roundw
        case rel => exact ⟨k + 1, by omega, by go_num, HO.out, HS1.out⟩
        case measure => simp [intOf]; omega
    · have hke : k = 24 := by omega
      subst hke
      go_wp2_with fail
      go_ret
      exact ⟨_, rfl, ownsRow_low HX.out HS.out.size, HS.out.trans HSK.out⟩
end Sp
end Go.Proofs.Ytegileohambjbaa
