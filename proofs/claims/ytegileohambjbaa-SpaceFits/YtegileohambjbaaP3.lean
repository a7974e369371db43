/- Package space: Live. -/
import Derived.Test.YtegileohambjbaaP2
namespace Go.Proofs.Ytegileohambjbaa
set_option linter.unusedSimpArgs false
set_option linter.unusedVariables false
set_option maxRecDepth 100000
namespace Sp
open Go.RowKit
open Tw (Tb tcell tval ccell tab_cel tab_cells tab_all idx_cell ln73)

theorem make_ints (w : World) : (Instr.makeSlice 22 (.int .i64 8) (.int .i64 8)).run Try.prog w = .ok (.slice (some ⟨w.heap.size, 0, none⟩) 8 8) (w.alloc (.cells (madeCells #[Value.int .i64 0] 8) 3)) := by
  obtain ⟨i, hi, hz, hs, hb⟩ := info_parts infoI
  have h := run_makeSlice (P := Try.prog) w 22 3 i _ Try.underlying22 hi hz .i64 .i64 8 8 (by omega) (by omega) (by rw [hs]; omega) (by rw [hb]; omega) (by omega)
  rw [hs, Nat.mul_one] at h
  simpa [Value.cells] using h
theorem made_int (n j : Nat) (hj : j < n) : (madeCells #[Value.int .i64 0] n)[j]? = some (.int .i64 0) := by
  unfold madeCells
  simp [hj, Nat.mod_one]
/-- how many of the first k cells lie in zone j -/
def cnt (T : Tb) (k j : Nat) : Value := .int .i64 ((inI T (j : Int) k).length : Int)
theorem cnt_other {T : Tb} {k : Nat} (h : ∀ j : Nat, j < 8 → lies T (j : Int) k = false) (j : Nat) (hj : j < 8) : cnt T k j = cnt T (k + 1) j := by
  unfold cnt
  rw [inI_out (h j hj)]
theorem cnt_hit {T : Tb} {k z : Nat} (ht : ¬ T.tag k = ⟨#[]⟩) (hz : T.zone k = z) (j : Nat) : updv (cnt T k) z (.int .i64 (((inI T (z : Int) k).length : Int) + 1)) j = cnt T (k + 1) j := by
  unfold updv
  by_cases e : j = z
  · subst e
    rw [if_pos rfl]
    unfold cnt
    rw [inI_in (by unfold lies; rw [decide_eq_true ht, decide_eq_true hz]; rfl), List.length_append]
    simp
  · rw [if_neg e]
    unfold cnt
    rw [inI_out (by unfold lies; rw [decide_eq_false (p := T.zone k = (j : Int)) (by omega), Bool.and_false])]
set_option maxHeartbeats 4000000 in
theorem live_any (T : Tb) (w : World) : Calls Try.prog 13 #[tval T] w fun e w' => ∃ x, e = .returned x ∧ (∃ b, x = .slice (some ⟨b, 0, none⟩) 8 8 ∧ Cel w' b 8 (cnt T 24)) ∧ Since w w' := by
  have HC : Hid (Cel (w.alloc (.cells (brow 73 (tcell T)).toArray 27)) w.heap.size 73 (tcell T)) := tab_cel T w
  have HS : Hid (Since w (w.alloc (.cells (brow 73 (tcell T)).toArray 27))) := (Since.refl w).alloc _
  have hsz : (w.alloc (.cells (brow 73 (tcell T)).toArray 27)).heap.size = w.heap.size + 1 := World.size_alloc _ _
  unfold tval
  generalize (brow 73 (tcell T)).toArray = cs at *
  have hmk := make_ints (w.alloc (.cells cs 27))
  have HD : Hid (Cel ((w.alloc (.cells cs 27)).alloc (.cells (madeCells #[Value.int .i64 0] 8) 3)) (w.heap.size + 1) 8 (cnt T 0)) := by
    refine Cel.new _ _ _ _ _ (fun j hj => ?_) _ hsz.symm
    rw [show cnt T 0 j = .int .i64 0 from rfl]
    exact made_int 8 j hj
  have HC2 : Hid (Cel ((w.alloc (.cells cs 27)).alloc (.cells (madeCells #[Value.int .i64 0] 8) 3)) w.heap.size 73 (tcell T)) := HC.out.since ((Since.refl _).alloc _)
  have HS2 : Hid (Since w ((w.alloc (.cells cs 27)).alloc (.cells (madeCells #[Value.int .i64 0] 8) 3))) := HS.out.alloc _
  rw [hsz] at hmk
  clear hsz HC HS
  go_enter Try.func13, Try.ntmps13
  go_wp2_with fail
  clear hmk
  generalize (w.alloc (.cells cs 27)).alloc (.cells (madeCells #[Value.int .i64 0] 8) 3) = w0 at *
  go_loopw [7, 4, 5] (fun i _ _ wr => ∃ k : Nat, k ≤ 24 ∧ i = .int .i64 k ∧ Cel wr (w.heap.size + 1) 8 (cnt T k) ∧ Cel wr w.heap.size 73 (tcell T) ∧ Since w wr) (fun i _ _ _ => 24 - (intOf i).toNat)
  case atStart => exact ⟨0, by omega, rfl, HD.out, HC2.out, HS2.out⟩
  case round =>
    clear HD HC2 HS2
    obtain ⟨k, hk, rfl, hd, hc, hs⟩ := hrel
    have HD : Hid (Cel wr (w.heap.size + 1) 8 (cnt T k)) := hd
    have HC : Hid (Cel wr w.heap.size 73 (tcell T)) := hc
    have HSK : Hid (Since w wr) := hs
    clear hd hc hs
    by_cases hlt : k < 24
    · have hlt2 : (k : Int) < 24 := by omega
      obtain ⟨q0, q1, q2⟩ := three HC.out k hlt
      by_cases hneg : 0 ≤ T.zone k
      · by_cases h8 : T.zone k < 8
        · obtain ⟨z, hz⟩ : ∃ z : Nat, T.zone k = z := ⟨(T.zone k).toNat, by omega⟩
          have hz8 : (z : Int) < 8 := by omega
          have HZ : Hid (T.zone k = z) := hz
          rw [hz] at q0
          clear hz h8 hneg
          go_wp2_with fail
          refine (lies_any _ _ _ _ _).mono ?_
          rintro e w1 ⟨rfl, h1⟩
          have HD1 : Hid (Cel w1 (w.heap.size + 1) 8 (cnt T k)) := HD.out.since h1
          have HC1 : Hid (Cel w1 w.heap.size 73 (tcell T)) := HC.out.since h1
          have HS1 : Hid (Since w w1) := HSK.out.trans h1
          clear h1 q0 q1 q2
          by_cases te : T.tag k = ⟨#[]⟩
          · rw [show (decide (¬ T.tag k = ⟨#[]⟩) && decide ((z : Int) = z)) = false by simp [te]]
            have HD2 : Hid (Cel w1 (w.heap.size + 1) 8 (cnt T (k + 1))) := HD1.out.congr (cnt_other (fun j _ => by unfold lies; rw [decide_eq_false (fun h => h te)]; rfl))
            clear te
            go_wp2_with fail
            go_roundw
            case rel => exact ⟨k + 1, by omega, by go_num, HD2.out, HC1.out, HS1.out⟩
            case measure => simp [intOf]; omega
          · rw [show (decide (¬ T.tag k = ⟨#[]⟩) && decide ((z : Int) = z)) = true by simp [te]]
            have q3 : w1.cell? ⟨w.heap.size + 1, z, none⟩ = some (.int .i64 ((inI T (z : Int) k).length : Int)) := HD1.out.cell z (by omega)
            have q4 := HD1.out.frozen z (by omega)
            have hle := inI_len T (z : Int) k
            have HW : Hid (Cel (w1.setCell ⟨w.heap.size + 1, z, none⟩ (.int .i64 (((inI T (z : Int) k).length : Int) + 1))) (w.heap.size + 1) 8 (cnt T (k + 1)) ∧ Cel (w1.setCell ⟨w.heap.size + 1, z, none⟩ (.int .i64 (((inI T (z : Int) k).length : Int) + 1))) w.heap.size 73 (tcell T) ∧ Since w (w1.setCell ⟨w.heap.size + 1, z, none⟩ (.int .i64 (((inI T (z : Int) k).length : Int) + 1)))) :=
              ⟨(HD1.out.set z (by omega) _).congr (fun j hj => cnt_hit te HZ.out j), HC1.out.other (by show w.heap.size + 1 ≠ w.heap.size; omega) _, HS1.out.setCell (by show w.heap.size ≤ w.heap.size + 1; omega) _⟩
            clear te
            generalize (inI T (z : Int) k).length = nn at *
            go_wp2_with fail
            go_roundw
            case rel => exact ⟨k + 1, by omega, by go_num, HW.out.1, HW.out.2.1, HW.out.2.2⟩
            case measure => simp [intOf]; omega
        · have HD2 : Hid (Cel wr (w.heap.size + 1) 8 (cnt T (k + 1))) := HD.out.congr (cnt_other (fun j hj => by unfold lies; rw [decide_eq_false (p := T.zone k = (j : Int)) (by omega), Bool.and_false]))
          have h8d : decide (T.zone k < 8) = false := by simp; omega
          go_wp2_with fail
          go_roundw
          case rel => exact ⟨k + 1, by omega, by go_num, HD2.out, HC.out, HSK.out⟩
          case measure => simp [intOf]; omega
      · have HD2 : Hid (Cel wr (w.heap.size + 1) 8 (cnt T (k + 1))) := HD.out.congr (cnt_other (fun j hj => by unfold lies; rw [decide_eq_false (p := T.zone k = (j : Int)) (by omega), Bool.and_false]))
        go_wp2_with fail
        go_roundw
        case rel => exact ⟨k + 1, by omega, by go_num, HD2.out, HC.out, HSK.out⟩
        case measure => simp [intOf]; omega
    · have hke : k = 24 := by omega
      subst hke
      go_wp2_with fail
      go_ret
      exact ⟨_, rfl, ⟨_, rfl, HD.out⟩, HSK.out⟩
end Sp
end Go.Proofs.Ytegileohambjbaa
