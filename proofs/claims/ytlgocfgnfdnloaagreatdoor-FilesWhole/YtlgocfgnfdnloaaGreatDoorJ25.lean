import Derived.OwnWalk
import Derived.Deep.AppendLies
import Derived.Test.YtlgocfgnfdnloaaGreatDoorJ24
set_option linter.unusedSimpArgs false
set_option linter.unusedVariables false
section
namespace Go.Proofs.YtlgocfgnfdnloaaGreatDoor
set_option maxRecDepth 100000
namespace Sp
open Go.RowKit
open Tw (Tb tcell tval ccell tab_cel tab_cells tab_all idx_cell ln73)
theorem infoI : (Tryz.prog.info? 3).map (fun i => (i.zero, i.size, i.bytes)) = some (some (.int .i64 0), 1, 8) := by kernel_rfl
theorem info_parts {P : Program} {t : TypeId} {z : Value} {s y : Nat} (h : (P.info? t).map (fun i => (i.zero, i.size, i.bytes)) = some (some z, s, y)) : ∃ i, P.info? t = some i ∧ i.zero = some z ∧ i.size = s ∧ i.bytes = y := by
  cases hi : P.info? t with
  | none => rw [hi] at h; cases h
  | some i => rw [hi] at h; simp at h; exact ⟨i, rfl, h.1, h.2.1, h.2.2⟩
theorem ownsRow_since {w w' : World} {base e size n : Nat} {v : Value} {xs : List Value} (h : w.ownsRow base e size v n xs) (hs : Since w w') : w'.ownsRow base e size v n xs := by
  refine ⟨h.1, ?_⟩
  rcases h.2 with hn | ⟨k, cap, cur, hv, hbk, hk, rest⟩
  · exact .inl hn
  · exact .inr ⟨k, cap, cur, hv, hbk, by rw [hs.block k (Array.getElem?_eq_some_iff.1 hk).1]; exact hk, rest⟩
def lies (T : Tb) (z : Int) (i : Nat) : Bool := decide (¬ T.tag i = ⟨#[]⟩) && decide (T.zone i = z)
def inI (T : Tb) (z : Int) (k : Nat) : List Nat := (List.range k).filter (lies T z)
def vals (l : List Nat) : List Value := l.map fun (i : Nat) => Value.int .i64 (i : Int)
theorem inI_in {T : Tb} {z : Int} {k : Nat} (h : lies T z k = true) : inI T z (k + 1) = inI T z k ++ [k] := by
  unfold inI
  rw [List.range_succ, List.filter_append, show [k].filter (lies T z) = [k] from List.filter_eq_self.2 (fun a ha => by rw [List.mem_singleton.1 ha]; exact h)]
theorem inI_out {T : Tb} {z : Int} {k : Nat} (h : lies T z k = false) : inI T z (k + 1) = inI T z k := by
  unfold inI
  rw [List.range_succ, List.filter_append]
  simp [h]
theorem inI_len (T : Tb) (z : Int) (k : Nat) : (inI T z k).length ≤ k := by
  have := List.length_filter_le (lies T z) (List.range k)
  rw [List.length_range] at this
  exact this
theorem ownsRow_low {w : World} {base base' e size n : Nat} {v : Value} {xs : List Value} (h : w.ownsRow base e size v n xs) (hb : base' ≤ base) : w.ownsRow base' e size v n xs := by
  refine ⟨h.1, ?_⟩
  rcases h.2 with hn | ⟨k, cap, cur, hv, hbk, rest⟩
  · exact .inl hn
  · exact .inr ⟨k, cap, cur, hv, by omega, rest⟩
end Sp
end Go.Proofs.YtlgocfgnfdnloaaGreatDoor
end
section
namespace Go.Proofs.YtlgocfgnfdnloaaGreatDoor
set_option maxRecDepth 100000
namespace Sp
open Go.RowKit
open Tw (Tb tcell tval ccell tab_cel tab_cells tab_all idx_cell ln73)
theorem lies_any (x o z : Int) (t : ByteArray) (w : World) : Calls Tryz.prog 226 #[.agg #[.int .i64 x, .int .i64 o, .string t], .int .i64 z] w fun e w' => e = .returned (.bool (decide (¬ t = ⟨#[]⟩) && decide (x = z))) ∧ Since w w' := by
  by_cases te : t = ⟨#[]⟩
  · subst te
    rw [show (decide (¬ (⟨#[]⟩ : ByteArray) = ⟨#[]⟩) && decide (x = z)) = false by simp]
    go_enter Tryz.func226, Tryz.ntmps226
    go_wp2_with fail
    go_ret
    exact ⟨rfl, (Since.refl w).alloc _⟩
  · have ht1 : ¬ t.toList = [] := by
      rw [ByteArray.toList_eq]
      exact fun e => te (ByteArray.ext (Array.toList_inj.1 e))
    have ht2 : t.toList.isEmpty = false := by
      cases hq : t.toList with
      | nil => exact absurd hq ht1
      | cons _ _ => rfl
    by_cases hz : x = z
    · rw [decide_eq_true te, decide_eq_true hz]
      subst hz
      clear te
      go_enter Tryz.func226, Tryz.ntmps226
      go_wp2_with fail
      go_ret
      exact ⟨rfl, (Since.refl w).alloc _⟩
    · rw [decide_eq_true te, decide_eq_false hz]
      have hz2 : Hid ((x == z) = false) := by show (x == z) = false; simp [hz]
      clear te
      go_enter Tryz.func226, Tryz.ntmps226
      go_wp2_with fail
      go_ret
      refine ⟨?_, (Since.refl w).alloc _⟩
      show Ending.returned (.bool (x == z)) = _
      rw [hz2.out]
      rfl
theorem three {T : Tb} {w : World} {b : Nat} (h : Cel w b 73 (tcell T)) (k : Nat) (hk : k < 24) : w.cell? ⟨b, 1 + k * 3, none⟩ = some (.int .i64 (T.zone k)) ∧ w.cell? ⟨b, 1 + k * 3 + 1, none⟩ = some (.int .i64 (T.off k)) ∧ w.cell? ⟨b, 1 + k * 3 + 2, none⟩ = some (.string (T.tag k)) := by
  have q0 := h.cell (1 + k * 3 + 0) (by omega)
  have q1 := h.cell (1 + k * 3 + 1) (by omega)
  have q2 := h.cell (1 + k * 3 + 2) (by omega)
  rw [Tw.tcell_at T k 0 (by omega), show Tw.tpart T k 0 = .int .i64 (T.zone k) from rfl] at q0
  rw [Tw.tcell_at T k 1 (by omega), show Tw.tpart T k 1 = .int .i64 (T.off k) from rfl] at q1
  rw [Tw.tcell_at T k 2 (by omega), show Tw.tpart T k 2 = .string (T.tag k) from rfl] at q2
  exact ⟨q0, q1, q2⟩
set_option maxHeartbeats 4000000 in
theorem in_any (T : Tb) (z : Int) (w : World) : Calls Tryz.prog 161 #[tval T, .int .i64 z] w fun e w' => ∃ x, e = .returned x ∧ w'.ownsRow w.heap.size 3 1 x (inI T z 24).length (vals (inI T z 24)) ∧ Since w w' := by
  have HC : Hid (Cel (w.alloc (.cells (brow 73 (tcell T)).toArray 72)) w.heap.size 73 (tcell T)) := tab_cel T w
  have HS : Hid (Since w (w.alloc (.cells (brow 73 (tcell T)).toArray 72))) := (Since.refl w).alloc _
  have HSZ : Hid ((w.alloc (.cells (brow 73 (tcell T)).toArray 72)).heap.size = w.heap.size + 1) := World.size_alloc _ _
  unfold tval
  generalize (brow 73 (tcell T)).toArray = cs at *
  obtain ⟨i0, hi, hz0, hz1, hz2⟩ := info_parts infoI
  have HI : Hid (Tryz.prog.info? 3 = some i0 ∧ i0.zero = some (.int .i64 0) ∧ i0.size = 1 ∧ i0.bytes = 8) := ⟨hi, hz0, hz1, hz2⟩
  clear hi hz0 hz1 hz2
  go_enter Tryz.func161, Tryz.ntmps161
  go_wp2_with fail
  generalize w.alloc (.cells cs 72) = w0 at *
  go_loopw [7, 5, 6] (fun i x _ wr => ∃ k : Nat, k ≤ 24 ∧ i = .int .i64 k ∧ wr.ownsRow w0.heap.size 3 1 x (inI T z k).length (vals (inI T z k)) ∧ Since w0 wr) (fun i _ _ _ => 24 - (intOf i).toNat)
  case atStart => exact ⟨0, by omega, rfl, World.ownsRow_nil _ _ _ _, Since.refl _⟩
  case round =>
    obtain ⟨k, hk, rfl, hx, hs⟩ := hrel
    have HX : Hid (wr.ownsRow w0.heap.size 3 1 u5 (inI T z k).length (vals (inI T z k))) := hx
    have HSK : Hid (Since w0 wr) := hs
    clear hx hs
    by_cases hlt : k < 24
    · have hlt2 : (k : Int) < 24 := by omega
      obtain ⟨q0, q1, q2⟩ := three (HC.out.since HSK.out) k hlt
      go_wp2_with fail
      clear q0 q1 q2
      refine (lies_any _ _ _ _ _).mono ?_
      rintro e w1 ⟨rfl, h1⟩
      have HX1 : Hid (w1.ownsRow w0.heap.size 3 1 u5 (inI T z k).length (vals (inI T z k))) := ownsRow_since HX.out h1
      have HS1 : Hid (Since w0 w1) := HSK.out.trans h1
      clear h1
      by_cases hl : lies T z k = true
      · rw [show (decide (¬ T.tag k = ⟨#[]⟩) && decide (T.zone k = z)) = true from hl]
        have HE : Hid (inI T z (k + 1) = inI T z k ++ [k]) := inI_in hl
        have hle := inI_len T z k
        clear hl
        go_wp2_with (at_builtin; refine wpList_append_own _ (by rfl) _ _ _ (by rfl) w0.heap.size 3 i0 _ 1 8 Tryz.underlying61 HI.out.1 HI.out.2.1 HI.out.2.2.1 HI.out.2.2.2 (by rfl) (by decide) _ (inI T z k).length (vals (inI T z k)) (by rfl) (World.ownsRow.alloc HX1.out _) ⟨w1.heap.size, 0, none⟩ 1 1 [.int .i64 (k : Int)] (by rfl) (by rfl) (World.news_of_block (heap_alloc_new w1 _)) (by simp [Value.oneCell']) (by unfold maxLen; omega) (by omega) (by have := HS1.out.size; simp; omega) ?_; intro x' w3 hown1 hgrow _)
        have HO1 : Hid (w3.ownsRow w0.heap.size 3 1 x' (inI T z (k + 1)).length (vals (inI T z (k + 1)))) := by
          show World.ownsRow _ _ _ _ _ _ _
          rw [HE.out, List.length_append, show vals (inI T z k ++ [k]) = vals (inI T z k) ++ [.int .i64 (k : Int)] from by simp [vals]]
          exact hown1
        have HG1 : Hid (Since w0 w3) := Below.grown (Since.alloc HS1.out _) hgrow (by have := HS1.out.size; simp; omega) (fun j hj => (HX1.out.lt j hj).1)
        clear hown1 hgrow
        go_roundw
        case rel => exact ⟨k + 1, by omega, by go_num, HO1.out, HG1.out⟩
        case measure => simp [intOf]; omega
      · have hl2 : lies T z k = false := by cases h : lies T z k with | true => exact absurd h hl | false => rfl
        rw [show (decide (¬ T.tag k = ⟨#[]⟩) && decide (T.zone k = z)) = false from hl2]
        have HO : Hid (w1.ownsRow w0.heap.size 3 1 u5 (inI T z (k + 1)).length (vals (inI T z (k + 1)))) := by
          show World.ownsRow _ _ _ _ _ _ _
          rw [inI_out hl2]
          exact HX1.out
        clear hl hl2
        go_wp2_with fail
        go_roundw
        case rel => exact ⟨k + 1, by omega, by go_num, HO.out, HS1.out⟩
        case measure => simp [intOf]; omega
    · have hke : k = 24 := by omega
      subst hke
      go_wp2_with fail
      go_ret
      exact ⟨_, rfl, ownsRow_low HX.out HS.out.size, HS.out.trans HSK.out⟩
end Sp
end Go.Proofs.YtlgocfgnfdnloaaGreatDoor
end
section
namespace Go.Proofs.YtlgocfgnfdnloaaGreatDoor
set_option maxRecDepth 100000
namespace Sp
open Go.RowKit
open Tw (Tb tcell tval ccell tab_cel tab_cells tab_all idx_cell ln73)
theorem make_ints (w : World) : (Instr.makeSlice 61 (.int .i64 8) (.int .i64 8)).run Tryz.prog w = .ok (.slice (some ⟨w.heap.size, 0, none⟩) 8 8) (w.alloc (.cells (madeCells #[Value.int .i64 0] 8) 3)) := by
  obtain ⟨i, hi, hz, hs, hb⟩ := info_parts infoI
  have h := run_makeSlice (P := Tryz.prog) w 61 3 i _ Tryz.underlying61 hi hz .i64 .i64 8 8 (by omega) (by omega) (by rw [hs]; omega) (by rw [hb]; omega) (by omega)
  rw [hs, Nat.mul_one] at h
  simpa [Value.cells] using h
theorem made_int (n j : Nat) (hj : j < n) : (madeCells #[Value.int .i64 0] n)[j]? = some (.int .i64 0) := by
  unfold madeCells
  simp [hj, Nat.mod_one]
def cnt (T : Tb) (k j : Nat) : Value := .int .i64 ((inI T (j : Int) k).length : Int)
theorem cnt_other {T : Tb} {k : Nat} (h : ∀ j : Nat, j < 8 → lies T (j : Int) k = false) (j : Nat) (hj : j < 8) : cnt T k j = cnt T (k + 1) j := by
  unfold cnt
  rw [inI_out (h j hj)]
theorem cnt_hit {T : Tb} {k z : Nat} (ht : ¬ T.tag k = ⟨#[]⟩) (hz : T.zone k = z) (j : Nat) : updv (cnt T k) z (.int .i64 (((inI T (z : Int) k).length : Int) + 1)) j = cnt T (k + 1) j := by
  unfold updv
  by_cases e : j = z
  · subst e
    rw [if_pos rfl]
    unfold cnt
    rw [inI_in (by unfold lies; rw [decide_eq_true ht, decide_eq_true hz]; rfl), List.length_append]
    simp
  · rw [if_neg e]
    unfold cnt
    rw [inI_out (by unfold lies; rw [decide_eq_false (p := T.zone k = (j : Int)) (by omega), Bool.and_false])]
set_option maxHeartbeats 4000000 in
theorem live_any (T : Tb) (w : World) : Calls Tryz.prog 160 #[tval T] w fun e w' => ∃ x, e = .returned x ∧ (∃ b, x = .slice (some ⟨b, 0, none⟩) 8 8 ∧ Cel w' b 8 (cnt T 24)) ∧ Since w w' := by
  have HC : Hid (Cel (w.alloc (.cells (brow 73 (tcell T)).toArray 72)) w.heap.size 73 (tcell T)) := tab_cel T w
  have HS : Hid (Since w (w.alloc (.cells (brow 73 (tcell T)).toArray 72))) := (Since.refl w).alloc _
  have hsz : (w.alloc (.cells (brow 73 (tcell T)).toArray 72)).heap.size = w.heap.size + 1 := World.size_alloc _ _
  unfold tval
  generalize (brow 73 (tcell T)).toArray = cs at *
  have hmk := make_ints (w.alloc (.cells cs 72))
  have HD : Hid (Cel ((w.alloc (.cells cs 72)).alloc (.cells (madeCells #[Value.int .i64 0] 8) 3)) (w.heap.size + 1) 8 (cnt T 0)) := by
    refine Cel.new _ _ _ _ _ (fun j hj => ?_) _ hsz.symm
    rw [show cnt T 0 j = .int .i64 0 from rfl]
    exact made_int 8 j hj
  have HC2 : Hid (Cel ((w.alloc (.cells cs 72)).alloc (.cells (madeCells #[Value.int .i64 0] 8) 3)) w.heap.size 73 (tcell T)) := HC.out.since ((Since.refl _).alloc _)
  have HS2 : Hid (Since w ((w.alloc (.cells cs 72)).alloc (.cells (madeCells #[Value.int .i64 0] 8) 3))) := HS.out.alloc _
  rw [hsz] at hmk
  clear hsz HC HS
  go_enter Tryz.func160, Tryz.ntmps160
  go_wp2_with fail
  clear hmk
  generalize (w.alloc (.cells cs 72)).alloc (.cells (madeCells #[Value.int .i64 0] 8) 3) = w0 at *
  go_loopw [7, 4, 5] (fun i _ _ wr => ∃ k : Nat, k ≤ 24 ∧ i = .int .i64 k ∧ Cel wr (w.heap.size + 1) 8 (cnt T k) ∧ Cel wr w.heap.size 73 (tcell T) ∧ Since w wr) (fun i _ _ _ => 24 - (intOf i).toNat)
  case atStart => exact ⟨0, by omega, rfl, HD.out, HC2.out, HS2.out⟩
  case round =>
    clear HD HC2 HS2
    obtain ⟨k, hk, rfl, hd, hc, hs⟩ := hrel
    have HD : Hid (Cel wr (w.heap.size + 1) 8 (cnt T k)) := hd
    have HC : Hid (Cel wr w.heap.size 73 (tcell T)) := hc
    have HSK : Hid (Since w wr) := hs
    clear hd hc hs
    by_cases hlt : k < 24
    · have hlt2 : (k : Int) < 24 := by omega
      obtain ⟨q0, q1, q2⟩ := three HC.out k hlt
      by_cases hneg : 0 ≤ T.zone k
      · by_cases h8 : T.zone k < 8
        · obtain ⟨z, hz⟩ : ∃ z : Nat, T.zone k = z := ⟨(T.zone k).toNat, by omega⟩
          have hz8 : (z : Int) < 8 := by omega
          have HZ : Hid (T.zone k = z) := hz
          rw [hz] at q0
          clear hz h8 hneg
          go_wp2_with fail
          refine (lies_any _ _ _ _ _).mono ?_
          rintro e w1 ⟨rfl, h1⟩
          have HD1 : Hid (Cel w1 (w.heap.size + 1) 8 (cnt T k)) := HD.out.since h1
          have HC1 : Hid (Cel w1 w.heap.size 73 (tcell T)) := HC.out.since h1
          have HS1 : Hid (Since w w1) := HSK.out.trans h1
          clear h1 q0 q1 q2
          by_cases te : T.tag k = ⟨#[]⟩
          · rw [show (decide (¬ T.tag k = ⟨#[]⟩) && decide ((z : Int) = z)) = false by simp [te]]
            have HD2 : Hid (Cel w1 (w.heap.size + 1) 8 (cnt T (k + 1))) := HD1.out.congr (cnt_other (fun j _ => by unfold lies; rw [decide_eq_false (fun h => h te)]; rfl))
            clear te
            go_wp2_with fail
            go_roundw
            case rel => exact ⟨k + 1, by omega, by go_num, HD2.out, HC1.out, HS1.out⟩
            case measure => simp [intOf]; omega
          · rw [show (decide (¬ T.tag k = ⟨#[]⟩) && decide ((z : Int) = z)) = true by simp [te]]
            have q3 : w1.cell? ⟨w.heap.size + 1, z, none⟩ = some (.int .i64 ((inI T (z : Int) k).length : Int)) := HD1.out.cell z (by omega)
            have q4 := HD1.out.frozen z (by omega)
            have hle := inI_len T (z : Int) k
            have HW : Hid (Cel (w1.setCell ⟨w.heap.size + 1, z, none⟩ (.int .i64 (((inI T (z : Int) k).length : Int) + 1))) (w.heap.size + 1) 8 (cnt T (k + 1)) ∧ Cel (w1.setCell ⟨w.heap.size + 1, z, none⟩ (.int .i64 (((inI T (z : Int) k).length : Int) + 1))) w.heap.size 73 (tcell T) ∧ Since w (w1.setCell ⟨w.heap.size + 1, z, none⟩ (.int .i64 (((inI T (z : Int) k).length : Int) + 1)))) :=
              ⟨(HD1.out.set z (by omega) _).congr (fun j hj => cnt_hit te HZ.out j), HC1.out.other (by show w.heap.size + 1 ≠ w.heap.size; omega) _, HS1.out.setCell (by show w.heap.size ≤ w.heap.size + 1; omega) _⟩
            clear te
            generalize (inI T (z : Int) k).length = nn at *
            go_wp2_with fail
            go_roundw
            case rel => exact ⟨k + 1, by omega, by go_num, HW.out.1, HW.out.2.1, HW.out.2.2⟩
            case measure => simp [intOf]; omega
        · have HD2 : Hid (Cel wr (w.heap.size + 1) 8 (cnt T (k + 1))) := HD.out.congr (cnt_other (fun j hj => by unfold lies; rw [decide_eq_false (p := T.zone k = (j : Int)) (by omega), Bool.and_false]))
          have h8d : decide (T.zone k < 8) = false := by simp; omega
          go_wp2_with fail
          go_roundw
          case rel => exact ⟨k + 1, by omega, by go_num, HD2.out, HC.out, HSK.out⟩
          case measure => simp [intOf]; omega
      · have HD2 : Hid (Cel wr (w.heap.size + 1) 8 (cnt T (k + 1))) := HD.out.congr (cnt_other (fun j hj => by unfold lies; rw [decide_eq_false (p := T.zone k = (j : Int)) (by omega), Bool.and_false]))
        go_wp2_with fail
        go_roundw
        case rel => exact ⟨k + 1, by omega, by go_num, HD2.out, HC.out, HSK.out⟩
        case measure => simp [intOf]; omega
    · have hke : k = 24 := by omega
      subst hke
      go_wp2_with fail
      go_ret
      exact ⟨_, rfl, ⟨_, rfl, HD.out⟩, HSK.out⟩
end Sp
end Go.Proofs.YtlgocfgnfdnloaaGreatDoor
end
