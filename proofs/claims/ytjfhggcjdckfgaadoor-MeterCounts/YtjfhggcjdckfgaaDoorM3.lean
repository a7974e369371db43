/- The law MeterCounts walked. -/
import Derived.Test.YtjfhggcjdckfgaaDoorL0
import Derived.Test.YtjfhggcjdckfgaaDoorM2
import Derived.Test.YtjfhggcjdckfgaaDoorE9
namespace Go.Proofs.YtjfhggcjdckfgaaDoor
set_option linter.unusedSimpArgs false
set_option linter.unusedVariables false
set_option maxRecDepth 100000
namespace Mt
open Go.RowKit Sm

set_option maxHeartbeats 4000000 in
theorem meter_go (hsum : RSum) (w : World) (lv : Value) (nl : Nat) (l : Nat → Int) (s : ByteArray) (u : Int) (hg : Et w) (hT : Tab w)
    (hl : SlA w w.heap.size lv nl (fun j => .int .i64 (l j))) :
    Calls Tryd.prog 8 #[lv, .string s, .int .u8 u] w fun e w' => e = .returned (.bool true) ∧ Since w w' := by
  obtain ⟨la, lc, rfl, hl'⟩ := hl
  have HL : Hid (0 < nl → ∃ k o, la = some ⟨k, o, none⟩ ∧ k < w.heap.size ∧ ∀ j, j < nl → w.cell? ⟨k, o + j, none⟩ = some (.int .i64 (l j))) := hl'
  have HG : Hid (Et w) := hg
  clear hl' hg
  go_enter Tryd.func8, Tryd.ntmps8
  by_cases h60 : 60 < nl
  · have h60' : (60 : Int) < nl := by omega
    go_wp2_with fail
    go_ret
    exact ⟨rfl, Since.refl _⟩
  have h60' : ¬ (60 : Int) < nl := by omega
  go_wp2_with fail
  refine (lawLong_any _ _).mono ?_
  rintro e w' ⟨rfl, rfl⟩
  by_cases hs60 : 60 < s.size
  · rw [decide_eq_true hs60]
    go_wp2_with fail
    go_ret
    exact ⟨rfl, Since.refl _⟩
  rw [decide_eq_false hs60]
  go_wp2_with fail
  go_loopw [9, 8] (fun i a wr => ∃ (k : Nat) (c : Int), k ≤ nl ∧ i = .int .i64 k ∧ a = .int .i64 c ∧ wr.cell? ⟨w'.heap.size, 0, none⟩ = some (.int .i64 c) ∧ wr.frozen? ⟨w'.heap.size, 0, none⟩ = false ∧ Since w' wr) (fun i _ _ => nl - (intOf i).toNat)
  case atStart => exact ⟨0, 0, by omega, rfl, rfl, by simp, by simp, (Since.refl _).alloc _⟩
  case round =>
    obtain ⟨k, c, hk, rfl, rfl, hc, hf, hS⟩ := hrel
    have HS : Hid (Since w' wr) := hS
    clear hS
    by_cases hlt : k < nl
    · have hlt2 : (k : Int) < nl := by omega
      obtain ⟨lk, lo, rfl, hlkb, hlc⟩ := HL.out (by omega)
      have q1 := (HS.out.cell (p := ⟨lk, lo + k, none⟩) hlkb).trans (hlc k hlt)
      have LKB : Hid (lk < w'.heap.size) := hlkb
      clear hlc hlkb
      by_cases hup : c < l k
      · have hup2 : ¬ l k ≤ c := by omega
        go_wp2_with fail
        go_quiet (fail)
        go_wp2_with fail
        refine (raise_up _ c (l k) _ (by simpa using hc) (by simpa using hf) (by omega)).mono ?_
        rintro e w2 ⟨rfl, hw2⟩
        have hc2 : w2.cell? ⟨w'.heap.size, 0, none⟩ = some (.int .i64 (l k)) := by rw [hw2]; exact World.cell?_setCell_same (u := .int .i64 c) _ _ _ (by simpa using hc)
        have hf2 : w2.frozen? ⟨w'.heap.size, 0, none⟩ = false := by rw [hw2]; simpa using hf
        have HS2 : Hid (Since w' w2) := by rw [hw2]; exact (HS.out.drewN _).setCell (Nat.le_refl _) _
        clear hw2 hc hf q1
        go_wp2_with fail
        refine (bare_nil _).mono ?_
        rintro e w3 ⟨rfl, rfl⟩
        go_wp2_with fail
        refine (get_any _ (l k) _ hc2).mono ?_
        rintro e w4 ⟨rfl, rfl⟩
        go_wp2_with fail
        go_roundw
        case rel => exact ⟨k + 1, l k, by omega, by go_num, rfl, hc2, hf2, HS2.out⟩
        case measure => simp [intOf]; omega
      · have hup2 : l k ≤ c := by omega
        go_wp2_with fail
        refine (raise_not _ c (l k) _ hc (by omega)).mono ?_
        rintro e w2 ⟨rfl, rfl⟩
        go_wp2_with fail
        refine (bare_hit 10 _ (HG.out.since HS.out)).mono ?_
        rintro e w3 ⟨rfl, h3⟩
        have hc3 : w3.cell? ⟨w'.heap.size, 0, none⟩ = some (.int .i64 c) := (h3.cell (World.block_lt_of_cell? w2 _ hc)).trans hc
        have hf3 : w3.frozen? ⟨w'.heap.size, 0, none⟩ = false := (h3.frozen (World.block_lt_of_cell? w2 _ hc)).trans hf
        have HS3 : Hid (Since w' w3) := HS.out.trans h3
        clear h3 hc hf q1
        go_wp2_with fail
        refine (get_any _ c _ hc3).mono ?_
        rintro e w4 ⟨rfl, rfl⟩
        go_wp2_with fail
        go_roundw
        case rel => exact ⟨k + 1, c, by omega, by go_num, rfl, hc3, hf3, HS3.out⟩
        case measure => simp [intOf]; omega
    · have hke : k = nl := by omega
      subst hke
      clear hc hf
      go_wp2_with fail
      refine (rnew_any _).mono ?_
      rintro e w2 ⟨b, rfl, _, hh, hk2, h2⟩
      have HS2 : Hid (Since w' w2) := HS.out.trans h2
      clear h2
      go_wp2_with fail
      by_cases h16 : s.size = 16
      · by_cases hb : u = 98 ∨ u = 116
        · obtain ⟨word, hu⟩ : ∃ word, u = 98 ∧ word = wBlocks ∨ u = 116 ∧ word = wTables := by
            rcases hb with h | h
            · exact ⟨wBlocks, Or.inl ⟨h, rfl⟩⟩
            · exact ⟨wTables, Or.inr ⟨h, rfl⟩⟩
          refine (rkey_hit hsum b s u word _ h16 hu hh hk2).mono ?_
          rintro e w3 ⟨rfl, h3⟩
          have HS3 : Hid (Since w' w3) := HS2.out.trans h3
          clear h3 hb
          have HU : Hid (u = 98 ∧ word = wBlocks ∨ u = 116 ∧ word = wTables) := hu
          clear hu
          generalize hKe : keyOf s word = K1
          have HK : Hid (keyOf s word = K1) := hKe
          clear hKe
          go_wp2_with fail
          refine (key_hit s u word _ h16 HU.out (hT.since HS3.out)).mono ?_
          rintro e w4 ⟨rfl, h4⟩
          rw [HK.out]
          have HS4 : Hid (Since w' w4) := HS3.out.trans h4
          clear h4
          go_wp2_with fail
          refine (bare_nil _).mono ?_
          rintro e w5 ⟨rfl, rfl⟩
          go_wp2_with fail
          go_ret
          exact ⟨rfl, HS4.out⟩
        · have hu1 : u ≠ 98 := fun h => hb (Or.inl h)
          have hu2 : u ≠ 116 := fun h => hb (Or.inr h)
          refine (rkey_none b s u _ h16 hu1 hu2).mono ?_
          rintro e w3 ⟨rfl, rfl⟩
          go_wp2_with fail
          refine (key_none s u _ h16 hu1 hu2).mono ?_
          rintro e w4 ⟨rfl, h4⟩
          have HS4 : Hid (Since w' w4) := HS2.out.trans h4
          clear h4
          go_wp2_with fail
          refine (bare_hit 8 _ (HG.out.since HS4.out)).mono ?_
          rintro e w5 ⟨rfl, h5⟩
          have HS5 : Hid (Since w' w5) := HS4.out.trans h5
          clear h5
          go_wp2_with fail
          go_ret
          exact ⟨rfl, HS5.out⟩
      · refine (rkey_arg b s u _ h16).mono ?_
        rintro e w3 ⟨rfl, rfl⟩
        go_wp2_with fail
        refine (key_arg s u _ h16).mono ?_
        rintro e w4 ⟨rfl, rfl⟩
        go_wp2_with fail
        refine (bare_hit 1 _ (HG.out.since HS2.out)).mono ?_
        rintro e w5 ⟨rfl, h5⟩
        have HS5 : Hid (Since w' w5) := HS2.out.trans h5
        clear h5
        go_wp2_with fail
        go_ret
        exact ⟨rfl, HS5.out⟩
end Mt
end Go.Proofs.YtjfhggcjdckfgaaDoor
