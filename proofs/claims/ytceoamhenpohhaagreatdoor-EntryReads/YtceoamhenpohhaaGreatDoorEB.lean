/- Package entry: letters, names, how many cells. -/
import Derived.Test.YtceoamhenpohhaaGreatDoorV0
import Derived.Test.YtceoamhenpohhaaGreatDoorEN
import Derived.Deep.QuietTactic
import Derived.BigQuiet
import Derived.BigRegion
import Derived.Deep.RegionHeld3
import Derived.Deep.DeepCutAuto
namespace Go.Proofs.YtceoamhenpohhaaGreatDoor
set_option linter.unusedSimpArgs false
set_option linter.unusedVariables false
set_option maxRecDepth 100000
namespace En
open Go.RowKit
/-- v is a list of these numbers -/
def Ints (w : World) (v : Value) (cs : List Int) : Prop := ∃ a c, v = .slice a cs.length c ∧ cs.length ≤ c ∧ (0 < cs.length → ∃ k o, a = some ⟨k, o, none⟩ ∧ k < w.heap.size ∧ ∀ j x, cs[j]? = some x → w.cell? ⟨k, o + j, none⟩ = some (.int .i64 x))
theorem Ints.since {w w' : World} {v : Value} {cs : List Int} (h : Ints w v cs) (hs : Since w w') : Ints w' v cs := by
  obtain ⟨a, c, hv, hc, h⟩ := h
  refine ⟨a, c, hv, hc, fun hn => ?_⟩
  obtain ⟨k, o, ha, hk, hc⟩ := h hn
  exact ⟨k, o, ha, Nat.lt_of_lt_of_le hk hs.size, fun j x hj => (hs.cell (p := ⟨k, o + j, none⟩) hk).trans (hc j x hj)⟩
/-- a file as a value -/
def fval (f : Fi) (cv : Value) : Value := .agg #[.string f.nm, .int .i64 f.sz, cv]
/-- v is a list of these files -/
def Fls (w : World) (v : Value) (l : List Fi) : Prop := ∃ a c, v = .slice a l.length c ∧ l.length ≤ c ∧ (0 < l.length → ∃ k o, a = some ⟨k, o, none⟩ ∧ k < w.heap.size ∧ ∀ j f, l[j]? = some f → ∃ cv, Ints w cv f.cs ∧ w.cell? ⟨k, o + j * 3, none⟩ = some (.string f.nm) ∧ w.cell? ⟨k, o + j * 3 + 1, none⟩ = some (.int .i64 f.sz) ∧ w.cell? ⟨k, o + j * 3 + 2, none⟩ = some cv)
theorem Fls.since {w w' : World} {v : Value} {l : List Fi} (h : Fls w v l) (hs : Since w w') : Fls w' v l := by
  obtain ⟨a, c, hv, hc, h⟩ := h
  refine ⟨a, c, hv, hc, fun hn => ?_⟩
  obtain ⟨k, o, ha, hk, hc⟩ := h hn
  refine ⟨k, o, ha, Nat.lt_of_lt_of_le hk hs.size, fun j f hj => ?_⟩
  obtain ⟨cv, h1, h2, h3, h4⟩ := hc j f hj
  exact ⟨cv, h1.since hs, (hs.cell (p := ⟨k, o + j * 3, none⟩) hk).trans h2, (hs.cell (p := ⟨k, o + j * 3 + 1, none⟩) hk).trans h3, (hs.cell (p := ⟨k, o + j * 3 + 2, none⟩) hk).trans h4⟩
theorem letter_any (b : UInt8) (w : World) : Calls Tryz.prog 31 #[.int .u8 (b.toNat : Int)] w fun e w' => e = .returned (.bool (isLet b)) ∧ w' = w := by
  unfold isLet
  by_cases h : 97 ≤ b.toNat
  · go_enter Tryz.func31, Tryz.ntmps31
    go_wp2_with fail
    go_ret
    exact ⟨by simp [h]; omega, rfl⟩
  · go_enter Tryz.func31, Tryz.ntmps31
    go_wp2_with fail
    go_ret
    exact ⟨by simp [h], rfl⟩
theorem digit_any (b : UInt8) (w : World) : Calls Tryz.prog 32 #[.int .u8 (b.toNat : Int)] w fun e w' => e = .returned (.bool (isDig b)) ∧ w' = w := by
  unfold isDig
  by_cases h : 48 ≤ b.toNat
  · go_enter Tryz.func32, Tryz.ntmps32
    go_wp2_with fail
    go_ret
    exact ⟨by simp [h]; omega, rfl⟩
  · go_enter Tryz.func32, Tryz.ntmps32
    go_wp2_with fail
    go_ret
    exact ⟨by simp [h], rfl⟩
theorem fileCell_any (k : Int) (w : World) : Calls Tryz.prog 33 #[.int .i64 k] w fun e w' => e = .returned (.bool (cellB k)) ∧ w' = w := by
  unfold cellB
  by_cases h : 3 ≤ k
  · go_enter Tryz.func33, Tryz.ntmps33
    go_wp2_with fail
    go_ret
    exact ⟨by simp [h], rfl⟩
  · go_enter Tryz.func33, Tryz.ntmps33
    go_wp2_with fail
    go_ret
    exact ⟨by simp [h]; omega, rfl⟩
theorem need_any (n : Int) (h : -9223372036854775808 ≤ n ∧ n ≤ 9223372036854775807) (w : World) : Calls Tryz.prog 12 #[.int .i64 n] w fun e w' => e = .returned (.int .i64 (need n)) ∧ w' = w := by
  unfold need
  by_cases h0 : n ≤ 0
  · rw [if_pos h0]
    go_enter Tryz.func12, Tryz.ntmps12
    go_wp2_with fail
    go_ret
    exact ⟨rfl, rfl⟩
  · rw [if_neg h0]
    go_enter Tryz.func12, Tryz.ntmps12
    go_wp2_with fail
    go_ret
    exact ⟨rfl, rfl⟩
theorem nameB_iff (s : ByteArray) : nameB s.data.toList = true ↔ ∃ (h0 : 0 < s.size), s.size ≤ 10 ∧ isLet s[0] = true ∧ ∀ (i : Nat) (hi : i < s.size), (isLet s[i] || isDig s[i]) = true := by
  have key : ∀ l : List UInt8, nameB l = true ↔ ∃ (h0 : 0 < l.length), l.length ≤ 10 ∧ isLet l[0] = true ∧ ∀ (i : Nat) (hi : i < l.length), (isLet l[i] || isDig l[i]) = true := by
    intro l
    cases l with
    | nil => simp [nameB]
    | cons c r =>
      simp only [nameB, Bool.and_eq_true, decide_eq_true_eq, List.all_eq_true]
      constructor
      · rintro ⟨⟨h1, h2⟩, h3⟩
        refine ⟨by simp, by simp; omega, h2, fun i hi => ?_⟩
        cases i with
        | zero => simp [h2]
        | succ i => exact h3 _ (List.getElem_mem (l := r) (by simpa using hi))
      · rintro ⟨h0, h1, h2, h3⟩
        refine ⟨⟨by simp at h1; omega, h2⟩, fun b hb => ?_⟩
        obtain ⟨i, hi, rfl⟩ := List.getElem_of_mem hb
        exact h3 (i + 1) (by simp; omega)
  have e := key s.data.toList
  have e0 : s.data.toList.length = s.size := by rw [Array.length_toList]; rfl
  have g : ∀ (i : Nat) (h : i < s.size), s.data.toList[i]'(by omega) = s[i] := fun i h => by rw [Array.getElem_toList]; rfl
  rw [e]
  constructor
  · rintro ⟨h0, h1, h2, h3⟩
    exact ⟨by omega, by omega, by rw [← g 0 (by omega)]; exact h2, fun i hi => by rw [← g i hi]; exact h3 i (by omega)⟩
  · rintro ⟨h0, h1, h2, h3⟩
    exact ⟨by omega, by omega, by rw [g 0 h0]; exact h2, fun i hi => by rw [g i (by omega)]; exact h3 i (by omega)⟩
set_option maxHeartbeats 1000000 in
theorem name_any (s : ByteArray) (w : World) : Calls Tryz.prog 10 #[.string s] w fun e w' => e = .returned (.bool (nameB s.data.toList)) ∧ w' = w := by
  have HN : Hid (nameB s.data.toList = true ↔ ∃ (h0 : 0 < s.size), s.size ≤ 10 ∧ isLet s[0] = true ∧ ∀ (i : Nat) (hi : i < s.size), (isLet s[i] || isDig s[i]) = true) := nameB_iff s
  have HF : ∀ {p : Prop}, ¬ p → (nameB s.data.toList = true → p) → nameB s.data.toList = false := fun h1 h2 => by
    cases h : nameB s.data.toList with
    | true => exact absurd (h2 h) h1
    | false => rfl
  by_cases h0 : s.size = 0
  · have hb : nameB s.data.toList = false := HF (p := 0 < s.size) (by omega) (fun h => by obtain ⟨a, _⟩ := HN.out.1 h; exact a)
    rw [hb]
    have hd : (((s.size : Nat) : Int) == 0) = true := by rw [h0]; rfl
    clear h0 hb HF
    go_enter Tryz.func10, Tryz.ntmps10
    go_wp2_with fail
    go_ret
    exact ⟨rfl, rfl⟩
  · have hd0 : (((s.size : Nat) : Int) == 0) = false := beq_false_of_ne (by omega)
    by_cases h1 : 10 < s.size
    · have hb : nameB s.data.toList = false := HF (p := s.size ≤ 10) (by omega) (fun h => by obtain ⟨_, a, _⟩ := HN.out.1 h; exact a)
      rw [hb]
      have hd : decide ((10 : Int) < (s.size : Nat)) = true := decide_eq_true (by omega)
      clear hb HF
      go_enter Tryz.func10, Tryz.ntmps10
      go_wp2_with fail
      go_ret
      exact ⟨rfl, rfl⟩
    · have hd1 : decide ((10 : Int) < (s.size : Nat)) = false := decide_eq_false (by omega)
      have hlt : 0 < s.size := by omega
      have hl0 := letter_any s[0]
      by_cases hL : isLet s[0] = true
      · rw [hL] at hl0
        go_enter Tryz.func10, Tryz.ntmps10
        go_wp2_with fail
        refine (hl0 _).mono ?_
        rintro e w1 ⟨rfl, hw⟩
        rw [hw]
        clear hl0 hw w1
        go_wp2_with fail
        go_loopw [20, 3] (fun i _ wr => ∃ k : Nat, k ≤ s.size ∧ i = .int .i64 k ∧ (∀ (j : Nat) (hj : j < s.size), j < k → (isLet s[j] || isDig s[j]) = true) ∧ wr = w) (fun i _ _ => s.size - (intOf i).toNat)
        case atStart => exact ⟨0, by omega, rfl, fun j _ hj => by omega, rfl⟩
        case round =>
          obtain ⟨k, hk, rfl, ha, rfl⟩ := hrel
          have HA : Hid (∀ (j : Nat) (hj : j < s.size), j < k → (isLet s[j] || isDig s[j]) = true) := ha
          clear ha
          by_cases hlt : k < s.size
          · have hlt2 : (k : Int) < (s.size : Nat) := by omega
            have hlk := letter_any s[k]
            have hdk := digit_any s[k]
            by_cases h1 : isLet s[k] = true
            · have HA2 : Hid (∀ (j : Nat) (hj : j < s.size), j < k + 1 → (isLet s[j] || isDig s[j]) = true) := fun j hj hjk => by
                by_cases e : j = k
                · subst e; rw [h1]; rfl
                · exact HA.out j hj (by omega)
              rw [h1] at hlk
              clear hdk
              go_wp2_with (go_at_call 31; refine (hlk _).mono ?_; rintro e w' ⟨rfl, rfl⟩)
              go_roundw
              case rel => exact ⟨k + 1, by omega, by go_num, HA2.out, trivial⟩
              case measure => simp [intOf]; omega
            · have h1' : isLet s[k] = false := by cases h : isLet s[k] <;> simp_all
              rw [h1'] at hlk
              by_cases h2 : isDig s[k] = true
              · have HA2 : Hid (∀ (j : Nat) (hj : j < s.size), j < k + 1 → (isLet s[j] || isDig s[j]) = true) := fun j hj hjk => by
                  by_cases e : j = k
                  · subst e; rw [h2, Bool.or_true]
                  · exact HA.out j hj (by omega)
                rw [h2] at hdk
                clear h1 h1' h2
                go_wp2_with (first | (go_at_call 31; refine (hlk _).mono ?_; rintro e w' ⟨rfl, rfl⟩) | (go_at_call 32; refine (hdk _).mono ?_; rintro e w' ⟨rfl, rfl⟩))
                go_roundw
                case rel => exact ⟨k + 1, by omega, by go_num, HA2.out, trivial⟩
                case measure => simp [intOf]; omega
              · have h2' : isDig s[k] = false := by cases h : isDig s[k] <;> simp_all
                have HB : Hid (nameB s.data.toList = false) := HF (p := (isLet s[k] || isDig s[k]) = true) (by rw [h1', h2']; decide) (fun h => by obtain ⟨_, _, _, a⟩ := HN.out.1 h; exact a k hlt)
                rw [h2'] at hdk
                clear h1 h1' h2 h2'
                go_wp2_with (first | (go_at_call 31; refine (hlk _).mono ?_; rintro e w' ⟨rfl, rfl⟩) | (go_at_call 32; refine (hdk _).mono ?_; rintro e w' ⟨rfl, rfl⟩))
                go_ret
                exact ⟨by rw [HB.out]; rfl, rfl⟩
          · have hke : k = s.size := by omega
            have HB : Hid (nameB s.data.toList = true) := HN.out.2 ⟨by omega, by omega, hL, fun i hi => HA.out i hi (by omega)⟩
            subst hke
            go_wp2_with fail
            go_ret
            exact ⟨by rw [HB.out]; rfl, rfl⟩
      · have hL' : isLet s[0] = false := by cases h : isLet s[0] <;> simp_all
        have hb : nameB s.data.toList = false := HF (p := isLet s[0] = true) hL (fun h => by obtain ⟨_, _, a, _⟩ := HN.out.1 h; exact a)
        rw [hb]
        rw [hL'] at hl0
        clear hb HF hL hL'
        go_enter Tryz.func10, Tryz.ntmps10
        go_wp2_with (go_at_call 31; refine (hl0 _).mono ?_; rintro e w' ⟨rfl, rfl⟩)
        go_ret
        exact ⟨rfl, rfl⟩
theorem filled_any (f : Fi) (cv : Value) (h1 : -9223372036854775808 ≤ f.sz ∧ f.sz ≤ 9223372036854775807) (w : World) (hc : ∃ a c, cv = .slice a f.cs.length c) : Calls Tryz.prog 28 #[fval f cv] w fun e w' => e = .returned (.bool (filled f)) ∧ Since w w' := by
  obtain ⟨a, c, rfl⟩ := hc
  have hn := need_any f.sz h1
  unfold fval filled
  by_cases h0 : 0 ≤ f.sz
  · have hd0 : decide (0 ≤ f.sz) = true := decide_eq_true h0
    by_cases h2 : f.sz ≤ 1920
    · have hd2 : decide (f.sz ≤ 1920) = true := decide_eq_true h2
      go_enter Tryz.func28, Tryz.ntmps28
      go_upto_region 1 with fail
      go_quiet ((go_at_call 12; exact Calls.quiet_of_same (hn _)))
      go_wp2_with fail
      go_ret
      refine ⟨?_, ((Since.refl w).alloc _).drewN _⟩
      rw [hd0, hd2]
      show Ending.returned (.bool (((f.cs.length : Nat) : Int) == need f.sz)) = _
      by_cases he : (f.cs.length : Int) = need f.sz
      · rw [decide_eq_true he, beq_iff_eq.2 he]; rfl
      · rw [decide_eq_false he, beq_false_of_ne he]; rfl
    · have hd2 : decide (f.sz ≤ 1920) = false := decide_eq_false h2
      go_enter Tryz.func28, Tryz.ntmps28
      go_upto_region 1 with fail
      go_quiet (fail)
      go_wp2_with fail
      go_ret
      refine ⟨?_, ((Since.refl w).alloc _).drewN _⟩
      rfl
  · have hd0 : decide (0 ≤ f.sz) = false := decide_eq_false h0
    go_enter Tryz.func28, Tryz.ntmps28
    go_upto_region 1 with fail
    go_quiet (fail)
    go_wp2_with fail
    go_ret
    refine ⟨?_, ((Since.refl w).alloc _).drewN _⟩
    rfl
end En
end Go.Proofs.YtceoamhenpohhaaGreatDoor
