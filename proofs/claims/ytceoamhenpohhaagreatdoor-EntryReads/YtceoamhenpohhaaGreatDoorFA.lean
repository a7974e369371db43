/- The reference's files: names, how many cells, sets. -/
import Derived.Test.YtceoamhenpohhaaGreatDoorEK
namespace Go.Proofs.YtceoamhenpohhaaGreatDoor
set_option linter.unusedSimpArgs false
set_option linter.unusedVariables false
set_option maxRecDepth 100000
namespace En
open Go.RowKit
theorem Ints.form' {w : World} {v : Value} {l : List Int} (h : Ints w v l) : ∃ a c, v = .slice a l.length c := by
  obtain ⟨a, c, h, _⟩ := h
  exact ⟨a, c, h⟩
theorem Fls.form {w : World} {v : Value} {l : List Fi} (h : Fls w v l) : ∃ a c, v = .slice a l.length c ∧ l.length ≤ c := by
  obtain ⟨a, c, h, h2, _⟩ := h
  exact ⟨a, c, h, h2⟩
theorem rin_any (n lo hi : Int) (w : World) : Calls Tryz.prog 30 #[.int .i64 n, .int .i64 lo, .int .i64 hi] w fun e w' => e = .returned (.bool (decide (lo ≤ n) && decide (n ≤ hi))) ∧ w' = w := by
  by_cases h : lo ≤ n
  · go_enter Tryz.func30, Tryz.ntmps30
    go_wp2_with fail
    go_ret
    exact ⟨by simp [h], rfl⟩
  · go_enter Tryz.func30, Tryz.ntmps30
    go_wp2_with fail
    go_ret
    exact ⟨by simp [h]; intro h2; omega, rfl⟩
theorem rneed_any (n : Int) (h : -9223372036854775808 ≤ n ∧ n ≤ 9223372036854775807) (w : World) : Calls Tryz.prog 13 #[.int .i64 n] w fun e w' => e = .returned (.int .i64 (need n)) ∧ w' = w := by
  unfold need
  by_cases h0 : n ≤ 0
  · rw [if_pos h0]
    go_enter Tryz.func13, Tryz.ntmps13
    go_wp2_with fail
    go_ret
    exact ⟨rfl, rfl⟩
  · rw [if_neg h0]
    go_enter Tryz.func13, Tryz.ntmps13
    go_wp2_with fail
    go_ret
    exact ⟨rfl, rfl⟩
/-- a byte that the reference lets by at place i -/
def okAt (i : Nat) (b : UInt8) : Bool := isLet b || (decide (i ≠ 0) && isDig b)
theorem nameB_ok (s : ByteArray) (h : ∀ (i : Nat) (hi : i < s.size), okAt i s[i] = true) : nameB s.data.toList = (decide ((1 : Int) ≤ (s.size : Nat)) && decide (((s.size : Nat) : Int) ≤ 10)) := by
  by_cases h0 : 1 ≤ s.size ∧ s.size ≤ 10
  · have h1 : nameB s.data.toList = true := (nameB_iff s).2 ⟨by omega, by omega, by simpa [okAt] using h 0 (by omega), fun i hi => by
      have := h i hi
      unfold okAt at this
      cases hl : isLet s[i] with
      | true => rfl
      | false =>
        rw [hl, Bool.false_or, Bool.and_eq_true] at this
        rw [this.2]
        rfl⟩
    rw [h1, decide_eq_true (by omega), decide_eq_true (by omega)]; rfl
  · have h1 : nameB s.data.toList = false := by
      cases hq : nameB s.data.toList with
      | false => rfl
      | true =>
        obtain ⟨a, b, _⟩ := (nameB_iff s).1 hq
        omega
    rw [h1]
    by_cases h2 : 1 ≤ s.size
    · rw [decide_eq_true (show (1 : Int) ≤ (s.size : Nat) by omega), decide_eq_false (by omega)]; rfl
    · rw [decide_eq_false (show ¬ (1 : Int) ≤ (s.size : Nat) by omega)]; rfl
theorem nameB_bad (s : ByteArray) (i : Nat) (hi : i < s.size) (h : okAt i s[i] = false) : nameB s.data.toList = false := by
  cases hq : nameB s.data.toList with
  | false => rfl
  | true =>
    obtain ⟨a, b, c, d⟩ := (nameB_iff s).1 hq
    unfold okAt at h
    have h1 := d i hi
    by_cases h0 : i = 0
    · subst h0
      rw [c] at h
      cases h
    · rw [decide_eq_true h0, Bool.true_and, h1] at h
      cases h
set_option maxHeartbeats 2000000 in
theorem rname_any (s : ByteArray) (hs : s.size ≤ 100000) (w : World) : Calls Tryz.prog 11 #[.string s] w fun e w' => e = .returned (.bool (nameB s.data.toList)) ∧ w' = w := by
  go_enter Tryz.func11, Tryz.ntmps11
  go_wp2_with fail
  go_loopw [7, 3, 4] (fun i _ _ wr => ∃ k : Nat, k ≤ s.size ∧ i = .int .i64 k ∧ (∀ (j : Nat) (hj : j < s.size), j < k → okAt j s[j] = true) ∧ wr = w) (fun i _ _ _ => s.size - (intOf i).toNat)
  case atStart => exact ⟨0, by omega, rfl, fun j _ hj => by omega, rfl⟩
  case round =>
    obtain ⟨k, hk, rfl, ha, rfl⟩ := hrel
    have HA : Hid (∀ (j : Nat) (hj : j < s.size), j < k → okAt j s[j] = true) := ha
    clear ha
    by_cases hlt : k < s.size
    · have hlt2 : (k : Int) < (s.size : Nat) := by omega
      have HBAD : Hid (okAt k s[k] = false → nameB s.data.toList = false) := nameB_bad s k hlt
      have HNX : Hid (okAt k s[k] = true → ∀ (j : Nat) (hj : j < s.size), j < k + 1 → okAt j s[j] = true) := fun h j hj hjk => by
        by_cases e : j = k
        · subst e; exact h
        · exact HA.out j hj (by omega)
      have HOK : Hid (okAt k s[k] = (isLet s[k] || (decide (k ≠ 0) && isDig s[k]))) := rfl
      generalize hb : s[k] = b at *
      by_cases h1 : 97 ≤ b.toNat
      · have h1I : (97 : Int) ≤ (b.toNat : Int) := by omega
        by_cases h2 : b.toNat ≤ 122
        · have h2I : (b.toNat : Int) ≤ 122 := by omega
          have hok : okAt k b = true := by rw [HOK.out]; simp [isLet, h1, h2]
          have HN2 := HNX.out hok
          have HN3 : Hid (∀ (j : Nat) (hj : j < s.size), j < k + 1 → okAt j s[j] = true) := HN2
          clear HN2 hok
          go_wp2_with fail
          go_roundw
          case rel => exact ⟨k + 1, by omega, by go_num, HN3.out, trivial⟩
          case measure => simp [intOf]; omega
        · have h2I : ¬ (b.toNat : Int) ≤ 122 := by omega
          by_cases hk0 : k = 0
          · subst hk0
            have HF : Hid (nameB s.data.toList = false) := HBAD.out (by rw [HOK.out]; simp [isLet, h2])
            go_wp2_with fail
            go_ret
            exact ⟨by rw [HF.out]; rfl, rfl⟩
          · have hk0I : ((k : Int) == 0) = false := beq_false_of_ne (by omega)
            have h3I : (48 : Int) ≤ (b.toNat : Int) := by omega
            have h4I : ¬ (b.toNat : Int) ≤ 57 := by omega
            have h4 : ¬ b.toNat ≤ 57 := by omega
            have HF : Hid (nameB s.data.toList = false) := HBAD.out (by rw [HOK.out]; simp [isLet, isDig, h2, h4])
            go_wp2_with fail
            go_ret
            exact ⟨by rw [HF.out]; rfl, rfl⟩
      · have h1I : ¬ (97 : Int) ≤ (b.toNat : Int) := by omega
        by_cases hk0 : k = 0
        · subst hk0
          have HF : Hid (nameB s.data.toList = false) := HBAD.out (by rw [HOK.out]; simp [isLet, h1])
          go_wp2_with fail
          go_ret
          exact ⟨by rw [HF.out]; rfl, rfl⟩
        · have hk0I : ((k : Int) == 0) = false := beq_false_of_ne (by omega)
          by_cases h3 : 48 ≤ b.toNat
          · have h3I : (48 : Int) ≤ (b.toNat : Int) := by omega
            by_cases h4 : b.toNat ≤ 57
            · have h4I : (b.toNat : Int) ≤ 57 := by omega
              have HN3 : Hid (∀ (j : Nat) (hj : j < s.size), j < k + 1 → okAt j s[j] = true) := HNX.out (by rw [HOK.out]; simp [isLet, isDig, h1, h3, h4, hk0])
              go_wp2_with fail
              go_roundw
              case rel => exact ⟨k + 1, by omega, by go_num, HN3.out, trivial⟩
              case measure => simp [intOf]; omega
            · have h4I : ¬ (b.toNat : Int) ≤ 57 := by omega
              have HF : Hid (nameB s.data.toList = false) := HBAD.out (by rw [HOK.out]; simp [isLet, isDig, h1, h4])
              go_wp2_with fail
              go_ret
              exact ⟨by rw [HF.out]; rfl, rfl⟩
          · have h3I : ¬ (48 : Int) ≤ (b.toNat : Int) := by omega
            have HF : Hid (nameB s.data.toList = false) := HBAD.out (by rw [HOK.out]; simp [isLet, isDig, h1, h3])
            go_wp2_with fail
            go_ret
            exact ⟨by rw [HF.out]; rfl, rfl⟩
    · have hke : k = s.size := by omega
      have HB : Hid (nameB s.data.toList = (decide ((1 : Int) ≤ (s.size : Nat)) && decide (((s.size : Nat) : Int) ≤ 10))) := nameB_ok s (fun i hi => HA.out i hi (by omega))
      subst hke
      go_wp2_with fail
      refine (rin_any _ _ _ _).mono ?_
      rintro e w1 ⟨rfl, hw⟩
      subst hw
      go_wp2_with fail
      go_ret
      exact ⟨by rw [HB.out]; rfl, rfl⟩
theorem mb_lookup (w : World) (r : Nat) (L : List Int) (p : Int) (hb : IsSet w r (.bool true) L) :
    (Instr.lookup 61 (.map (some r)) (.int .i64 p) false).run Tryz.prog w = .ok (.bool (decide (p ∈ L))) w := by
  unfold IsSet at hb
  obtain ⟨a, h1, h2, h4⟩ := ies_find (.bool true) p L 0 0
  have hc : ∀ em, (Instr.checkKey em 10000 3 (.int .i64 p)).run Tryz.prog w = .ok () w := fun em => MapKept.run_checkKey Tryz.underlying3 (by simp [MapKept.IsKey]) em 9999
  have hz : (zeroValue 4).run Tryz.prog w = .ok (.bool false) w := Tryz.zeroValue4 w
  by_cases h : p ∈ L
  · obtain ⟨n, rfl, _⟩ := h2 h
    simp [Instr.lookup, run_underlying Tryz.underlying61, MapKept.run_getObj_map hb, hc, MapKept.run_findKey Tryz.underlying3 h1, h, hz, Result.andThen]
  · obtain rfl := h4 h
    simp [Instr.lookup, run_underlying Tryz.underlying61, MapKept.run_getObj_map hb, hc, MapKept.run_findKey Tryz.underlying3 h1, h, hz, Result.andThen]
theorem ies_get (v : Value) : ∀ (L : List Int) (i n : Nat) (p : Int), L[n]? = some p → (ies v L i)[n]? = some { key := .int .i64 p, val := v, born := i + n }
  | [], i, n, p, h => by simp at h
  | q :: r, i, 0, p, h => by simp at h; subst h; rfl
  | q :: r, i, n + 1, p, h => by
    have := ies_get v r (i + 1) n p (by simpa using h)
    simp only [ies, List.getElem?_cons_succ, this]
    congr 2
    omega
theorem mb_update (w : World) (r : Nat) (L : List Int) (p : Int) (hb : IsSet w r (.bool true) L) :
    (Instr.mapUpdate 61 (.map (some r)) (.int .i64 p) (.bool true)).run Tryz.prog w = .ok () (setTo w r (.bool true) (put L p)) := by
  unfold IsSet at hb
  obtain ⟨a, h1, h2, h4⟩ := ies_find (.bool true) p L 0 0
  have hc : ∀ em, (Instr.checkKey em 10000 3 (.int .i64 p)).run Tryz.prog w = .ok () w := fun em => MapKept.run_checkKey Tryz.underlying3 (by simp [MapKept.IsKey]) em 9999
  by_cases h : p ∈ L
  · obtain ⟨n, rfl, hn⟩ := h2 h
    have hg := ies_get (.bool true) L 0 n p hn
    have hks : (Instr.keyThatStays (.int .i64 p) (.int .i64 p)).run Tryz.prog w = .ok (.int .i64 p) w := by
      have hsb : Instr.sameBits 10000 (.int .i64 p) (.int .i64 p) = true := by simp [Instr.sameBits]
      simp [Instr.keyThatStays, hsb]
    have hmod : (ies (.bool true) L 0).modify n (fun e => { key := .int .i64 p, val := .bool true, born := e.born }) = ies (.bool true) L 0 := by
      apply List.ext_getElem?
      intro i
      rw [List.getElem?_modify]
      by_cases hi : n = i
      · subst hi
        simp [hg]
      · simp [hi]
    simp [Instr.mapUpdate, run_underlying Tryz.underlying61, MapKept.run_getObj_map hb, hc, MapKept.run_findKey Tryz.underlying3 h1, MapKept.run_setObj_map _ hb, Result.andThen, setTo, put, h, hg, hks, hmod]
  · obtain rfl := h4 h
    simp [Instr.mapUpdate, run_underlying Tryz.underlying61, MapKept.run_getObj_map hb, hc, MapKept.run_findKey Tryz.underlying3 h1, MapKept.run_setObj_map _ hb, Result.andThen, ies_append, setTo, put, h]
end En
end Go.Proofs.YtceoamhenpohhaaGreatDoor
