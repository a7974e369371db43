/- The law's own helpers: lists of ints, lists of files, what is short. -/
import Derived.Test.YtceoamhenpohhaaGreatDoorFE
namespace Go.Proofs.YtceoamhenpohhaaGreatDoor
set_option linter.unusedSimpArgs false
set_option linter.unusedVariables false
set_option maxRecDepth 100000
namespace En
open Go.RowKit
set_option maxHeartbeats 1000000 in
theorem sameInts_any (l : List Int) (v1 v2 : Value) (w : World) (h1 : Ints w v1 l) (h2 : Ints w v2 l) (hn : l.length ≤ 100000) :
    Calls Tryz.prog 14 #[v1, v2] w fun e w' => e = .returned (.bool true) ∧ ∃ n, w' = w.drewN n := by
  obtain ⟨a1, c1, rfl⟩ := h1.form'
  obtain ⟨a2, c2, rfl⟩ := h2.form'
  have H1 : Hid (Ints w (.slice a1 l.length c1) l) := h1
  have H2 : Hid (Ints w (.slice a2 l.length c2) l) := h2
  clear h1 h2
  go_enter Tryz.func14, Tryz.ntmps14
  go_wp2_with fail
  go_loopw [5] (fun i wr => ∃ k : Nat, k ≤ l.length ∧ i = .int .i64 k ∧ ∃ n, wr = w.drewN n) (fun i _ => l.length - (intOf i).toNat)
  case atStart => exact ⟨0, by omega, rfl, 0, rfl⟩
  case round =>
    obtain ⟨k, hk, rfl, n, rfl⟩ := hrel
    by_cases hlt : k < l.length
    · have hlt2 : (k : Int) < l.length := by omega
      obtain ⟨k1, o1, rfl, q1⟩ := H1.out.at' (List.getElem?_eq_getElem hlt)
      obtain ⟨k2, o2, rfl, q2⟩ := H2.out.at' (List.getElem?_eq_getElem hlt)
      generalize l[k] = x at *
      go_wp2_with fail
      go_quiet (fail)
      go_wp2_with fail
      go_roundw
      case rel => exact ⟨k + 1, by omega, by go_num, _, rfl⟩
      case measure => simp [intOf]; omega
    · have hke : k = l.length := by omega
      subst hke
      go_wp2_with fail
      go_ret
      exact ⟨rfl, n, rfl⟩
set_option maxHeartbeats 4000000 in
theorem sameFiles_any (l : List Fi) (v1 v2 : Value) (w : World) (h1 : Fls w v1 l) (h2 : Fls w v2 l) (hg : ∀ f, f ∈ l → f.cs.length ≤ 100000) (hn : l.length ≤ 1000) :
    Calls Tryz.prog 19 #[v1, v2] w fun e w' => e = .returned (.bool true) ∧ Since w w' := by
  obtain ⟨a1, c1, rfl, hc1⟩ := h1.form
  obtain ⟨a2, c2, rfl, hc2⟩ := h2.form
  have H1 : Hid (Fls w (.slice a1 l.length c1) l) := h1
  have H2 : Hid (Fls w (.slice a2 l.length c2) l) := h2
  have HG : Hid (∀ f, f ∈ l → f.cs.length ≤ 100000) := hg
  clear h1 h2 hg
  go_enter Tryz.func19, Tryz.ntmps19
  go_wp2_with fail
  go_loopw [5] (fun i wr => ∃ k : Nat, k ≤ l.length ∧ i = .int .i64 k ∧ Since w wr) (fun i _ => l.length - (intOf i).toNat)
  case atStart => exact ⟨0, by omega, rfl, Since.refl _⟩
  case round =>
    obtain ⟨k, hk, rfl, hs⟩ := hrel
    have HS : Hid (Since w wr) := hs
    clear hs
    by_cases hlt : k < l.length
    · have hlt2 : (k : Int) < l.length := by omega
      have hE : Hid (l[k]? = some l[k]) := List.getElem?_eq_getElem hlt
      have HGF : Hid (l[k].cs.length ≤ 100000) := HG.out l[k] (List.getElem_mem hlt)
      generalize l[k] = f at *
      obtain ⟨k1, o1, u1, rfl, hi1, hl1, p0, p1, p2⟩ := (H1.out.since HS.out).at_ hE.out
      obtain ⟨a1', b1', rfl⟩ := hi1.form'
      obtain ⟨k2, o2, u2, rfl, hi2, hl2, q0, q1, q2⟩ := (H2.out.since HS.out).at_ hE.out
      obtain ⟨a2', b2', rfl⟩ := hi2.form'
      have HI1 : Hid (Ints wr (.slice a1' f.cs.length b1') f.cs) := hi1
      have HI2 : Hid (Ints wr (.slice a2' f.cs.length b2') f.cs) := hi2
      clear hi1 hi2
      have hst : (f.nm.toList == f.nm.toList) = true := by simp
      have hst2 : (f.nm.data.toList == f.nm.data.toList) = true := by simp
      have hsi := fun n => sameInts_any f.cs _ _ (wr.drewN n) (HI1.out.since ((Since.refl _).drewN n)) (HI2.out.since ((Since.refl _).drewN n)) HGF.out
      go_wp2_with fail
      go_quiet ((go_at_call 14; exact Calls.quiet_of (hsi _)))
      go_wp2_with fail
      go_roundw
      case rel => exact ⟨k + 1, by omega, by go_num, HS.out.drewN _⟩
      case measure => simp [intOf]; omega
    · have hke : k = l.length := by omega
      subst hke
      go_wp2_with fail
      go_ret
      exact ⟨rfl, HS.out⟩
theorem llong_any (s : ByteArray) (w : World) : Calls Tryz.prog 20 #[.string s] w fun e w' => e = .returned (.bool (decide (60 < s.size))) ∧ w' = w := by
  have hd : decide ((60 : Int) < ((s.size : Nat) : Int)) = decide (60 < s.size) := decide_eq_decide.2 (by omega)
  go_enter Tryz.func20, Tryz.ntmps20
  go_wp2_with fail
  go_ret
  exact ⟨by rw [← hd]; rfl, rfl⟩
/-- a list that is short -/
def shortL (l : List Fi) : Prop := l.length ≤ 12 ∧ ∀ f, f ∈ l → f.nm.size ≤ 60 ∧ f.cs.length ≤ 30
set_option maxHeartbeats 2000000 in
theorem short_any (l : List Fi) (v : Value) (w : World) (h : Fls w v l) :
    Calls Tryz.prog 4 #[v] w fun e w' => (∃ b, e = .returned (.bool b) ∧ (b = true → shortL l)) ∧ w' = w := by
  obtain ⟨a1, c1, rfl, hc1⟩ := h.form
  have H1 : Hid (Fls w (.slice a1 l.length c1) l) := h
  clear h
  by_cases h12 : l.length ≤ 12
  · have h12' : ¬ (12 : Int) < l.length := by omega
    go_enter Tryz.func4, Tryz.ntmps4
    go_wp2_with fail
    go_loopw [3] (fun i wr => ∃ k : Nat, k ≤ l.length ∧ i = .int .i64 k ∧ (∀ (j : Nat) f, l[j]? = some f → j < k → f.nm.size ≤ 60 ∧ f.cs.length ≤ 30) ∧ wr = w) (fun i _ => l.length - (intOf i).toNat)
    case atStart => exact ⟨0, by omega, rfl, (fun j f _ h => by omega), rfl⟩
    case round =>
      obtain ⟨k, hk, rfl, ha, rfl⟩ := hrel
      have HA : Hid (∀ (j : Nat) f, l[j]? = some f → j < k → f.nm.size ≤ 60 ∧ f.cs.length ≤ 30) := ha
      clear ha
      by_cases hlt : k < l.length
      · have hlt2 : (k : Int) < l.length := by omega
        have hE : Hid (l[k]? = some l[k]) := List.getElem?_eq_getElem hlt
        generalize l[k] = f at *
        obtain ⟨k1, o1, u1, rfl, hi1, hl1, p0, p1, p2⟩ := H1.out.at_ hE.out
        obtain ⟨a1', b1', rfl⟩ := hi1.form'
        clear hi1
        have hlg := llong_any f.nm
        by_cases hs : 60 < f.nm.size
        · rw [decide_eq_true hs] at hlg
          go_wp2_with fail
          refine (hlg _).mono ?_
          rintro e w' ⟨rfl, rfl⟩
          go_wp2_with fail
          go_ret
          exact ⟨⟨false, rfl, fun h => by cases h⟩, rfl⟩
        · rw [decide_eq_false hs] at hlg
          go_wp2_with fail
          refine (hlg _).mono ?_
          rintro e w' ⟨rfl, rfl⟩
          by_cases hc : f.cs.length ≤ 30
          · have hc' : ¬ (30 : Int) < f.cs.length := by omega
            have HN : Hid (∀ (j : Nat) f, l[j]? = some f → j < k + 1 → f.nm.size ≤ 60 ∧ f.cs.length ≤ 30) := fun j g hj hjk => by
              by_cases e : j = k
              · subst e
                rw [hE.out] at hj
                injection hj with hj
                subst hj
                exact ⟨by omega, hc⟩
              · exact HA.out j g hj (by omega)
            go_wp2_with fail
            go_roundw
            case rel => exact ⟨k + 1, by omega, by go_num, HN.out, trivial⟩
            case measure => simp [intOf]; omega
          · have hc' : (30 : Int) < f.cs.length := by omega
            go_wp2_with fail
            go_ret
            exact ⟨⟨false, rfl, fun h => by cases h⟩, rfl⟩
      · have hke : k = l.length := by omega
        have HSH : Hid (shortL l) := ⟨h12, fun f hf => by
          obtain ⟨j, hj⟩ := List.getElem?_of_mem hf
          exact HA.out j f hj (by have := (List.getElem?_eq_some_iff.1 hj).1; omega)⟩
        subst hke
        go_wp2_with fail
        go_ret
        exact ⟨⟨true, rfl, fun _ => HSH.out⟩, rfl⟩
  · have h12' : (12 : Int) < l.length := by omega
    go_enter Tryz.func4, Tryz.ntmps4
    go_wp2_with fail
    go_ret
    exact ⟨⟨false, rfl, fun h => by cases h⟩, rfl⟩
end En
end Go.Proofs.YtceoamhenpohhaaGreatDoor
