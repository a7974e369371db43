/- pick, few, slices.Equal, alike. -/
import Derived.Test.YtjfhggcjdckfgaaDoorQ1
import Derived.Deep.QuietTactic
import Derived.BigQuiet
namespace Go.Proofs.YtjfhggcjdckfgaaDoor
set_option linter.unusedSimpArgs false
set_option linter.unusedVariables false
open Go.RowKit

/-- pick(a, 8) -/
def pk (a : Int) : Nat := (a % 18446744073709551616).toNat % 8
theorem pk_lt (a : Int) : pk a < 8 := by unfold pk; omega
theorem pick_any (a : Int) (w : World) (h0 : -9223372036854775808 ≤ a) (h1 : a ≤ 9223372036854775807) :
    Calls Tryd.prog 55 #[.int .i64 a, .int .i64 8] w fun e w' => e = .returned (.int .i64 (pk a)) ∧ w' = w := by
  go_enter Tryd.func55, Tryd.ntmps55
  go_wp2_with fail
  go_ret
  have e1 : IntKind.u64.wrap a = a % 18446744073709551616 := by simp [IntKind.wrap, IntKind.bits, IntKind.signed]
  have e2 : (IntKind.u64.wrap a).tmod 8 = ((pk a : Nat) : Int) := by
    rw [e1, Int.tmod_eq_emod_of_nonneg (by omega)]
    unfold pk
    omega
  have e3 : wrap64 ((IntKind.u64.wrap a).tmod 8) = ((pk a : Nat) : Int) := by
    rw [e2]
    have := pk_lt a
    unfold wrap64
    omega
  exact ⟨congrArg (fun x => Ending.returned (Value.int .i64 x)) e3, rfl⟩
/-- the closure tells p of any text -/
def Tells (fid : Nat) (p : ByteArray → Bool) : Prop := (∀ args w, (callFunc fid args).run Tryd.prog w = .ok (.enter fid args) w) ∧ ∀ (s : ByteArray) (w : World), Calls Tryd.prog fid #[.string s] w fun e w' => e = .returned (.bool (p s)) ∧ w' = w
set_option maxHeartbeats 1000000 in
theorem if_any (b n fid : Nat) (v : Value) (l : Nat → ByteArray) (p : ByteArray → Bool) (w : World) (hs : Sl w b v n (fun j => .string (l j))) (ht : Tells fid p) (hn : n ≤ 9223372036854775807) :
    Calls Tryd.prog 118 #[v, .func (.func fid) #[] #[]] w fun e w' => (∃ x : Int, e = .returned (.int .i64 x) ∧ ((0 ≤ x ∧ ∃ j, j < n ∧ p (l j) = true) ∨ (x < 0 ∧ ∀ j, j < n → p (l j) = false))) ∧ w' = w := by
  obtain ⟨a, c, rfl, hs⟩ := hs
  obtain ⟨heg, hp⟩ := ht
  have HP : Hid _ := hp
  have HS : Hid _ := hs
  clear hp hs
  go_enter Tryd.func118, Tryd.ntmps118
  go_wp2_with fail
  go_loop [8] (fun i => ∃ k : Nat, k ≤ n ∧ i = .int .i64 k ∧ ∀ j, j < k → p (l j) = false) (fun i => n - (intOf i).toNat)
  case atStart => exact ⟨0, by omega, rfl, fun j hj => by omega⟩
  case round =>
    obtain ⟨k, hk, rfl, hbe⟩ := hrel
    have HB : Hid _ := hbe
    clear hbe
    by_cases hlt : k < n
    · have hlt2 : (k : Int) < n := by omega
      obtain ⟨kb, ko, rfl, _, hc⟩ := HS.out (by omega)
      have c1 := hc k hlt
      clear hc
      cases hpk : p (l k) with
      | true =>
        go_wp2_with fail
        refine (HP.out (l k) _).mono ?_
        rintro e w' ⟨rfl, rfl⟩
        rw [hpk]
        go_wp2_with fail
        go_ret
        exact ⟨⟨k, rfl, Or.inl ⟨by omega, k, hlt, hpk⟩⟩, rfl⟩
      | false =>
        go_wp2_with fail
        refine (HP.out (l k) _).mono ?_
        rintro e w' ⟨rfl, rfl⟩
        rw [hpk]
        go_wp2_with fail
        go_round
        case rel =>
          refine ⟨k + 1, by omega, by go_num, fun j hj => ?_⟩
          rcases Nat.lt_or_ge j k with h | h
          · exact HB.out j h
          · rw [show j = k by omega]; exact hpk
        case measure => simp [intOf]; omega
    · have hke : k = n := by omega
      subst hke
      go_wp2_with fail
      go_ret
      exact ⟨⟨-1, rfl, Or.inr ⟨by omega, HB.out⟩⟩, rfl⟩
theorem cf_any (b n fid : Nat) (v : Value) (l : Nat → ByteArray) (p : ByteArray → Bool) (w : World) (hs : Sl w b v n (fun j => .string (l j))) (ht : Tells fid p) (hn : n ≤ 9223372036854775807) :
    Calls Tryd.prog 52 #[v, .func (.func fid) #[] #[]] w fun e w' => ((e = .returned (.bool true) ∧ ∃ j, j < n ∧ p (l j) = true) ∨ (e = .returned (.bool false) ∧ ∀ j, j < n → p (l j) = false)) ∧ w' = w := by
  obtain ⟨a, c, rfl, hs'⟩ := hs
  have HS : Hid (Sl w b (.slice a n c) n (fun j => .string (l j))) := ⟨a, c, rfl, hs'⟩
  clear hs'
  go_enter Tryd.func52, Tryd.ntmps52
  go_wp2_with fail
  refine (if_any b n fid _ l p _ HS.out ht hn).mono ?_
  rintro e w' ⟨⟨x, rfl, hx⟩, rfl⟩
  rcases hx with ⟨h0, hj⟩ | ⟨h0, hj⟩
  · have HJ : Hid _ := hj
    clear hj
    go_wp2_with fail
    go_ret
    exact ⟨Or.inl ⟨by simp [h0], HJ.out⟩, rfl⟩
  · have HJ : Hid _ := hj
    clear hj
    go_wp2_with fail
    go_ret
    exact ⟨Or.inr ⟨by simp [h0], HJ.out⟩, rfl⟩
set_option maxHeartbeats 1000000 in
theorem eq_quiet (b n : Nat) (v1 v2 : Value) (l1 l2 : Nat → ByteArray) (w : World) (h1 : Sl w b v1 n (fun j => .string (l1 j))) (h2 : Sl w b v2 n (fun j => .string (l2 j))) (he : ∀ j, j < n → l1 j = l2 j) (hn : n ≤ 1000) :
    Calls Tryd.prog 125 #[v1, v2] w fun e w' => e = .returned (.bool true) ∧ ∃ m, w' = w.drewN m := by
  obtain ⟨a1, c1, rfl, hs1⟩ := h1
  obtain ⟨a2, c2, rfl, hs2⟩ := h2
  have HS1 : Hid _ := hs1
  have HS2 : Hid _ := hs2
  have HE : Hid _ := he
  clear hs1 hs2 he
  go_enter Tryd.func125, Tryd.ntmps125
  go_wp2_with fail
  go_loopw [13] (fun i wr => ∃ k : Nat, k ≤ n ∧ i = .int .i64 k ∧ ∃ m, wr = w.drewN m) (fun i _ => n - (intOf i).toNat)
  case atStart => exact ⟨0, by omega, rfl, 0, rfl⟩
  case round =>
    obtain ⟨k, hk, rfl, mm, hmm⟩ := hrel
    have hS : Since w wr := by rw [hmm]; exact (Since.refl w).drewN mm
    have HMM : Hid (wr = w.drewN mm) := hmm
    clear hmm
    by_cases hlt : k < n
    · have hlt2 : (k : Int) < n := by omega
      obtain ⟨kb1, ko1, rfl, _, hc1⟩ := HS1.out (by omega)
      obtain ⟨kb2, ko2, rfl, _, hc2⟩ := HS2.out (by omega)
      have q1 : wr.cell? ⟨kb1, ko1 + k, none⟩ = some (.string (l1 k)) := (hS.cell (p := ⟨kb1, ko1 + k, none⟩) (World.block_lt_of_cell? w _ (hc1 k hlt))).trans (hc1 k hlt)
      have q2 : wr.cell? ⟨kb2, ko2 + k, none⟩ = some (.string (l2 k)) := (hS.cell (p := ⟨kb2, ko2 + k, none⟩) (World.block_lt_of_cell? w _ (hc2 k hlt))).trans (hc2 k hlt)
      rw [← HE.out k hlt] at q2
      clear hc1 hc2 hS
      go_wp2_with fail
      go_quiet (fail)
      go_wp2_with fail
      go_roundw
      case rel => exact ⟨k + 1, by omega, by go_num, _, by rw [HMM.out, World.drewN_drewN]⟩
      case measure => simp [intOf]; omega
    · have hke : k = n := by omega
      subst hke
      clear hS
      go_wp2_with fail
      go_ret
      exact ⟨rfl, mm, HMM.out⟩
theorem eq_any (b n : Nat) (v1 v2 : Value) (l1 l2 : Nat → ByteArray) (w : World) (h1 : Sl w b v1 n (fun j => .string (l1 j))) (h2 : Sl w b v2 n (fun j => .string (l2 j))) (he : ∀ j, j < n → l1 j = l2 j) (hn : n ≤ 1000) :
    Calls Tryd.prog 125 #[v1, v2] w fun e w' => e = .returned (.bool true) ∧ Since w w' := by
  refine (eq_quiet b n v1 v2 l1 l2 w h1 h2 he hn).mono ?_
  rintro e w' ⟨rfl, m, rfl⟩
  exact ⟨rfl, (Since.refl w).drewN m⟩
end Go.Proofs.YtjfhggcjdckfgaaDoor
