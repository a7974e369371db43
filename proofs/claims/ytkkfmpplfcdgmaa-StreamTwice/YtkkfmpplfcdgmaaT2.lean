import Derived.Test.YtkkfmpplfcdgmaaT1
namespace Go.Proofs.Ytkkfmpplfcdgmaa
set_option linter.unusedSimpArgs false
set_option linter.unusedVariables false
open Go.RowKit

theorem pick_any (a : Int) (n : Nat) (w : World) (h0 : 0 < n) (h1 : n ≤ 1000) :
    Calls Try.prog 6 #[.int .i64 a, .int .i64 n] w fun e w' => (∃ c : Nat, c < n ∧ e = .returned (.int .i64 c)) ∧ w' = w := by
  have e1 : IntKind.u64.wrap a = a % 18446744073709551616 := by simp [IntKind.wrap, IntKind.bits, IntKind.signed]
  have e2 : IntKind.u64.wrap (n : Int) = n := by simp [IntKind.wrap, IntKind.bits, IntKind.signed]; omega
  have hne : ((n : Int) == 0) = false := by simp; omega
  have hn0 : ¬ (n : Int) = 0 := by omega
  obtain ⟨c, hc⟩ : ∃ c : Nat, (a % 18446744073709551616) % (n : Int) = c := ⟨((a % 18446744073709551616) % (n : Int)).toNat, (Int.toNat_of_nonneg (Int.emod_nonneg _ hn0)).symm⟩
  have hl : (c : Int) < n := by rw [← hc]; exact Int.emod_lt_of_pos _ (by omega)
  have e3 : IntKind.i64.wrap (c : Int) = c := by simp [IntKind.wrap, IntKind.bits, IntKind.signed]; omega
  have hp : 0 ≤ a % 18446744073709551616 := by omega
  generalize a % 18446744073709551616 = u at *
  have e4 : u.tmod n = c := by rw [Int.tmod_eq_emod_of_nonneg hp]; exact hc
  go_enter Try.func6, Try.ntmps6
  go_wp2_with fail
  go_ret
  exact ⟨⟨c, by omega, rfl⟩, rfl⟩

set_option maxHeartbeats 2000000 in
theorem law_any (key nonce s t : ByteArray) (cut : Int) (w : World) :
    Calls Try.prog 3 #[.string key, .string nonce, .string s, .string t, .int .i64 cut] w fun e w' => e = .returned (.bool true) ∧ Since w w' := by
  by_cases h1 : key.size ≤ 40
  case neg =>
    go_enter Try.func3, Try.ntmps3
    go_wp2_with fail
    go_ret
    exact ⟨rfl, Since.refl w⟩
  by_cases h2 : nonce.size ≤ 40
  case neg =>
    go_enter Try.func3, Try.ntmps3
    go_wp2_with fail
    go_ret
    exact ⟨rfl, Since.refl w⟩
  by_cases h3 : s.size ≤ 300
  case neg =>
    go_enter Try.func3, Try.ntmps3
    go_wp2_with fail
    go_ret
    exact ⟨rfl, Since.refl w⟩
  by_cases h4 : t.size ≤ 300
  case neg =>
    go_enter Try.func3, Try.ntmps3
    go_wp2_with fail
    go_ret
    exact ⟨rfl, Since.refl w⟩
  by_cases hk : key.size = 32 ∧ nonce.size = 12
  case neg =>
    go_enter Try.func3, Try.ntmps3
    go_wp2_with fail
    refine (streamed_any _).mono ?_
    rintro e w1 ⟨rfl, hS1⟩
    go_wp2_with fail
    refine (xor_bad key nonce s _ hk).mono ?_
    rintro e w2 ⟨rfl, rfl⟩
    go_wp2_with fail
    refine (xor_bad key nonce t _ hk).mono ?_
    rintro e w3 ⟨rfl, rfl⟩
    go_wp2_with fail
    all_goals
      go_ret
      refine ⟨?_, hS1⟩
      first | rfl | (simp; omega)
  obtain ⟨hk1, hk2⟩ := hk
  go_enter Try.func3, Try.ntmps3
  go_wp2_with fail
  refine (streamed_any _).mono ?_
  rintro e w1 ⟨rfl, hS1⟩
  go_wp2_with fail
  refine (xor_any key nonce s _ hk1 hk2 (by omega)).mono ?_
  rintro e w2 ⟨rfl, hS2⟩
  have hS12 := hS1.trans hS2
  have HT := (show Hid (strOfNums (xorOf key nonce (strOfNums (xorOf key nonce s))) = s) from xor_twice key nonce s)
  have HC := (show Hid (∀ c, c ≤ s.size → strOfNums (xorOf key nonce (s.extract 0 c)) = (strOfNums (xorOf key nonce s)).extract 0 c) from fun c hc => xor_cut key nonce s c hc)
  have HX := (show Hid _ from xor_apart key nonce s t)
  have hzA := xor_size key nonce s
  have hzB := xor_size key nonce t
  generalize strOfNums (xorOf key nonce s) = A at *
  go_wp2_with fail
  refine (xor_any key nonce t _ hk1 hk2 (by omega)).mono ?_
  rintro e w3 ⟨rfl, hS3⟩
  have hS13 := hS12.trans hS3
  generalize strOfNums (xorOf key nonce t) = B at *
  go_wp2_with fail
  refine (xor_any key nonce A _ hk1 hk2 (by omega)).mono ?_
  rintro e w4 ⟨rfl, hS4⟩
  have hS14 := hS13.trans hS4
  rw [HT.out]
  go_wp2_with fail
  go_loopw [17] (fun i wr => ∃ k : Nat, k ≤ s.size ∧ k ≤ t.size ∧ i = .int .i64 k ∧ Since w wr) (fun i _ => s.size - (intOf i).toNat)
  case atStart => exact ⟨0, by omega, by omega, rfl, hS14⟩
  case round =>
    obtain ⟨k, hks, hkt, rfl, hSr⟩ := hrel
    by_cases hlt : k < s.size ∧ k < t.size
    · obtain ⟨hl1, hl2⟩ := hlt
      have hla : k < A.size := by omega
      have hlb : k < B.size := by omega
      have hx := HX.out k hl1 hl2 hla hlb
      have z1 : (k : Int) < s.size := by omega
      have z2 : (k : Int) < t.size := by omega
      clear HX HC HT
      go_wp2_with fail
      go_quiet (fail)
      go_wp2_with fail
      go_roundw
      case rel => exact ⟨k + 1, by omega, by omega, by go_num, hSr.drewN _⟩
      case measure => simp [intOf]; omega
    · have hor : s.size ≤ k ∨ (k < s.size ∧ t.size ≤ k) := by omega
      clear HX
      rcases hor with hor | hor
      all_goals
        go_wp2_with fail
        refine (pick_any cut (s.size + 1) _ (by omega) (by omega)).mono ?_
        rintro e w5 ⟨⟨c, hc, rfl⟩, rfl⟩
        have hcs : c ≤ s.size := by omega
        have hcI : (c : Int) ≤ s.size := by omega
        have hex : (s.extract 0 c).size = c := by simp [ByteArray.size_extract]; omega
        have hcA : (c : Int) ≤ A.size := by omega
        have HCc := (show Hid _ from HC.out c hcs)
        clear HC
        go_wp2_with fail
        refine (xor_any key nonce (s.extract 0 c) _ hk1 hk2 (by omega)).mono ?_
        rintro e w6 ⟨rfl, hS6⟩
        rw [HCc.out]
        go_wp2_with fail
        go_ret
        exact ⟨rfl, hSr.trans hS6⟩
end Go.Proofs.Ytkkfmpplfcdgmaa
