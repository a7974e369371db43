/- The law StreamBlocks walked. -/
import Derived.Test.YtjfhggcjdckfgaaDoorC7
import Derived.Test.YtjfhggcjdckfgaaDoorD6
import Derived.Test.YtjfhggcjdckfgaaDoorE9
namespace Go.Proofs.YtjfhggcjdckfgaaDoor
set_option linter.unusedSimpArgs false
set_option linter.unusedVariables false
set_option maxRecDepth 100000
namespace Bk
open Go.RowKit Sm Sm.Sr

set_option maxHeartbeats 1000000 in
theorem law_any (key nonce s : ByteArray) (n : Int) (w : World) (hg : Et w) (m0 : -9223372036854775808 ≤ n) (m1 : n ≤ 9223372036854775807) :
    Calls Tryd.prog 4 #[.string key, .int .i64 n, .string nonce, .string s] w fun e w' => e = .returned (.bool true) ∧ Since w w' := by
  have HG := (show Hid (Et w) from hg)
  clear hg
  by_cases h1 : 60 < key.size
  · go_enter Tryd.func4, Tryd.ntmps4
    go_wp2_with fail
    refine (lawLong_any _ _).mono ?_
    rintro e w1 ⟨rfl, rfl⟩
    rw [decide_eq_true h1]
    go_wp2_with fail
    go_ret
    exact ⟨rfl, Since.refl _⟩
  by_cases h2 : 60 < nonce.size
  · go_enter Tryd.func4, Tryd.ntmps4
    go_wp2_with fail
    refine (lawLong_any _ _).mono ?_
    rintro e w1 ⟨rfl, rfl⟩
    rw [decide_eq_false h1]
    go_wp2_with fail
    refine (lawLong_any _ _).mono ?_
    rintro e w1 ⟨rfl, rfl⟩
    rw [decide_eq_true h2]
    go_wp2_with fail
    go_ret
    exact ⟨rfl, Since.refl _⟩
  by_cases h3 : s.size ≤ 300
  case neg =>
    go_enter Tryd.func4, Tryd.ntmps4
    go_wp2_with fail
    refine (lawLong_any _ _).mono ?_
    rintro e w1 ⟨rfl, rfl⟩
    rw [decide_eq_false h1]
    go_wp2_with fail
    refine (lawLong_any _ _).mono ?_
    rintro e w1 ⟨rfl, rfl⟩
    rw [decide_eq_false h2]
    go_wp2_with fail
    go_ret
    exact ⟨rfl, Since.refl _⟩
  by_cases hk : key.size = 32 ∧ nonce.size = 12
  · obtain ⟨hk1, hk2⟩ := hk
    by_cases hn : 0 ≤ n ∧ n < 4294967296
    · obtain ⟨n0, n1⟩ := hn
      go_enter Tryd.func4, Tryd.ntmps4
      go_wp2_with fail
      refine (lawLong_any _ _).mono ?_
      rintro e w1 ⟨rfl, rfl⟩
      rw [decide_eq_false h1]
      go_wp2_with fail
      refine (lawLong_any _ _).mono ?_
      rintro e w1 ⟨rfl, rfl⟩
      rw [decide_eq_false h2]
      go_wp2_with fail
      refine (refBlock_any key nonce n _ hk1 hk2 n0 n1).mono ?_
      rintro e w2 ⟨rfl, hS2⟩
      generalize hB : strOfNums (blockOf key (BitVec.ofInt 32 n) nonce) = B
      have HB := (show Hid (strOfNums (blockOf key (BitVec.ofInt 32 n) nonce) = B) from hB)
      clear hB
      go_wp2_with fail
      refine (block_any key nonce n _ hk1 hk2 n0 n1).mono ?_
      rintro e w3 ⟨rfl, hS3⟩
      rw [HB.out]
      have hS23 := hS2.trans hS3
      go_wp2_with fail
      refine (bare_nil _).mono ?_
      rintro e w4 ⟨rfl, rfl⟩
      go_wp2_with fail
      refine (refXor_any key nonce s _ hk1 hk2 (by omega)).mono ?_
      rintro e w5 ⟨rfl, hS5⟩
      have hS25 := hS23.trans hS5
      generalize hX : strOfNums (xorOf key nonce s) = X
      have HX := (show Hid (strOfNums (xorOf key nonce s) = X) from hX)
      clear hX
      go_wp2_with fail
      refine (xor_any key nonce s _ hk1 hk2 (by omega)).mono ?_
      rintro e w6 ⟨rfl, hS6⟩
      rw [HX.out]
      go_wp2_with fail
      refine (bare_nil _).mono ?_
      rintro e w7 ⟨rfl, rfl⟩
      go_wp2_with fail
      go_ret
      exact ⟨rfl, hS25.trans hS6⟩
    · have hbad : ¬ (key.size = 32 ∧ nonce.size = 12 ∧ 0 ≤ n ∧ n < 4294967296) := fun h => hn h.2.2
      go_enter Tryd.func4, Tryd.ntmps4
      go_wp2_with fail
      refine (lawLong_any _ _).mono ?_
      rintro e w1 ⟨rfl, rfl⟩
      rw [decide_eq_false h1]
      go_wp2_with fail
      refine (lawLong_any _ _).mono ?_
      rintro e w1 ⟨rfl, rfl⟩
      rw [decide_eq_false h2]
      go_wp2_with fail
      refine (refBlock_bad key nonce n _ hbad).mono ?_
      rintro e w2 ⟨rfl, rfl⟩
      go_wp2_with fail
      refine (block_bad key nonce n _ hbad m0 m1).mono ?_
      rintro e w3 ⟨rfl, rfl⟩
      go_wp2_with fail
      refine (bare_hit 1 _ HG.out).mono ?_
      rintro e w4 ⟨rfl, hS4⟩
      go_wp2_with fail
      refine (refXor_any key nonce s _ hk1 hk2 (by omega)).mono ?_
      rintro e w5 ⟨rfl, hS5⟩
      have hS25 := hS4.trans hS5
      generalize hX : strOfNums (xorOf key nonce s) = X
      have HX := (show Hid (strOfNums (xorOf key nonce s) = X) from hX)
      clear hX
      go_wp2_with fail
      refine (xor_any key nonce s _ hk1 hk2 (by omega)).mono ?_
      rintro e w6 ⟨rfl, hS6⟩
      rw [HX.out]
      go_wp2_with fail
      refine (bare_nil _).mono ?_
      rintro e w7 ⟨rfl, rfl⟩
      go_wp2_with fail
      go_ret
      exact ⟨rfl, hS25.trans hS6⟩
  · have hbad : ¬ (key.size = 32 ∧ nonce.size = 12 ∧ 0 ≤ n ∧ n < 4294967296) := fun h => hk ⟨h.1, h.2.1⟩
    go_enter Tryd.func4, Tryd.ntmps4
    go_wp2_with fail
    refine (lawLong_any _ _).mono ?_
    rintro e w1 ⟨rfl, rfl⟩
    rw [decide_eq_false h1]
    go_wp2_with fail
    refine (lawLong_any _ _).mono ?_
    rintro e w1 ⟨rfl, rfl⟩
    rw [decide_eq_false h2]
    go_wp2_with fail
    refine (refBlock_bad key nonce n _ hbad).mono ?_
    rintro e w2 ⟨rfl, rfl⟩
    go_wp2_with fail
    refine (block_bad key nonce n _ hbad m0 m1).mono ?_
    rintro e w3 ⟨rfl, rfl⟩
    go_wp2_with fail
    refine (bare_hit 1 _ HG.out).mono ?_
    rintro e w4 ⟨rfl, hS4⟩
    go_wp2_with fail
    refine (refXor_bad key nonce s _ hk).mono ?_
    rintro e w5 ⟨rfl, rfl⟩
    go_wp2_with fail
    refine (xor_bad key nonce s _ hk).mono ?_
    rintro e w6 ⟨rfl, rfl⟩
    go_wp2_with fail
    refine (bare_hit 1 _ (HG.out.since hS4)).mono ?_
    rintro e w7 ⟨rfl, hS7⟩
    go_wp2_with fail
    go_ret
    exact ⟨rfl, hS4.trans hS7⟩
end Bk
end Go.Proofs.YtjfhggcjdckfgaaDoor
