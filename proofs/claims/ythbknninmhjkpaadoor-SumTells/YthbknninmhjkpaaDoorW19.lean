import Derived.Test.YthbknninmhjkpaaDoorW17
import Derived.Test.YthbknninmhjkpaaDoorW18
namespace Go.Proofs.YthbknninmhjkpaaDoor
open Go.RowKit

theorem long_any (s : ByteArray) (w : World) : Calls Tryd.prog 4 #[.string s] w fun e w' => e = .returned (.bool (decide (60 < s.size))) ∧ w' = w := by
  go_enter Tryd.func4, Tryd.ntmps4
  go_wp2_with fail
  go_ret
  refine ⟨?_, rfl⟩
  simp
  omega

set_option maxHeartbeats 1000000 in
theorem law_some (hsum : RSum) (s : ByteArray) (n : Int) (kd : UInt8) (pb po m cap : Nat) (ps : Nat → ByteArray) (w : World) (hT : Tab w) (h4 : w.cell? ⟨4, 15, none⟩ = some (.int .u8 4))
    (hc : ∀ j, j < m → w.cell? ⟨pb, po + j, none⟩ = some (.string (ps j))) :
    Calls Tryd.prog 3 #[.string s, .int .i64 n, .int .u8 kd.toNat, .slice (some ⟨pb, po, none⟩) m cap] w fun e w' => e = .returned (.bool true) ∧ Since w w' := by
  have H4 : Hid _ := h4
  have HC := (show Hid (∀ j, j < m → w.cell? ⟨pb, po + j, none⟩ = some (.string (ps j))) from hc)
  clear hc h4
  by_cases hs : s.size ≤ 400
  · by_cases hm : m ≤ 10
    · go_enter Tryd.func3, Tryd.ntmps3
      go_wp2_with fail
      go_loopw [9] (fun i wr => ∃ k : Nat, k ≤ m ∧ i = .int .i64 k ∧ (∀ j, j < k → (ps j).size ≤ 60) ∧ Since w wr) (fun i _ => m - (intOf i).toNat)
      case atStart => exact ⟨0, by omega, rfl, by omega, Since.refl w⟩
      case round =>
        obtain ⟨k, hk, rfl, hp, hS⟩ := hrel
        have HP : Hid _ := hp
        clear hp
        by_cases hlt : k < m
        · have hck : wr.cell? ⟨pb, po + k, none⟩ = some (.string (ps k)) := by
            have h := HC.out k hlt
            rw [hS.cell (p := ⟨pb, po + k, none⟩) (World.block_lt_of_cell? w _ h)]; exact h
          go_wp2_with fail
          refine (long_any _ _).mono ?_
          rintro e w2 ⟨rfl, rfl⟩
          by_cases hl : 60 < (ps k).size
          · go_wp2_with fail
            go_ret
            exact ⟨rfl, hS⟩
          · go_wp2_with fail
            go_roundw
            case rel => exact ⟨k + 1, by omega, by go_num, fun j hj => by rcases Nat.lt_or_ge j k with h | h; exact HP.out j h; (have : j = k := by omega); subst this; omega, hS⟩
            case measure => simp [intOf]; omega
        · have hkm : k = m := by omega
          subst hkm
          go_wp2_with fail
          refine (new_any _).mono ?_
          rintro e w2 ⟨b, rfl, _, hh, hk2, h2⟩
          have hS2 := hS.trans h2
          go_wp2_with fail
          refine (sum_any s _ (by omega) (hT.since hS2)).mono ?_
          rintro e w3 ⟨rfl, h3⟩
          have hS3 := hS2.trans h3
          generalize hA : strOfNums (sumSt s).bytes = A
          have HA : Hid _ := hA
          clear hA
          go_wp2_with fail
          refine (hsum b s _ (by omega) (hh.since h3) (hk2.since h3)).mono ?_
          rintro e w4 ⟨rfl, h5⟩
          have hS4 := hS3.trans h5
          rw [HA.out]
          go_wp2_with fail
          refine (hex_any s _ (by omega)).mono ?_
          rintro e w5 ⟨rfl, h6⟩
          have hS5 := hS4.trans h6
          generalize hB : strOfNums ((List.range (2 * s.size)).map (hexAt s)) = B
          have HB : Hid _ := hB
          clear hB
          go_wp2_with fail
          refine (refHex_any s _ (by omega) (by rw [hS5.cell (p := ⟨4, 15, none⟩) (World.block_lt_of_cell? w _ H4.out)]; exact H4.out)).mono ?_
          rintro e w6 ⟨rfl, h7⟩
          have hS6 := hS5.trans h7
          rw [HB.out]
          go_wp2_with fail
          refine (num_any n _).mono ?_
          rintro e w7 ⟨rfl, h8⟩
          have hS7 := hS6.trans h8
          generalize hD : strOfNums (be8 (n % 18446744073709551616)) = D
          have HD : Hid _ := hD
          clear hD
          go_wp2_with fail
          refine (refNum_any n _).mono ?_
          rintro e w8 ⟨rfl, h9⟩
          have hS8 := hS7.trans h9
          rw [HD.out]
          go_wp2_with fail
          refine (mark_any kd pb po k cap ps _ (by omega) HP.out (hT.since hS8) (fun j hj => by have h := HC.out j hj; rw [hS8.cell (p := ⟨pb, po + j, none⟩) (World.block_lt_of_cell? w _ h)]; exact h)).mono ?_
          rintro e w9 ⟨rfl, h10⟩
          have hS9 := hS8.trans h10
          generalize hE : markOf _ = E
          have HE : Hid (markOf ⟨(accTo kd ps k).toArray⟩ = E) := hE
          clear hE
          go_wp2_with fail
          refine (rmark_any hsum b kd pb po k cap ps _ (by omega) HP.out (hh.since (((((((h3.trans h5).trans h6).trans h7).trans h8).trans h9).trans h10))) (hk2.since (((((((h3.trans h5).trans h6).trans h7).trans h8).trans h9).trans h10))) (fun j hj => by have h := HC.out j hj; rw [hS9.cell (p := ⟨pb, po + j, none⟩) (World.block_lt_of_cell? w _ h)]; exact h)).mono ?_
          rintro e w10 ⟨rfl, h11⟩
          rw [HE.out]
          go_wp2_with fail
          go_ret
          exact ⟨rfl, hS9.trans h11⟩
    · go_enter Tryd.func3, Tryd.ntmps3
      go_wp2_with fail
      go_ret
      exact ⟨rfl, Since.refl w⟩
  · go_enter Tryd.func3, Tryd.ntmps3
    go_wp2_with fail
    go_ret
    exact ⟨rfl, Since.refl w⟩

set_option maxHeartbeats 1000000 in
theorem law_nil (hsum : RSum) (a : Option Addr) (s : ByteArray) (n : Int) (kd : UInt8) (cap : Nat) (w : World) (hT : Tab w) (h4 : w.cell? ⟨4, 15, none⟩ = some (.int .u8 4)) :
    Calls Tryd.prog 3 #[.string s, .int .i64 n, .int .u8 kd.toNat, .slice a 0 cap] w fun e w' => e = .returned (.bool true) ∧ Since w w' := by
  have H4 : Hid _ := h4
  clear h4
  let ps : Nat → ByteArray := fun _ => .empty
  by_cases hs : s.size ≤ 400
  · go_enter Tryd.func3, Tryd.ntmps3
    go_wp2_with fail
    refine wp_loop_rounds 1 ?_
    rw [rounds_succ]
    go_wp2_with fail
    have hS := Since.refl w
    refine (new_any _).mono ?_
    rintro e w2 ⟨b, rfl, _, hh, hk2, h2⟩
    have hS2 := hS.trans h2
    go_wp2_with fail
    refine (sum_any s _ (by omega) (hT.since hS2)).mono ?_
    rintro e w3 ⟨rfl, h3⟩
    have hS3 := hS2.trans h3
    generalize hA : strOfNums (sumSt s).bytes = A
    have HA : Hid _ := hA
    clear hA
    go_wp2_with fail
    refine (hsum b s _ (by omega) (hh.since h3) (hk2.since h3)).mono ?_
    rintro e w4 ⟨rfl, h5⟩
    have hS4 := hS3.trans h5
    rw [HA.out]
    go_wp2_with fail
    refine (hex_any s _ (by omega)).mono ?_
    rintro e w5 ⟨rfl, h6⟩
    have hS5 := hS4.trans h6
    generalize hB : strOfNums ((List.range (2 * s.size)).map (hexAt s)) = B
    have HB : Hid _ := hB
    clear hB
    go_wp2_with fail
    refine (refHex_any s _ (by omega) (by rw [hS5.cell (p := ⟨4, 15, none⟩) (World.block_lt_of_cell? w _ H4.out)]; exact H4.out)).mono ?_
    rintro e w6 ⟨rfl, h7⟩
    have hS6 := hS5.trans h7
    rw [HB.out]
    go_wp2_with fail
    refine (num_any n _).mono ?_
    rintro e w7 ⟨rfl, h8⟩
    have hS7 := hS6.trans h8
    generalize hD : strOfNums (be8 (n % 18446744073709551616)) = D
    have HD : Hid _ := hD
    clear hD
    go_wp2_with fail
    refine (refNum_any n _).mono ?_
    rintro e w8 ⟨rfl, h9⟩
    have hS8 := hS7.trans h9
    rw [HD.out]
    go_wp2_with fail
    refine (mark_nil a kd ps cap _ (hT.since hS8)).mono ?_
    rintro e w9 ⟨rfl, h10⟩
    have hS9 := hS8.trans h10
    generalize hE : markOf _ = E
    have HE : Hid (markOf ⟨(accTo kd ps 0).toArray⟩ = E) := hE
    clear hE
    go_wp2_with fail
    refine (rmark_nil hsum a b kd cap ps _ (hh.since (((((((h3.trans h5).trans h6).trans h7).trans h8).trans h9).trans h10))) (hk2.since (((((((h3.trans h5).trans h6).trans h7).trans h8).trans h9).trans h10)))).mono ?_
    rintro e w10 ⟨rfl, h11⟩
    rw [HE.out]
    go_wp2_with fail
    go_ret
    exact ⟨rfl, hS9.trans h11⟩
  · go_enter Tryd.func3, Tryd.ntmps3
    go_wp2_with fail
    go_ret
    exact ⟨rfl, Since.refl w⟩
end Go.Proofs.YthbknninmhjkpaaDoor
