/- The reference's Unseal. -/
import Derived.Test.YtjfhggcjdckfgaaDoorJ3
namespace Go.Proofs.YtjfhggcjdckfgaaDoor
set_option linter.unusedSimpArgs false
set_option linter.unusedVariables false
set_option maxRecDepth 100000
namespace Sl
open Go.RowKit
open Sm (Tab RSum rmark_any refNum_any markOf accTo be8 Arr H0 kn conv_cells)
open Sm.Sr (refXor_any xorOf)

theorem runseal_arg (b : Nat) (key : ByteArray) (cell : Int) (s : ByteArray) (w : World) (h : key.size ≠ 32) :
    Calls Tryd.prog 67 #[.pointer (some ⟨b, 0, none⟩), .string key, .int .i64 cell, .string s] w fun e w' => e = .returned (.tuple #[.string ⟨#[]⟩, .string ⟨#[]⟩, .int .i64 1]) ∧ w' = w := by
  have e1 : ¬ (key.size : Int) = 32 := by omega
  go_enter Tryd.func67, Tryd.ntmps67
  go_wp2_with fail
  go_ret3
  exact ⟨rfl, rfl⟩
set_option maxHeartbeats 1000000 in
theorem runseal_short (b : Nat) (key : ByteArray) (cell : Int) (s : ByteArray) (w : World) (h : key.size = 32) (hs : s.size < 109) :
    Calls Tryd.prog 67 #[.pointer (some ⟨b, 0, none⟩), .string key, .int .i64 cell, .string s] w fun e w' => e = .returned (.tuple #[.string ⟨#[]⟩, .string ⟨#[]⟩, .int .i64 15]) ∧ Since w w' := by
  have e1 : (key.size : Int) = 32 := by omega
  have e2 : (s.size : Int) < 109 := by omega
  go_enter Tryd.func67, Tryd.ntmps67
  go_wp2_with fail
  go_quiet (fail)
  go_wp2_with fail
  go_ret3
  exact ⟨rfl, (Since.refl _).drewN _⟩
/-- what the reference's Mark is asked for by Unseal -/
def RMk (b : Nat) (key : ByteArray) (cell : Int) (x T : ByteArray) : Prop := ∀ w w0 : World, Arr w0 b 0 8 H0.fn → Arr w0 b 8 64 kn → Since w0 w →
    Calls Tryd.prog 20 #[.pointer (some ⟨b, 0, none⟩), .int .u8 103, .slice (some ⟨w.heap.size, 0, none⟩) 3 3] (w.alloc (.cells #[.string key, .string (numT cell), .string x] 9)) fun e w' => e = .returned (.string T) ∧ Since w w'
theorem rmk_all (hsum : RSum) (b : Nat) (key : ByteArray) (cell : Int) (x : ByteArray) (hk : key.size ≤ 900) (hx : x.size ≤ 900) : RMk b key cell x (mk 103 key cell x) := by
  intro w w0 h1 h2 h3
  have hm := rmk hsum b 103 key cell x w hk hx (h1.since h3) (h2.since h3)
  rw [show ((103 : UInt8).toNat : Int) = 103 from rfl] at hm
  exact hm
set_option maxHeartbeats 1000000 in
theorem runseal_bad (hsum : RSum) (b : Nat) (key : ByteArray) (cell : Int) (s : ByteArray) (w : World) (h : key.size = 32) (hs : 109 ≤ s.size) (hz : s.size ≤ 900) (hb : s.extract 0 16 ≠ tagOf key cell s) (hh : Arr w b 0 8 H0.fn) (hkn : Arr w b 8 64 kn) :
    Calls Tryd.prog 67 #[.pointer (some ⟨b, 0, none⟩), .string key, .int .i64 cell, .string s] w fun e w' => e = .returned (.tuple #[.string ⟨#[]⟩, .string ⟨#[]⟩, .int .i64 15]) ∧ Since w w' := by
  have e1 : (key.size : Int) = 32 := by omega
  have e2 : decide ((s.size : Int) < 109) = false := by simp; omega
  have e3 : (109 : Int) ≤ s.size := by omega
  have e4 : (16 : Int) ≤ s.size := by omega
  have z1 : (s.extract 16 109).size = 93 := by rw [ByteArray.size_extract]; omega
  have HH : Hid (Arr w b 0 8 H0.fn) := hh
  have HK : Hid (Arr w b 8 64 kn) := hkn
  have hb2 : ¬ mk 103 key cell (s.extract 16 109) = s.extract 0 16 := fun e => hb e.symm
  have hb3 := neq_list hb2
  have HM : Hid (RMk b key cell (s.extract 16 109) (mk 103 key cell (s.extract 16 109))) := rmk_all hsum b key cell (s.extract 16 109) (by omega) (by omega)
  clear hb2 hb hh hkn
  generalize mk 103 key cell (s.extract 16 109) = T at *
  go_enter Tryd.func67, Tryd.ntmps67
  go_wp2_with fail
  go_region_held3 (fun _ => True) (trivial) (first
    | (go_simp; go_at_call 18; refine (refNum_any cell _).mono ?_; rintro e w2 ⟨rfl, h2⟩; rw [show strOfNums (be8 (cell % 18446744073709551616)) = numT cell from rfl]; dsimp only)
    | (go_simp; go_at_call 20; refine (HM.out w2 w HH.out HK.out ((Since.refl _).drew.trans h2)).mono ?_; rintro e w3 ⟨rfl, h3⟩; dsimp only))
  all_goals
    have HS3 : Hid (Since w w3) := ((Since.refl _).drew.trans h2).trans h3
    clear h2 h3
    go_wp2_with fail
    go_ret3
    exact ⟨rfl, HS3.out⟩
set_option maxHeartbeats 1000000 in
theorem runseal_ok (hsum : RSum) (b : Nat) (key : ByteArray) (cell : Int) (s : ByteArray) (w : World) (h : key.size = 32) (hs : 109 ≤ s.size) (hz : s.size ≤ 900) (hb : s.extract 0 16 = tagOf key cell s) (hh : Arr w b 0 8 H0.fn) (hkn : Arr w b 8 64 kn) :
    Calls Tryd.prog 67 #[.pointer (some ⟨b, 0, none⟩), .string key, .int .i64 cell, .string s] w fun e w' => e = .returned (.tuple #[.string (s.extract 0 16), .string (textOf key s), .int .i64 0]) ∧ Since w w' := by
  have e1 : (key.size : Int) = 32 := by omega
  have e2 : decide ((s.size : Int) < 109) = false := by simp; omega
  have e3 : (109 : Int) ≤ s.size := by omega
  have e4 : (16 : Int) ≤ s.size := by omega
  have e5 : (28 : Int) ≤ s.size := by omega
  have z1 : (s.extract 16 109).size = 93 := by rw [ByteArray.size_extract]; omega
  have z2 : (s.extract 16 28).size = 12 := by rw [ByteArray.size_extract]; omega
  have z3 : (s.extract 28 109).size = 81 := by rw [ByteArray.size_extract]; omega
  have HH : Hid (Arr w b 0 8 H0.fn) := hh
  have HK : Hid (Arr w b 8 64 kn) := hkn
  have hb2 : mk 103 key cell (s.extract 16 109) = s.extract 0 16 := hb.symm
  have HM : Hid (RMk b key cell (s.extract 16 109) (mk 103 key cell (s.extract 16 109))) := rmk_all hsum b key cell (s.extract 16 109) (by omega) (by omega)
  rw [hb2] at HM
  clear hb2 hb hh hkn
  have x1 : (strOfNums (xorOf key (s.extract 16 28) (s.extract 28 109))).size = 81 := by rw [xor_size, z3]
  have hx := fun w => refXor_any key (s.extract 16 28) (s.extract 28 109) w h z2 (by omega)
  have HX : Hid (cutB (strOfNums (xorOf key (s.extract 16 28) (s.extract 28 109))) = textOf key s) := by
    show cutB _ = textOf key s
    unfold textOf
    rfl
  generalize hB : strOfNums (xorOf key (s.extract 16 28) (s.extract 28 109)) = B at *
  clear hB
  generalize hq : textOf key s = q at *
  clear hq
  have HXc : Hid (∀ w, Calls Tryd.prog 24 #[.string key, .string (s.extract 16 28), .string (s.extract 28 109)] w fun e w' => e = .returned (.tuple #[.string B, .int .i64 0]) ∧ Since w w') := hx
  clear hx
  have b0 : 0 < B.size := by omega
  have bI : (B.size : Int) = 81 := by omega
  have hb := sb0 B b0
  have HC : Hid (B.extract 1 (1 + min (sb B 0).toNat 80) = q) := HX.out
  clear HX
  generalize sb B 0 = y at *
  have hy := y.toNat_lt
  go_enter Tryd.func67, Tryd.ntmps67
  go_wp2_with fail
  go_region_held3 (fun _ => True) (trivial) (first
    | (go_simp; go_at_call 18; refine (refNum_any cell _).mono ?_; rintro e w2 ⟨rfl, h2⟩; rw [show strOfNums (be8 (cell % 18446744073709551616)) = numT cell from rfl]; dsimp only)
    | (go_simp; go_at_call 20; refine (HM.out w2 w HH.out HK.out ((Since.refl _).drew.trans h2)).mono ?_; rintro e w3 ⟨rfl, h3⟩; dsimp only))
  have HS3 : Hid (Since w w3) := ((Since.refl _).drew.trans h2).trans h3
  clear h2 h3 HM
  go_wp2_with fail
  go_region_held3 (fun _ => True) (trivial) (first
    | (go_simp; go_at_call 24; refine (HXc.out _).mono ?_; rintro e w4 ⟨rfl, h4⟩; dsimp only))
  have HS4 : Hid (Since w w4) := HS3.out.trans ((Since.refl _).drew.trans h4)
  clear h4 HS3 HXc
  by_cases hy2 : y.toNat ≤ 80
  · have y2 : ¬ (80 : Int) < y.toNat := by omega
    have hc := HC.out
    rw [Nat.min_eq_left hy2] at hc
    have HC2 : Hid (B.extract 1 (1 + y.toNat) = q) := hc
    clear hc HC
    go_wp2_with fail
    go_quiet (fail)
    go_wp2_with fail
    go_ret3
    exact ⟨by rw [← HC2.out]; rfl, HS4.out.drewN _⟩
  · have y2 : (80 : Int) < y.toNat := by omega
    have hc := HC.out
    rw [Nat.min_eq_right (by omega)] at hc
    have HC2 : Hid (B.extract 1 (1 + 80) = q) := hc
    clear hc HC
    go_wp2_with fail
    go_quiet (fail)
    go_wp2_with fail
    go_ret3
    exact ⟨by rw [← HC2.out]; rfl, HS4.out.drewN _⟩
end Sl
end Go.Proofs.YtjfhggcjdckfgaaDoor
