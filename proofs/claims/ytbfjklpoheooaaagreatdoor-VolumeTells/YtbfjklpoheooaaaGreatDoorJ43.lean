import Derived.Test.YtbfjklpoheooaaaGreatDoorJ14
import Derived.Test.YtbfjklpoheooaaaGreatDoorJ21
import Derived.Test.YtbfjklpoheooaaaGreatDoorJ42
set_option linter.unusedSimpArgs false
set_option linter.unusedVariables false
section
namespace Go.Proofs.YtbfjklpoheooaaaGreatDoor
set_option maxRecDepth 100000
namespace Sl
open Go.RowKit
open Sm (Tab RSum rmark_any refNum_any markOf accTo be8 Arr H0 kn conv_cells)
open Sm.Sr (refXor_any xorOf)
theorem rin_any (n lo hi : Int) (w : World) : Calls Tryz.prog 42 #[.int .i64 n, .int .i64 lo, .int .i64 hi] w fun e w' => e = .returned (.bool (decide (lo ≤ n) && decide (n ≤ hi))) ∧ w' = w := by
  by_cases h : lo ≤ n
  · go_enter Tryz.func42, Tryz.ntmps42
    go_wp2_with fail
    go_ret
    exact ⟨by simp [h], rfl⟩
  · go_enter Tryz.func42, Tryz.ntmps42
    go_wp2_with fail
    go_ret
    exact ⟨by simp [h]; intro h2; omega, rfl⟩
theorem rmk (hsum : RSum) (b : Nat) (kd : UInt8) (key : ByteArray) (cell : Int) (t : ByteArray) (w : World) (hk : key.size ≤ 900) (ht : t.size ≤ 900) (hh : Arr w b 0 8 H0.fn) (hkn : Arr w b 8 64 kn) :
    Calls Tryz.prog 106 #[.pointer (some ⟨b, 0, none⟩), .int .u8 kd.toNat, .slice (some ⟨w.heap.size, 0, none⟩) 3 3] (w.alloc (.cells #[.string key, .string (numT cell), .string t] 9)) fun e w' => e = .returned (.string (mk kd key cell t)) ∧ Since w w' := by
  have hS : Since w (w.alloc (.cells #[.string key, .string (numT cell), .string t] 9)) := (Since.refl w).alloc _
  refine (rmark_any hsum b kd w.heap.size 0 3 3 (three key (numT cell) t) _ (by omega) (fun j _ => three_size key (numT cell) t hk (by rw [numT_size]; omega) ht j) (hh.since hS) (hkn.since hS) (fun j hj => three_cells w key (numT cell) t 9 j hj)).mono ?_
  rintro e w2 ⟨rfl, h2⟩
  exact ⟨by unfold mk; rfl, hS.trans h2⟩
theorem conv_since {W w4 : World} {a : Int} {ty : TypeId} (h4 : Since (W.alloc (.cells #[.int .u8 a] ty)) w4) (cap : Nat) :
    (convert 122 9 (.slice (some ⟨W.heap.size, 0, none⟩) 1 cap)).run Tryz.prog w4 = .ok (.string (strOfNums [a])) w4 := by
  refine conv_cells w4 [a] W.heap.size 1 cap rfl (fun i hi => ?_)
  have hi0 : i = 0 := by simp at hi; omega
  subst hi0
  rw [h4.cell (p := ⟨W.heap.size, 0, none⟩) (by simp), World.cell?_alloc_new]
  rfl
theorem conv_here (W : World) (a : Int) (ty : TypeId) (cap : Nat) :
    (convert 122 9 (.slice (some ⟨W.heap.size, 0, none⟩) 1 cap)).run Tryz.prog (W.alloc (.cells #[.int .u8 a] ty)) = .ok (.string (strOfNums [a])) (W.alloc (.cells #[.int .u8 a] ty)) := conv_since (Since.refl _) cap
theorem conv_sinceD {W w4 : World} {a : Int} {ty : TypeId} (h4 : Since (W.alloc (.cells #[.int .u8 a] ty)).drew w4) (cap : Nat) :
    (convert 122 9 (.slice (some ⟨W.heap.size, 0, none⟩) 1 cap)).run Tryz.prog w4 = .ok (.string (strOfNums [a])) w4 := conv_since ((Since.refl _).drew.trans h4) cap
theorem conv_drew (W : World) (a : Int) (ty : TypeId) (cap : Nat) :
    (convert 122 9 (.slice (some ⟨W.heap.size, 0, none⟩) 1 cap)).run Tryz.prog (W.alloc (.cells #[.int .u8 a] ty)).drew = .ok (.string (strOfNums [a])) (W.alloc (.cells #[.int .u8 a] ty)).drew := conv_since (Since.refl _).drew cap
attribute [local go_sem ↓] conv_here conv_drew
set_option maxHeartbeats 1000000 in
theorem rseal_ok (hsum : RSum) (b : Nat) (key : ByteArray) (cell : Int) (t : ByteArray) (w : World) (h : key.size = 32) (h0 : 0 ≤ cell) (h1 : cell < 24) (ht : t.size ≤ 80) (hh : Arr w b 0 8 H0.fn) (hkn : Arr w b 8 64 kn) :
    Calls Tryz.prog 96 #[.pointer (some ⟨b, 0, none⟩), .string key, .int .i64 cell, .string t] w fun e w' => e = .returned (.tuple #[.string (sealOf key cell t), .int .i64 0]) ∧ Since w w' := by
  have e1 : (key.size : Int) = 32 := by omega
  have e4 : ¬ (80 : Int) < t.size := by omega
  have hn : (decide (0 ≤ cell) && decide (cell ≤ 23)) = true := by simp; omega
  have HH : Hid (Arr w b 0 8 H0.fn) := hh
  have HK : Hid (Arr w b 8 64 kn) := hkn
  clear hh hkn
  go_enter Tryz.func96, Tryz.ntmps96
  go_wp2_with fail
  refine (rin_any _ _ _ _).mono ?_
  rintro e w1 ⟨rfl, rfl⟩
  rw [hn]
  go_wp2_with fail
  refine (refNum_any cell _).mono ?_
  rintro e w2 ⟨rfl, h2⟩
  have HN8 : strOfNums (be8 (cell % 18446744073709551616)) = numT cell := rfl
  rw [HN8]
  clear HN8
  go_wp2_with fail
  have hm := rmk hsum b 110 key cell t w2 (by omega) (by omega) (HH.out.since h2) (HK.out.since h2)
  rw [show ((110 : UInt8).toNat : Int) = 110 from rfl] at hm
  refine hm.mono ?_
  clear hm
  rintro e w3 ⟨rfl, h3⟩
  have HS3 : Hid (Since w1 w3) := h2.trans h3
  clear h2 h3
  have m1 := mk_size 110 key cell t
  have HNO : Hid ((mk 110 key cell t).extract 0 12 = nonceOf key cell t) := show _ = nonceOf key cell t from rfl
  have n1 := nonce_size key cell t
  generalize hmk : mk 110 key cell t = M at *
  clear hmk
  go_wp2_with fail
  rw [HNO.out]
  generalize hn : nonceOf key cell t = nn at *
  have HNN : Hid (nonceOf key cell t = nn) := hn
  clear hn HNO
  have f1 := fill_size t
  have HFR : Hid (strOfNums [(t.size : Int)] ++ txt 80 (sb t) = fill t) := fill_ref t ht
  have hl := fun W => rlong_any t 80 W (by omega)
  have HL : Hid (∀ W, Calls Tryz.prog 64 #[.string t, .int .i64 80] W fun e w' => e = .returned (.string (txt 80 (sb t))) ∧ Since W w') := hl
  clear hl
  have p1 : (txt 80 (sb t)).size = 80 := txt_size _ _
  generalize txt 80 (sb t) = L at *
  generalize hf : fill t = F at *
  have HF : Hid (fill t = F) := hf
  clear hf
  have hx := fun W => refXor_any key nn F W h n1 (by omega)
  have HX : Hid (∀ W, Calls Tryz.prog 120 #[.string key, .string nn, .string F] W fun e w' => e = .returned (.tuple #[.string (strOfNums (xorOf key nn F)), .int .i64 0]) ∧ Since W w') := hx
  clear hx
  have x1 : (strOfNums (xorOf key nn F)).size = 81 := by rw [xor_size, f1]
  generalize hB : strOfNums (xorOf key nn F) = B at *
  have HB : Hid (strOfNums (xorOf key nn F) = B) := hB
  clear hB
  have q8 : IntKind.u8.wrap (t.size : Int) = t.size := by simp [IntKind.wrap, IntKind.bits, IntKind.signed]; omega
  have l1 : (strOfNums [(t.size : Int)]).size = 1 := strOfNums_size _
  go_region_with (first
    | (go_simp; go_at_call 64; refine (HL.out _).mono ?_; rintro e w4 ⟨rfl, h4⟩; (first | (have hcv := fun cap => conv_sinceD h4 cap) | (have hcv := fun cap => conv_since h4 cap) | skip); dsimp only)
    | (go_simp; go_at_call 120; rw [HFR.out]; refine (HX.out _).mono ?_; rintro e w5 ⟨rfl, h5⟩; dsimp only))
  all_goals
    have HS5 : Hid (Since w1 w5) := show Since w1 w5 from HS3.out.trans (by
      first
        | exact (((Since.refl _).alloc _).drew.trans h4).trans h5
        | exact ((Since.refl _).drew.trans h4).trans (((Since.refl _).alloc _).trans h5)
        | exact (((Since.refl _).drew.trans h4).alloc _).trans h5)
    clear h4 h5 HS3 HL HX HFR q8 l1
    try clear hcv
    go_wp2_with fail
    refine (refNum_any cell _).mono ?_
    rintro e w6 ⟨rfl, h6⟩
    have HN8 : strOfNums (be8 (cell % 18446744073709551616)) = numT cell := rfl
    rw [HN8]
    clear HN8
    have r1 : (nn ++ B).size = 93 := by rw [ByteArray.size_append]; omega
    have hsm : nn.size + B.size ≤ 9223372036854775807 := by omega
    go_wp2_with fail
    generalize hR : nn ++ B = R at *
    have HR : Hid (nn ++ B = R) := hR
    clear hR
    have HS6 : Hid (Since w1 w6) := HS5.out.trans h6
    have hm := rmk hsum b 103 key cell R w6 (by omega) (by omega) (HH.out.since HS6.out) (HK.out.since HS6.out)
    rw [show ((103 : UInt8).toNat : Int) = 103 from rfl] at hm
    refine hm.mono ?_
    clear hm
    rintro e w7 ⟨rfl, h7⟩
    have HS7 : Hid (Since w1 w7) := HS6.out.trans h7
    clear h6 h7
    have m2 := mk_size 103 key cell R
    generalize hT2 : mk 103 key cell R = T at *
    have HT2 : Hid (mk 103 key cell R = T) := hT2
    clear hT2
    have t1 : (T ++ nn).size = 28 := by rw [ByteArray.size_append]; omega
    have hsm2 : T.size + nn.size ≤ 9223372036854775807 := by omega
    have hsm3 : (T ++ nn).size + B.size ≤ 9223372036854775807 := by omega
    go_wp2_with fail
    go_ret2
    refine ⟨?_, HS7.out⟩
    unfold sealOf restOf bodyOf
    rw [HNN.out, HF.out, HB.out, HR.out, HT2.out, ← HR.out, ← ByteArray.append_assoc]
    rfl
end Sl
end Go.Proofs.YtbfjklpoheooaaaGreatDoor
end
section
namespace Go.Proofs.YtbfjklpoheooaaaGreatDoor
set_option maxRecDepth 100000
namespace Sl
open Go.RowKit
open Sm (Tab RSum rmark_any refNum_any markOf accTo be8 Arr H0 kn conv_cells)
open Sm.Sr (refXor_any xorOf)
def RMk (b : Nat) (key : ByteArray) (cell : Int) (x T : ByteArray) : Prop := ∀ w w0 : World, Arr w0 b 0 8 H0.fn → Arr w0 b 8 64 kn → Since w0 w →
    Calls Tryz.prog 106 #[.pointer (some ⟨b, 0, none⟩), .int .u8 103, .slice (some ⟨w.heap.size, 0, none⟩) 3 3] (w.alloc (.cells #[.string key, .string (numT cell), .string x] 9)) fun e w' => e = .returned (.string T) ∧ Since w w'
theorem rmk_all (hsum : RSum) (b : Nat) (key : ByteArray) (cell : Int) (x : ByteArray) (hk : key.size ≤ 900) (hx : x.size ≤ 900) : RMk b key cell x (mk 103 key cell x) := by
  intro w w0 h1 h2 h3
  have hm := rmk hsum b 103 key cell x w hk hx (h1.since h3) (h2.since h3)
  rw [show ((103 : UInt8).toNat : Int) = 103 from rfl] at hm
  exact hm
set_option maxHeartbeats 1000000 in
theorem runseal_bad (hsum : RSum) (b : Nat) (key : ByteArray) (cell : Int) (s : ByteArray) (w : World) (h : key.size = 32) (hs : 109 ≤ s.size) (hz : s.size ≤ 900) (hb : s.extract 0 16 ≠ tagOf key cell s) (hh : Arr w b 0 8 H0.fn) (hkn : Arr w b 8 64 kn) :
    Calls Tryz.prog 74 #[.pointer (some ⟨b, 0, none⟩), .string key, .int .i64 cell, .string s] w fun e w' => e = .returned (.tuple #[.string ⟨#[]⟩, .string ⟨#[]⟩, .int .i64 15]) ∧ Since w w' := by
  have e1 : (key.size : Int) = 32 := by omega
  have e2 : decide ((s.size : Int) < 109) = false := by simp; omega
  have e3 : (109 : Int) ≤ s.size := by omega
  have e4 : (16 : Int) ≤ s.size := by omega
  have z1 : (s.extract 16 109).size = 93 := by rw [ByteArray.size_extract]; omega
  have HH : Hid (Arr w b 0 8 H0.fn) := hh
  have HK : Hid (Arr w b 8 64 kn) := hkn
  have hb2 : ¬ mk 103 key cell (s.extract 16 109) = s.extract 0 16 := fun e => hb e.symm
  have hb3 := neq_list hb2
  have HM : Hid (RMk b key cell (s.extract 16 109) (mk 103 key cell (s.extract 16 109))) := rmk_all hsum b key cell (s.extract 16 109) (by omega) (by omega)
  clear hb2 hb hh hkn
  generalize mk 103 key cell (s.extract 16 109) = T at *
  go_enter Tryz.func74, Tryz.ntmps74
  go_wp2_with fail
  go_region_held3 (fun _ => True) (trivial) (first
    | (go_simp; go_at_call 105; refine (refNum_any cell _).mono ?_; rintro e w2 ⟨rfl, h2⟩; rw [show strOfNums (be8 (cell % 18446744073709551616)) = numT cell from rfl]; dsimp only)
    | (go_simp; go_at_call 106; refine (HM.out w2 w HH.out HK.out ((Since.refl _).drew.trans h2)).mono ?_; rintro e w3 ⟨rfl, h3⟩; dsimp only))
  all_goals
    have HS3 : Hid (Since w w3) := ((Since.refl _).drew.trans h2).trans h3
    clear h2 h3
    go_wp2_with fail
    go_ret3
    exact ⟨rfl, HS3.out⟩
set_option maxHeartbeats 1000000 in
theorem runseal_ok (hsum : RSum) (b : Nat) (key : ByteArray) (cell : Int) (s : ByteArray) (w : World) (h : key.size = 32) (hs : 109 ≤ s.size) (hz : s.size ≤ 900) (hb : s.extract 0 16 = tagOf key cell s) (hh : Arr w b 0 8 H0.fn) (hkn : Arr w b 8 64 kn) :
    Calls Tryz.prog 74 #[.pointer (some ⟨b, 0, none⟩), .string key, .int .i64 cell, .string s] w fun e w' => e = .returned (.tuple #[.string (s.extract 0 16), .string (textOf key s), .int .i64 0]) ∧ Since w w' := by
  have e1 : (key.size : Int) = 32 := by omega
  have e2 : decide ((s.size : Int) < 109) = false := by simp; omega
  have e3 : (109 : Int) ≤ s.size := by omega
  have e4 : (16 : Int) ≤ s.size := by omega
  have e5 : (28 : Int) ≤ s.size := by omega
  have z1 : (s.extract 16 109).size = 93 := by rw [ByteArray.size_extract]; omega
  have z2 : (s.extract 16 28).size = 12 := by rw [ByteArray.size_extract]; omega
  have z3 : (s.extract 28 109).size = 81 := by rw [ByteArray.size_extract]; omega
  have HH : Hid (Arr w b 0 8 H0.fn) := hh
  have HK : Hid (Arr w b 8 64 kn) := hkn
  have hb2 : mk 103 key cell (s.extract 16 109) = s.extract 0 16 := hb.symm
  have HM : Hid (RMk b key cell (s.extract 16 109) (mk 103 key cell (s.extract 16 109))) := rmk_all hsum b key cell (s.extract 16 109) (by omega) (by omega)
  rw [hb2] at HM
  clear hb2 hb hh hkn
  have x1 : (strOfNums (xorOf key (s.extract 16 28) (s.extract 28 109))).size = 81 := by rw [xor_size, z3]
  have hx := fun w => refXor_any key (s.extract 16 28) (s.extract 28 109) w h z2 (by omega)
  have HX : Hid (cutB (strOfNums (xorOf key (s.extract 16 28) (s.extract 28 109))) = textOf key s) := by
    show cutB _ = textOf key s
    unfold textOf
    rfl
  generalize hB : strOfNums (xorOf key (s.extract 16 28) (s.extract 28 109)) = B at *
  clear hB
  generalize hq : textOf key s = q at *
  clear hq
  have HXc : Hid (∀ w, Calls Tryz.prog 120 #[.string key, .string (s.extract 16 28), .string (s.extract 28 109)] w fun e w' => e = .returned (.tuple #[.string B, .int .i64 0]) ∧ Since w w') := hx
  clear hx
  have b0 : 0 < B.size := by omega
  have bI : (B.size : Int) = 81 := by omega
  have hb := sb0 B b0
  have HC : Hid (B.extract 1 (1 + min (sb B 0).toNat 80) = q) := HX.out
  clear HX
  generalize sb B 0 = y at *
  have hy := y.toNat_lt
  go_enter Tryz.func74, Tryz.ntmps74
  go_wp2_with fail
  go_region_held3 (fun _ => True) (trivial) (first
    | (go_simp; go_at_call 105; refine (refNum_any cell _).mono ?_; rintro e w2 ⟨rfl, h2⟩; rw [show strOfNums (be8 (cell % 18446744073709551616)) = numT cell from rfl]; dsimp only)
    | (go_simp; go_at_call 106; refine (HM.out w2 w HH.out HK.out ((Since.refl _).drew.trans h2)).mono ?_; rintro e w3 ⟨rfl, h3⟩; dsimp only))
  have HS3 : Hid (Since w w3) := ((Since.refl _).drew.trans h2).trans h3
  clear h2 h3 HM
  go_wp2_with fail
  go_region_held3 (fun _ => True) (trivial) (first
    | (go_simp; go_at_call 120; refine (HXc.out _).mono ?_; rintro e w4 ⟨rfl, h4⟩; dsimp only))
  have HS4 : Hid (Since w w4) := HS3.out.trans ((Since.refl _).drew.trans h4)
  clear h4 HS3 HXc
  by_cases hy2 : y.toNat ≤ 80
  · have y2 : ¬ (80 : Int) < y.toNat := by omega
    have hc := HC.out
    rw [Nat.min_eq_left hy2] at hc
    have HC2 : Hid (B.extract 1 (1 + y.toNat) = q) := hc
    clear hc HC
    go_wp2_with fail
    go_quiet (fail)
    go_wp2_with fail
    go_ret3
    exact ⟨by rw [← HC2.out]; rfl, HS4.out.drewN _⟩
  · have y2 : (80 : Int) < y.toNat := by omega
    have hc := HC.out
    rw [Nat.min_eq_right (by omega)] at hc
    have HC2 : Hid (B.extract 1 (1 + 80) = q) := hc
    clear hc HC
    go_wp2_with fail
    go_quiet (fail)
    go_wp2_with fail
    go_ret3
    exact ⟨by rw [← HC2.out]; rfl, HS4.out.drewN _⟩
end Sl
end Go.Proofs.YtbfjklpoheooaaaGreatDoor
end
