/- The reference's TableWrite of a table that is right. -/
import Derived.Test.YtjfhggcjdckfgaaDoorY7
namespace Go.Proofs.YtjfhggcjdckfgaaDoor
set_option linter.unusedSimpArgs false
set_option linter.unusedVariables false
set_option maxRecDepth 100000
namespace Tw
open Go.RowKit
open Sm (Tab RSum rmark_any refNum_any markOf accTo be8 Arr H0 kn conv_cells)
open Sl (zeros_any)
attribute [local go_sem ↓] conv2

set_option maxHeartbeats 4000000 in
theorem rwrite_ok (hsum : RSum) (b : Nat) (key : ByteArray) (T : Tb) (w : World) (h : key.size = 32) (hr : Rt T) (hh : Arr w b 0 8 H0.fn) (hkn : Arr w b 8 64 kn) :
    Calls Tryd.prog 70 #[.pointer (some ⟨b, 0, none⟩), .string key, tval T] w fun e w' => e = .returned (.tuple #[.string (text key T), .int .i64 0]) ∧ Since w w' := by
  have e1 : (key.size : Int) = 32 := by omega
  have HRT : Hid (Rt T) := hr
  have HH : Hid (Arr w b 0 8 H0.fn) := hh
  have HK : Hid (Arr w b 8 64 kn) := hkn
  have hC := tab_cel T w
  have hR := tab_all hC
  have hri := fun W => rright_any T W
  rw [rtB_true hr] at hri
  have HRI : Hid (∀ W, Calls Tryd.prog 73 #[tval T] W fun e w' => e = .returned (.bool true) ∧ Since W w') := hri
  clear hri hr hh hkn
  have hL : (brow 73 (tcell T)).length = 73 := brow_length _ _
  unfold tval at *
  generalize brow 73 (tcell T) = cs at *
  have HC : Hid (Cel (w.alloc (.cells cs.toArray 100)) w.heap.size 73 (tcell T)) := hC
  have HS : Hid (Since w (w.alloc (.cells cs.toArray 100))) := (Since.refl w).alloc _
  clear hC
  go_enter Tryd.func70, Tryd.ntmps70
  go_wp2_with fail
  refine wp_load_mid 100 _ (by rfl) w.heap.size 0 (by rfl) _ _ hR Tryd.underlying100 (by rfl) (by rw [hL]; kernel_rfl) ?_
  clear hR hL
  go_wp2_with fail
  refine (HRI.out _).mono ?_
  rintro e w1 ⟨rfl, h1⟩
  have HC1 : Hid (Cel w1 w.heap.size 73 (tcell T)) := HC.out.since h1
  have HS1 : Hid (Since w w1) := HS.out.trans h1
  clear HS HC h1 HRI
  have q0 := HC1.out.cell 0 (by omega)
  rw [show tcell T 0 = .int .i64 T.count from rfl] at q0
  go_wp2_with fail
  refine (refNum_any _ _).mono ?_
  rintro e w2 ⟨rfl, h2⟩
  have HHD : strOfNums (be8 (T.count % 18446744073709551616)) = bodyT T 0 := by rw [bodyT_zero]; rfl
  rw [HHD]
  clear HHD q0
  have HC2 : Hid (Cel w2 w.heap.size 73 (tcell T)) := HC1.out.since h2
  have HS2 : Hid (Since w w2) := HS1.out.trans h2
  clear h2 HC1 HS1
  have hR := tab_cells HC2.out
  have hL : (brow 72 (ccell T)).length = 72 := brow_length _ _
  have HIX : Hid (∀ (k : Nat) (hk : k < 24) (w : World), (Instr.index 98 (.agg (brow 72 (ccell T)).toArray) (.int .i64 (k : Int))).run Tryd.prog w = .ok (.agg #[.int .i64 (T.zone k), .int .i64 (T.off k), .string (T.tag k)]) w) := fun k hk w => idx_cell T k hk w
  generalize hcs : brow 72 (ccell T) = cs2 at *
  clear hcs
  go_wp2_with (refine wpList_load_mid (by rfl) 98 _ (by rfl) w.heap.size 1 (by rfl) _ _ hR Tryd.underlying98 (by rfl) (by rw [hL]; kernel_rfl) ?_)
  clear hR hL
  go_loopw [24, 8] (fun i s wr => ∃ k : Nat, k ≤ 24 ∧ i = .int .i64 k ∧ s = .string (bodyT T k) ∧ Since w wr) (fun i _ _ => 24 - (intOf i).toNat)
  case atStart => exact ⟨0, by omega, rfl, rfl, HS2.out⟩
  case round =>
    obtain ⟨k, hk, rfl, rfl, hs⟩ := hrel
    have HSK : Hid (Since w wr) := hs
    clear hs
    have hbz := bodyT_size HRT.out.2 k hk
    by_cases hlt : k < 24
    · have hlt2 : (k : Int) < 24 := by omega
      have hix := HIX.out k hlt
      by_cases hn : nul T k
      · have HBN : Hid (bodyT T k ++ ((⟨#[255]⟩ : ByteArray) ++ txt 17 (fun _ => 0)) = bodyT T (k + 1)) := bodyT_nul hn
        obtain ⟨z0, o0, t0⟩ := hn
        rw [z0, o0, t0] at hix
        clear z0 o0 t0
        have HZ : Hid (∀ W, Calls Tryd.prog 95 #[.int .i64 17] W fun e w' => e = .returned (.string (txt 17 (fun _ => 0))) ∧ Since W w') := fun W => zeros_any 17 W (by omega)
        have hz17 : (txt 17 (fun _ => 0)).size = 17 := txt_size _ _
        generalize txt 17 (fun _ => 0) = Z at *
        generalize bodyT T k = B at *
        go_wp2_with fail
        refine (HZ.out _).mono ?_
        rintro e w4 ⟨rfl, h4⟩
        have HS4 : Hid (Since w w4) := (HSK.out.alloc _).trans h4
        clear h4
        have hx1 : (⟨#[255]⟩ : ByteArray).size + Z.size ≤ 9223372036854775807 := by show 1 + Z.size ≤ _; omega
        have hx2 : ((⟨#[255]⟩ : ByteArray) ++ Z).size = 18 := by rw [ByteArray.size_append]; show 1 + Z.size = 18; omega
        have hx3 : B.size + ((⟨#[255]⟩ : ByteArray) ++ Z).size ≤ 9223372036854775807 := by omega
        go_wp2_with fail
        rw [HBN.out]
        go_roundw
        case rel => exact ⟨k + 1, by omega, by go_num, rfl, HS4.out⟩
        case measure => simp [intOf]; omega
      · have hm : may T k := (fine_or HRT.out.2 hlt).resolve_left hn
        obtain ⟨m1, m2, m3, m4, m5⟩ := hm
        obtain ⟨z, hz⟩ : ∃ z : Nat, T.zone k = z := ⟨(T.zone k).toNat, by omega⟩
        obtain ⟨o, ho⟩ : ∃ o : Nat, T.off k = o := ⟨(T.off k).toNat, by omega⟩
        have HBN : Hid (bodyT T k ++ strOfNums [(z : Int), (o : Int)] ++ T.tag k = bodyT T (k + 1)) := bodyT_may hn z o hz ho
        rw [hz, ho] at hix
        rw [hz] at m2 m3
        rw [ho] at m4 m5
        have hwz : IntKind.u8.wrap (z : Int) = z := by simp [IntKind.wrap, IntKind.bits, IntKind.signed]; omega
        have hwo : IntKind.u8.wrap (o : Int) = o := by simp [IntKind.wrap, IntKind.bits, IntKind.signed]; omega
        have ht1 : ¬ (T.tag k).toList = [] := by
          rw [ByteArray.toList_eq]
          intro e
          have h2 : (T.tag k).data.toList.length = 16 := by rw [Array.length_toList]; exact m1
          rw [e] at h2
          exact absurd h2 (by decide)
        have ht2 : (T.tag k).toList.isEmpty = false := by
          cases hq : (T.tag k).toList with
          | nil => exact absurd hq ht1
          | cons _ _ => rfl
        clear hz ho hn m2 m3 m4 m5
        have hx0 : (strOfNums [(z : Int), (o : Int)]).size = 2 := strOfNums_size _
        generalize T.tag k = t at *
        generalize bodyT T k = B at *
        have hx1 : B.size + (strOfNums [(z : Int), (o : Int)]).size ≤ 9223372036854775807 := by omega
        have hx2 : (B ++ strOfNums [(z : Int), (o : Int)]).size + t.size ≤ 9223372036854775807 := by rw [ByteArray.size_append]; omega
        have hcv := conv2 (wr.alloc (.cells #[.int .i64 (z : Int), .int .i64 (o : Int), .string t] 97)) z o 5 2
        rw [World.size_alloc] at hcv
        go_wp2_with fail
        rw [HBN.out]
        go_roundw
        case rel => exact ⟨k + 1, by omega, by go_num, rfl, (HSK.out.alloc _).alloc _⟩
        case measure => simp [intOf]; omega
    · have hke : k = 24 := by omega
      subst hke
      have HBD : Hid (bodyT T 24 = body T) := show bodyT T 24 = body T from rfl
      have HM : Hid (mk2 key (body T) ++ body T = text key T) := rfl
      have hms := mk2_size key (body T)
      rw [HBD.out] at hbz ⊢
      clear HBD
      generalize hbd : body T = bd at *
      clear hbd
      go_wp2_with fail
      have hm := rmark_any hsum b 116 wr.heap.size 0 2 2 (two key bd) (wr.alloc (.cells #[.string key, .string bd] 9)) (by omega) (fun j _ => two_size key bd (by omega) (by omega) j) (HH.out.since (HSK.out.alloc _)) (HK.out.since (HSK.out.alloc _)) (fun j hj => two_cells wr key bd 9 j hj)
      rw [show ((116 : UInt8).toNat : Int) = 116 from rfl] at hm
      refine hm.mono ?_
      clear hm
      rintro e w6 ⟨rfl, h6⟩
      have HMK : markOf ⟨(accTo 116 (two key bd) 2).toArray⟩ = mk2 key bd := rfl
      rw [HMK]
      clear HMK
      have HS6 : Hid (Since w w6) := (HSK.out.alloc _).trans h6
      clear h6
      generalize mk2 key bd = M at *
      have hx : M.size + bd.size ≤ 9223372036854775807 := by omega
      go_wp2_with fail
      go_ret2
      exact ⟨by rw [← HM.out]; rfl, HS6.out⟩
end Tw
end Go.Proofs.YtjfhggcjdckfgaaDoor
