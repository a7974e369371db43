/- Package table: Write of a table that is right. -/
import Derived.Test.YtjfhggcjdckfgaaDoorY5
namespace Go.Proofs.YtjfhggcjdckfgaaDoor
set_option linter.unusedSimpArgs false
set_option linter.unusedVariables false
set_option maxRecDepth 100000
namespace Tw
open Go.RowKit
open Sm (Tab mark_any num_any markOf accTo be8 sumSt builder_since)

theorem fine_or {T : Tb} {n k : Nat} (h : fine T n) (hk : k < n) : nul T k ∨ may T k := by
  rcases h k hk with h1 | h1
  · exact Or.inl h1
  · exact Or.inr h1.1
set_option maxHeartbeats 4000000 in
theorem write_ok (key : ByteArray) (T : Tb) (w : World) (h : key.size = 32) (hr : Rt T) (hT : Tab w) :
    Calls Tryd.prog 71 #[.string key, tval T] w fun e w' => e = .returned (.tuple #[.string (text key T), .nilIface]) ∧ Since w w' := by
  have e1 : (key.size : Int) = 32 := by omega
  have HRT : Hid (Rt T) := hr
  have HT : Hid (Tab w) := hT
  have hC := tab_cel T w
  have hR := tab_all hC
  have hri := fun W => right_any T W
  rw [rtB_true hr] at hri
  have HRI : Hid (∀ W, Calls Tryd.prog 72 #[tval T] W fun e w' => e = .returned (.bool true) ∧ Since W w') := hri
  clear hri hr hT
  have hL : (brow 73 (tcell T)).length = 73 := brow_length _ _
  unfold tval at *
  generalize brow 73 (tcell T) = cs at *
  have HC : Hid (Cel (w.alloc (.cells cs.toArray 100)) w.heap.size 73 (tcell T)) := hC
  have HS : Hid (Since w (w.alloc (.cells cs.toArray 100))) := (Since.refl w).alloc _
  clear hC
  go_enter Tryd.func71, Tryd.ntmps71
  go_wp2_with fail
  refine wp_load_mid 100 _ (by rfl) w.heap.size 0 (by rfl) _ _ hR Tryd.underlying100 (by rfl) (by rw [hL]; kernel_rfl) ?_
  clear hR hL
  go_wp2_with fail
  refine (HRI.out _).mono ?_
  rintro e w1 ⟨rfl, h1⟩
  have HC1 : Hid (Cel w1 w.heap.size 73 (tcell T)) := HC.out.since h1
  have HS1 : Hid (Since w w1) := HS.out.trans h1
  clear HS HC h1 HRI
  have hl1 : w.heap.size < w1.heap.size := HC1.out.lt (by omega)
  have hB0 : Lib.IsBuilderF 126 5 w1.heap.size w1.heap.size [] (w1.alloc (.cells #[.pointer none, .slice none 0 0] 126)) := Lib.IsBuilderF.of (Lib.fresh_isBuilder 126 5 w1)
  have HB0 : Hid (Lib.IsBuilderF 126 5 w1.heap.size w1.heap.size [] (w1.alloc (.cells #[.pointer none, .slice none 0 0] 126))) := hB0
  have HS2 : Hid (Since w1 (w1.alloc (.cells #[.pointer none, .slice none 0 0] 126))) := (Since.refl w1).alloc _
  clear hB0
  have q0 := (HC1.out.since HS2.out).cell 0 (by omega)
  rw [show tcell T 0 = .int .i64 T.count from rfl] at q0
  go_wp2_with fail
  refine (num_any _ _).mono ?_
  rintro e w2 ⟨rfl, h2⟩
  have HHD : strOfNums (be8 (T.count % 18446744073709551616)) = hd T := rfl
  rw [HHD]
  clear HHD q0
  have HB2 : Hid (Lib.IsBuilderF 126 5 w1.heap.size w1.heap.size [] w2) := builder_since HB0.out h2
  have HS3 : Hid (Since w1 w2) := HS2.out.trans h2
  clear h2 HB0 HS2
  have h8 := hd_size T
  have hlen0 : (bodyL T 0) = (hd T).data.toList := by unfold bodyL; rw [cellsL_zero, List.append_nil]
  have HL0 : Hid ((bodyL T 0) = (hd T).data.toList) := hlen0
  clear hlen0
  generalize hd T = H at *
  go_wp2_with fail
  refine (writeString_any w1.heap.size w1.heap.size [] H _ HB2.out (by simp; omega) HS3.out.size).mono ?_
  rintro e w3 ⟨rfl, h3, b3, _⟩
  have HB3 : Hid (Lib.IsBuilderF 126 5 w1.heap.size w1.heap.size (Lib.byteCells (bodyL T 0)) w3) := by
    refine Or.inr ?_
    rw [Lib.strCells_eq] at h3
    rw [HL0.out]
    simpa [Lib.byteCells] using h3
  have HS4 : Hid (Since w1 w3) := Below.trans HS3.out b3
  clear h3 b3 HB2 HS3 HL0
  have hR := tab_cells (HC1.out.since HS4.out)
  have hL : (brow 72 (ccell T)).length = 72 := brow_length _ _
  have HIX : Hid (∀ (k : Nat) (hk : k < 24) (w : World), (Instr.index 98 (.agg (brow 72 (ccell T)).toArray) (.int .i64 (k : Int))).run Tryd.prog w = .ok (.agg #[.int .i64 (T.zone k), .int .i64 (T.off k), .string (T.tag k)]) w) := fun k hk w => idx_cell T k hk w
  generalize hcs : brow 72 (ccell T) = cs2 at *
  clear hcs
  go_wp2_with (refine wpList_load_mid (by rfl) 98 _ (by rfl) w.heap.size 1 (by rfl) _ _ hR Tryd.underlying98 (by rfl) (by rw [hL]; kernel_rfl) ?_)
  clear hR hL
  go_loopw [24] (fun i wr => ∃ k : Nat, k ≤ 24 ∧ i = .int .i64 k ∧ Lib.IsBuilderF 126 5 w1.heap.size w1.heap.size (Lib.byteCells (bodyL T k)) wr ∧ Since w1 wr) (fun i _ => 24 - (intOf i).toNat)
  case atStart => exact ⟨0, by omega, rfl, HB3.out, HS4.out⟩
  case round =>
    obtain ⟨k, hk, rfl, hb, hs⟩ := hrel
    have HBK : Hid (Lib.IsBuilderF 126 5 w1.heap.size w1.heap.size (Lib.byteCells (bodyL T k)) wr) := hb
    have HSK : Hid (Since w1 wr) := hs
    clear hb hs
    by_cases hlt : k < 24
    · have hlt2 : (k : Int) < 24 := by omega
      have hix := HIX.out k hlt
      have HWR : Hid (∀ W, Calls Tryd.prog 131 #[.agg #[.int .i64 (T.zone k), .int .i64 (T.off k), .string (T.tag k)]] W fun e w' => e = .returned (.string ⟨(cellL T k).toArray⟩) ∧ Since W w') := fun W => written_any T k W (fine_or HRT.out.2 hlt)
      have HLS : Hid ((bodyL T k).length ≤ 1000) := by have := bodyL_len HRT.out.2 k (by omega); show (bodyL T k).length ≤ 1000; omega
      have HLC : Hid ((cellL T k).length = 18) := cellL_len HRT.out.2 k hlt
      have HLN : Hid (bodyL T (k + 1) = bodyL T k ++ cellL T k) := bodyL_succ T k
      generalize T.zone k = z at *
      generalize T.off k = o at *
      generalize T.tag k = t at *
      generalize cellL T k = c at *
      go_wp2_with fail
      refine (HWR.out _).mono ?_
      rintro e w4 ⟨rfl, h4⟩
      have HB4 : Hid (Lib.IsBuilderF 126 5 w1.heap.size w1.heap.size (Lib.byteCells (bodyL T k)) w4) := builder_since HBK.out (((Since.refl _).alloc _).trans h4)
      have HS5 : Hid (Since w1 w4) := (HSK.out.alloc _).trans h4
      clear h4 hix HWR
      go_wp2_with fail
      refine (writeString_any w1.heap.size w1.heap.size _ ⟨c.toArray⟩ _ HB4.out (by rw [Lib.byteCells_length]; have h1 := HLS.out; have h2 := HLC.out; show _ + c.toArray.size ≤ _; rw [List.size_toArray]; omega) HS5.out.size).mono ?_
      rintro e w5 ⟨rfl, h5, b5, _⟩
      have HB5 : Hid (Lib.IsBuilderF 126 5 w1.heap.size w1.heap.size (Lib.byteCells (bodyL T (k + 1))) w5) := by
        refine Or.inr ?_
        rw [Lib.strCells_eq] at h5
        rw [HLN.out]
        simpa [Lib.byteCells] using h5
      have HS6 : Hid (Since w1 w5) := Below.trans HS5.out b5
      clear h5 b5
      go_wp2_with fail
      go_roundw
      case rel => exact ⟨k + 1, by omega, by go_num, HB5.out, HS6.out⟩
      case measure => simp [intOf]; omega
    · have hke : k = 24 := by omega
      subst hke
      have HBS : Hid ((⟨(bodyL T 24).toArray⟩ : ByteArray) = body T) := rfl
      have hbs := body_size HRT.out.2
      have HM : Hid (mk2 key (body T) ++ body T = text key T) := rfl
      go_wp2_with fail
      refine (string_any w1.heap.size w1.heap.size _ _ HBK.out HSK.out.size).mono ?_
      rintro e w2' ⟨rfl, hb2, b2, _⟩
      rw [HBS.out]
      have HB2 : Hid (Lib.IsBuilderF 126 5 w1.heap.size w1.heap.size (Lib.byteCells (bodyL T 24)) w2') := hb2
      have HSX : Hid (Since w1 w2') := Below.trans HSK.out b2
      clear hb2 b2
      have hms := mk2_size key (body T)
      generalize hbd : body T = bd at *
      have HBD : Hid (body T = bd) := hbd
      clear hbd
      go_wp2_with fail
      have hm := mark_any 116 w2'.heap.size 0 2 2 (two key bd) (w2'.alloc (.cells #[.string key, .string bd] 9)) (by omega) (fun j _ => two_size key bd (by omega) (by omega) j) (HT.out.since (HS1.out.trans (HSX.out.alloc _))) (fun j hj => two_cells w2' key bd 9 j hj)
      rw [show ((116 : UInt8).toNat : Int) = 116 from rfl] at hm
      refine hm.mono ?_
      clear hm
      rintro e w6 ⟨rfl, h6⟩
      have HMK : markOf ⟨(accTo 116 (two key bd) 2).toArray⟩ = mk2 key bd := rfl
      rw [HMK]
      clear HMK
      have HB6 : Hid (Lib.IsBuilderF 126 5 w1.heap.size w1.heap.size (Lib.byteCells (bodyL T 24)) w6) := builder_since HB2.out (((Since.refl _).alloc _).trans h6)
      have HS6 : Hid (Since w1 w6) := (HSX.out.alloc _).trans h6
      clear h6
      generalize hmk : mk2 key bd = M at *
      have HMK : Hid (mk2 key bd = M) := hmk
      clear hmk
      go_wp2_with fail
      refine (string_any w1.heap.size w1.heap.size _ _ HB6.out HS6.out.size).mono ?_
      rintro e w7 ⟨rfl, _, b7, _⟩
      rw [HBS.out]
      have HS7 : Hid (Since w w7) := HS1.out.trans (Below.trans HS6.out b7)
      clear b7
      have hsum : M.size + bd.size ≤ 9223372036854775807 := by omega
      go_wp2_with fail
      go_ret2
      exact ⟨by rw [← HM.out]; rfl, HS7.out⟩
end Tw
end Go.Proofs.YtjfhggcjdckfgaaDoor
