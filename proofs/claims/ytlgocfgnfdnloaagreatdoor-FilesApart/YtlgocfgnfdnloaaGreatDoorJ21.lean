import Derived.Test.YtlgocfgnfdnloaaGreatDoorJ19
import Derived.Test.YtlgocfgnfdnloaaGreatDoorJ20
set_option linter.unusedSimpArgs false
set_option linter.unusedVariables false
section
namespace Go.Proofs.YtlgocfgnfdnloaaGreatDoor
set_option maxRecDepth 100000
namespace Tw
open Go.RowKit
open Sm (Tab mark_any num_any markOf accTo be8 sumSt builder_since)
theorem fine_or {T : Tb} {n k : Nat} (h : fine T n) (hk : k < n) : nul T k ∨ may T k := by
  rcases h k hk with h1 | h1
  · exact Or.inl h1
  · exact Or.inr h1.1
set_option maxHeartbeats 4000000 in
theorem write_ok (key : ByteArray) (T : Tb) (w : World) (h : key.size = 32) (hr : Rt T) (hT : Tab w) :
    Calls Tryz.prog 220 #[.string key, tval T] w fun e w' => e = .returned (.tuple #[.string (text key T), .nilIface]) ∧ Since w w' := by
  have e1 : (key.size : Int) = 32 := by omega
  have HRT : Hid (Rt T) := hr
  have HT : Hid (Tab w) := hT
  have hC := tab_cel T w
  have hR := tab_all hC
  have hri := fun W => right_any T W
  rw [rtB_true hr] at hri
  have HRI : Hid (∀ W, Calls Tryz.prog 274 #[tval T] W fun e w' => e = .returned (.bool true) ∧ Since W w') := hri
  clear hri hr hT
  have hL : (brow 73 (tcell T)).length = 73 := brow_length _ _
  unfold tval at *
  generalize brow 73 (tcell T) = cs at *
  have HC : Hid (Cel (w.alloc (.cells cs.toArray 72)) w.heap.size 73 (tcell T)) := hC
  have HS : Hid (Since w (w.alloc (.cells cs.toArray 72))) := (Since.refl w).alloc _
  clear hC
  go_enter Tryz.func220, Tryz.ntmps220
  go_wp2_with fail
  refine wp_load_mid 72 _ (by rfl) w.heap.size 0 (by rfl) _ _ hR Tryz.underlying72 (by rfl) (by rw [hL]; kernel_rfl) ?_
  clear hR hL
  go_wp2_with fail
  refine (HRI.out _).mono ?_
  rintro e w1 ⟨rfl, h1⟩
  have HC1 : Hid (Cel w1 w.heap.size 73 (tcell T)) := HC.out.since h1
  have HS1 : Hid (Since w w1) := HS.out.trans h1
  clear HS HC h1 HRI
  have hl1 : w.heap.size < w1.heap.size := HC1.out.lt (by omega)
  have hB0 : Lib.IsBuilderF 189 5 w1.heap.size w1.heap.size [] (w1.alloc (.cells #[.pointer none, .slice none 0 0] 189)) := Lib.IsBuilderF.of (Lib.fresh_isBuilder 189 5 w1)
  have HB0 : Hid (Lib.IsBuilderF 189 5 w1.heap.size w1.heap.size [] (w1.alloc (.cells #[.pointer none, .slice none 0 0] 189))) := hB0
  have HS2 : Hid (Since w1 (w1.alloc (.cells #[.pointer none, .slice none 0 0] 189))) := (Since.refl w1).alloc _
  clear hB0
  have q0 := (HC1.out.since HS2.out).cell 0 (by omega)
  rw [show tcell T 0 = .int .i64 T.count from rfl] at q0
  go_wp2_with fail
  refine (num_any _ _).mono ?_
  rintro e w2 ⟨rfl, h2⟩
  have HHD : strOfNums (be8 (T.count % 18446744073709551616)) = hd T := rfl
  rw [HHD]
  clear HHD q0
  have HB2 : Hid (Lib.IsBuilderF 189 5 w1.heap.size w1.heap.size [] w2) := builder_since HB0.out h2
  have HS3 : Hid (Since w1 w2) := HS2.out.trans h2
  clear h2 HB0 HS2
  have h8 := hd_size T
  have hlen0 : (bodyL T 0) = (hd T).data.toList := by unfold bodyL; rw [cellsL_zero, List.append_nil]
  have HL0 : Hid ((bodyL T 0) = (hd T).data.toList) := hlen0
  clear hlen0
  generalize hd T = H at *
  go_wp2_with fail
  refine (writeString_any w1.heap.size w1.heap.size [] H _ HB2.out (by simp; omega) HS3.out.size).mono ?_
  rintro e w3 ⟨rfl, h3, b3, _⟩
  have HB3 : Hid (Lib.IsBuilderF 189 5 w1.heap.size w1.heap.size (Lib.byteCells (bodyL T 0)) w3) := by
    refine Or.inr ?_
    rw [Lib.strCells_eq] at h3
    rw [HL0.out]
    simpa [Lib.byteCells] using h3
  have HS4 : Hid (Since w1 w3) := Below.trans HS3.out b3
  clear h3 b3 HB2 HS3 HL0
  have hR := tab_cells (HC1.out.since HS4.out)
  have hL : (brow 72 (ccell T)).length = 72 := brow_length _ _
  have HIX : Hid (∀ (k : Nat) (hk : k < 24) (w : World), (Instr.index 70 (.agg (brow 72 (ccell T)).toArray) (.int .i64 (k : Int))).run Tryz.prog w = .ok (.agg #[.int .i64 (T.zone k), .int .i64 (T.off k), .string (T.tag k)]) w) := fun k hk w => idx_cell T k hk w
  generalize hcs : brow 72 (ccell T) = cs2 at *
  clear hcs
  go_wp2_with (refine wpList_load_mid (by rfl) 70 _ (by rfl) w.heap.size 1 (by rfl) _ _ hR Tryz.underlying70 (by rfl) (by rw [hL]; kernel_rfl) ?_)
  clear hR hL
  go_loopw [24] (fun i wr => ∃ k : Nat, k ≤ 24 ∧ i = .int .i64 k ∧ Lib.IsBuilderF 189 5 w1.heap.size w1.heap.size (Lib.byteCells (bodyL T k)) wr ∧ Since w1 wr) (fun i _ => 24 - (intOf i).toNat)
  case atStart => exact ⟨0, by omega, rfl, HB3.out, HS4.out⟩
  case round =>
    obtain ⟨k, hk, rfl, hb, hs⟩ := hrel
    have HBK : Hid (Lib.IsBuilderF 189 5 w1.heap.size w1.heap.size (Lib.byteCells (bodyL T k)) wr) := hb
    have HSK : Hid (Since w1 wr) := hs
    clear hb hs
    by_cases hlt : k < 24
    · have hlt2 : (k : Int) < 24 := by omega
      have hix := HIX.out k hlt
      have HWR : Hid (∀ W, Calls Tryz.prog 276 #[.agg #[.int .i64 (T.zone k), .int .i64 (T.off k), .string (T.tag k)]] W fun e w' => e = .returned (.string ⟨(cellL T k).toArray⟩) ∧ Since W w') := fun W => written_any T k W (fine_or HRT.out.2 hlt)
      have HLS : Hid ((bodyL T k).length ≤ 1000) := by have := bodyL_len HRT.out.2 k (by omega); show (bodyL T k).length ≤ 1000; omega
      have HLC : Hid ((cellL T k).length = 18) := cellL_len HRT.out.2 k hlt
      have HLN : Hid (bodyL T (k + 1) = bodyL T k ++ cellL T k) := bodyL_succ T k
      generalize T.zone k = z at *
      generalize T.off k = o at *
      generalize T.tag k = t at *
      generalize cellL T k = c at *
      go_wp2_with fail
      refine (HWR.out _).mono ?_
      rintro e w4 ⟨rfl, h4⟩
      have HB4 : Hid (Lib.IsBuilderF 189 5 w1.heap.size w1.heap.size (Lib.byteCells (bodyL T k)) w4) := builder_since HBK.out (((Since.refl _).alloc _).trans h4)
      have HS5 : Hid (Since w1 w4) := (HSK.out.alloc _).trans h4
      clear h4 hix HWR
      go_wp2_with fail
      refine (writeString_any w1.heap.size w1.heap.size _ ⟨c.toArray⟩ _ HB4.out (by rw [Lib.byteCells_length]; have h1 := HLS.out; have h2 := HLC.out; show _ + c.toArray.size ≤ _; rw [List.size_toArray]; omega) HS5.out.size).mono ?_
      rintro e w5 ⟨rfl, h5, b5, _⟩
      have HB5 : Hid (Lib.IsBuilderF 189 5 w1.heap.size w1.heap.size (Lib.byteCells (bodyL T (k + 1))) w5) := by
        refine Or.inr ?_
        rw [Lib.strCells_eq] at h5
        rw [HLN.out]
        simpa [Lib.byteCells] using h5
      have HS6 : Hid (Since w1 w5) := Below.trans HS5.out b5
      clear h5 b5
      go_wp2_with fail
      go_roundw
      case rel => exact ⟨k + 1, by omega, by go_num, HB5.out, HS6.out⟩
      case measure => simp [intOf]; omega
    · have hke : k = 24 := by omega
      subst hke
      have HBS : Hid ((⟨(bodyL T 24).toArray⟩ : ByteArray) = body T) := rfl
      have hbs := body_size HRT.out.2
      have HM : Hid (mk2 key (body T) ++ body T = text key T) := rfl
      go_wp2_with fail
      refine (string_any w1.heap.size w1.heap.size _ _ HBK.out HSK.out.size).mono ?_
      rintro e w2' ⟨rfl, hb2, b2, _⟩
      rw [HBS.out]
      have HB2 : Hid (Lib.IsBuilderF 189 5 w1.heap.size w1.heap.size (Lib.byteCells (bodyL T 24)) w2') := hb2
      have HSX : Hid (Since w1 w2') := Below.trans HSK.out b2
      clear hb2 b2
      have hms := mk2_size key (body T)
      generalize hbd : body T = bd at *
      have HBD : Hid (body T = bd) := hbd
      clear hbd
      go_wp2_with fail
      have hm := mark_any 116 w2'.heap.size 0 2 2 (two key bd) (w2'.alloc (.cells #[.string key, .string bd] 9)) (by omega) (fun j _ => two_size key bd (by omega) (by omega) j) (HT.out.since (HS1.out.trans (HSX.out.alloc _))) (fun j hj => two_cells w2' key bd 9 j hj)
      rw [show ((116 : UInt8).toNat : Int) = 116 from rfl] at hm
      refine hm.mono ?_
      clear hm
      rintro e w6 ⟨rfl, h6⟩
      have HMK : markOf ⟨(accTo 116 (two key bd) 2).toArray⟩ = mk2 key bd := rfl
      rw [HMK]
      clear HMK
      have HB6 : Hid (Lib.IsBuilderF 189 5 w1.heap.size w1.heap.size (Lib.byteCells (bodyL T 24)) w6) := builder_since HB2.out (((Since.refl _).alloc _).trans h6)
      have HS6 : Hid (Since w1 w6) := (HSX.out.alloc _).trans h6
      clear h6
      generalize hmk : mk2 key bd = M at *
      have HMK : Hid (mk2 key bd = M) := hmk
      clear hmk
      go_wp2_with fail
      refine (string_any w1.heap.size w1.heap.size _ _ HB6.out HS6.out.size).mono ?_
      rintro e w7 ⟨rfl, _, b7, _⟩
      rw [HBS.out]
      have HS7 : Hid (Since w w7) := HS1.out.trans (Below.trans HS6.out b7)
      clear b7
      have hsum : M.size + bd.size ≤ 9223372036854775807 := by omega
      go_wp2_with fail
      go_ret2
      exact ⟨by rw [← HM.out]; rfl, HS7.out⟩
end Tw
end Go.Proofs.YtlgocfgnfdnloaaGreatDoor
end
section
namespace Go.Proofs.YtlgocfgnfdnloaaGreatDoor
set_option maxRecDepth 100000
namespace Tw
open Go.RowKit
open Sm (Tab)
theorem zeroTab_list : Tryz.zeroCells72.toList = brow 73 (tcell Tb.zero) := by rw [zeroTab]
theorem results_row2 {fn : Func} {p q : Tmp} {ty : TypeId} (h : fn.results = #[.cell p ty, .tmp q]) (tmps : Array Value) (P : Program) (w : World) (b : Nat) (cs : List Value) (d : TypeDesc) (v : Value)
    (hx : tmps.getD p undef = .pointer (some ⟨b, 0, none⟩)) (hc : w.rangeAt b 0 cs) (hu : P.underlying ty = some d) (hd : d.isRow = true) (hi : (P.info? ty).map (·.size) = some cs.length) (hq : tmps.getD q undef = v) :
    (results fn tmps).run P w = .ok (.tuple #[.agg cs.toArray, v]) w := by
  simp only [results, h]
  have h1 := run_loadVar_mid (P := P) w b 0 ty cs d hc hu hd hi
  have h2 : tmps[p]?.getD undef = .pointer (some ⟨b, 0, none⟩) := by simpa using hx
  have h3 : tmps[q]?.getD undef = v := by simpa using hq
  simp [asAddr, h2, h1, h3]
theorem tab_stored {w : World} {b : Nat} {T : Tb} (h : Cel w b 73 (tcell T)) (U : Tb) : (storeCells ⟨b, 0, none⟩ (brow 73 (tcell U))).run Tryz.prog w = .ok () (w.setCells b 0 (brow 73 (tcell U))) ∧ Cel (w.setCells b 0 (brow 73 (tcell U))) b 73 (tcell U) :=
  ⟨h.store Tryz.prog 0 73 (by omega) (tcell U) (fun j _ => tcell_one _ j), (h.setRow 0 73 (by omega) (tcell U)).congr (fun j hj => by unfold updl; rw [if_pos (by omega)]; rfl)⟩
theorem zero_stored {w : World} {b : Nat} {T : Tb} (h : Cel w b 73 (tcell T)) : (storeCells ⟨b, 0, none⟩ Tryz.zeroCells72.toList).run Tryz.prog w = .ok () (w.setCells b 0 Tryz.zeroCells72.toList) ∧ (w.setCells b 0 Tryz.zeroCells72.toList).rangeAt b 0 (brow 73 (tcell Tb.zero)) := by
  rw [zeroTab_list]
  exact ⟨(tab_stored h _).1, tab_all (tab_stored h _).2⟩
theorem tail_zeros (s : ByteArray) (w : World) (hs : 456 ≤ s.size) (hz : s.size ≤ 900) : Calls Tryz.prog 296 #[.string (s.extract 456 s.size)] w fun e w' => (∃ x : Bool, e = .returned (.bool x) ∧ (x = true ↔ tail0 s)) ∧ w' = w := by
  have h := zeros_text (s.extract 456 s.size) w (by rw [ByteArray.size_extract]; omega)
  refine h.mono ?_
  rintro e w' ⟨rfl, rfl⟩
  refine ⟨⟨_, rfl, ?_⟩, rfl⟩
  rw [decide_eq_true_iff]
  have hsz : (s.extract 456 s.size).size = s.size - 456 := by rw [ByteArray.size_extract]; omega
  constructor
  · intro h j h1 h2
    have := h (j - 456) (by omega)
    rw [sb_ext s 456 s.size (j - 456) (by omega) (Nat.le_refl _), show 456 + (j - 456) = j by omega] at this
    exact this
  · intro h j hj
    rw [sb_ext s 456 s.size j (by omega) (Nat.le_refl _)]
    exact h (456 + j) (by omega) (by omega)
set_option maxHeartbeats 1000000 in
theorem parse_tail (key s : ByteArray) (w : World) (h : key.size = 32) (hs : 456 ≤ s.size) (hz : s.size ≤ 900) (ht : ¬ tail0 s) :
    Calls Tryz.prog 254 #[.string key, .string s] w fun e w' => e = .returned (.tuple #[tval Tb.zero, .iface 32 (.int .i64 15)]) ∧ Since w w' := by
  have e1 : (key.size : Int) = 32 := by omega
  have e2 : ¬ (s.size : Int) < 456 := by omega
  have e3 : (456 : Int) ≤ s.size := by omega
  obtain ⟨hst, hR⟩ := zero_stored (zeroTab_cel w w.heap.size rfl)
  have HR : Hid (((w.alloc (.cells Tryz.zeroCells72 72)).setCells w.heap.size 0 Tryz.zeroCells72.toList).rangeAt w.heap.size 0 (brow 73 (tcell Tb.zero))) := hR
  have HS : Hid (Since w ((w.alloc (.cells Tryz.zeroCells72 72)).setCells w.heap.size 0 Tryz.zeroCells72.toList)) := ((Since.refl w).alloc _).setCells (Nat.le_refl _) _ _
  have HZ : Hid (∀ W, Calls Tryz.prog 296 #[.string (s.extract 456 s.size)] W fun e w' => e = .returned (.bool false) ∧ w' = W) := fun W => (tail_zeros s W hs hz).mono (fun e w' ⟨⟨x, hx, hi⟩, hw⟩ => ⟨by
    cases x with
    | true => exact absurd (hi.1 rfl) ht
    | false => exact hx, hw⟩)
  clear hR ht
  go_enter Tryz.func254, Tryz.ntmps254
  go_wp2_with fail
  refine (HZ.out _).mono ?_
  rintro e w1 ⟨rfl, hw1⟩
  subst hw1
  go_wp2_with fail
  exact bodyPost_ret (results_row2 Tryz.results254 _ _ _ w.heap.size _ _ _ (by rfl) HR.out Tryz.underlying72 (by rfl) (by rw [ln73]; kernel_rfl) rfl) rfl ⟨rfl, HS.out⟩
end Tw
end Go.Proofs.YtlgocfgnfdnloaaGreatDoor
end
section
namespace Go.Proofs.YtlgocfgnfdnloaaGreatDoor
set_option maxRecDepth 100000
namespace Tw
open Go.RowKit
open Sm (Tab)
theorem neq_list {a b : ByteArray} (h : ¬ a = b) : (a.toList == b.toList) = false := by
  rw [ByteArray.toList_eq, ByteArray.toList_eq]
  rw [beq_eq_false_iff_ne]
  exact fun e => h (ByteArray.ext (Array.toList_inj.1 e))
def WritesAs (key : ByteArray) (T : Tb) (A : ByteArray) (ev : Value) : Prop := ∀ W, Tab W → Calls Tryz.prog 220 #[.string key, tval T] W fun e w' => e = .returned (.tuple #[.string A, ev]) ∧ Since W w'
set_option maxHeartbeats 2000000 in
theorem parse_long (key s : ByteArray) (w : World) (h : key.size = 32) (hs : 456 ≤ s.size) (hz : s.size ≤ 900) (ht : tail0 s) (hT : Tab w) (A : ByteArray) (ev res : Value) (hw : WritesAs key (rd s) A ev)
    (hres : (ev = .iface 32 (.int .i64 1) ∧ res = .tuple #[tval Tb.zero, .iface 32 (.int .i64 15)]) ∨ (ev = .nilIface ∧ ¬ A = s.extract 0 456 ∧ res = .tuple #[tval Tb.zero, .iface 32 (.int .i64 15)]) ∨ (ev = .nilIface ∧ A = s.extract 0 456 ∧ res = .tuple #[tval (rd s), .nilIface])) :
    Calls Tryz.prog 254 #[.string key, .string s] w fun e w' => e = .returned res ∧ Since w w' := by
  have e1 : (key.size : Int) = 32 := by omega
  have e2 : ¬ (s.size : Int) < 456 := by omega
  have e3 : (456 : Int) ≤ s.size := by omega
  have HT : Hid (Tab w) := hT
  have HZ : Hid (∀ W, Calls Tryz.prog 296 #[.string (s.extract 456 s.size)] W fun e w' => e = .returned (.bool true) ∧ w' = W) := fun W => (tail_zeros s W hs hz).mono (fun e w' ⟨⟨x, hx, hi⟩, hw⟩ => ⟨by
    cases x with
    | false => exact absurd (hi.2 ht) (by decide)
    | true => exact hx, hw⟩)
  have z1 : (s.extract 0 456).size = 456 := by rw [ByteArray.size_extract]; omega
  have HRD : Hid (∀ W, Calls Tryz.prog 297 #[.string (s.extract 0 456)] W fun e w' => e = .returned (tval (rd s)) ∧ Since W w') := fun W => by
    have := read_any (s.extract 0 456) W z1
    rw [rd_cut s hs] at this
    exact this
  have HW : Hid (WritesAs key (rd s) A ev) := hw
  have HRS : Hid ((ev = .iface 32 (.int .i64 1) ∧ res = .tuple #[tval Tb.zero, .iface 32 (.int .i64 15)]) ∨ (ev = .nilIface ∧ ¬ A = s.extract 0 456 ∧ res = .tuple #[tval Tb.zero, .iface 32 (.int .i64 15)]) ∨ (ev = .nilIface ∧ A = s.extract 0 456 ∧ res = .tuple #[tval (rd s), .nilIface])) := hres
  have HC0 : Hid (Cel (w.alloc (.cells Tryz.zeroCells72 72)) w.heap.size 73 (tcell Tb.zero)) := zeroTab_cel w w.heap.size rfl
  have HS0 : Hid (Since w (w.alloc (.cells Tryz.zeroCells72 72))) := (Since.refl w).alloc _
  clear ht hT hw hres
  generalize rd s = T at *
  go_enter Tryz.func254, Tryz.ntmps254
  go_wp2_with fail
  refine (HZ.out _).mono ?_
  rintro e w1 ⟨rfl, hw1⟩
  rw [← hw1] at HC0 HS0
  clear hw1
  go_wp2_with fail
  refine (HRD.out _).mono ?_
  rintro e w2 ⟨rfl, h2⟩
  have HC2 : Hid (Cel w2 w.heap.size 73 (tcell Tb.zero)) := HC0.out.since h2
  have HS2 : Hid (Since w w2) := HS0.out.trans h2
  clear h2 HC0 HS0 HRD HZ
  have hC3 := zeroTab_cel w2 w2.heap.size rfl
  obtain ⟨hst, hC4⟩ := tab_stored hC3 T
  have HC4 : Hid (Cel ((w2.alloc (.cells Tryz.zeroCells72 72)).setCells w2.heap.size 0 (brow 73 (tcell T))) w2.heap.size 73 (tcell T)) := hC4
  have HD4 : Hid (Cel ((w2.alloc (.cells Tryz.zeroCells72 72)).setCells w2.heap.size 0 (brow 73 (tcell T))) w.heap.size 73 (tcell Tb.zero)) := (HC2.out.since ((Since.refl _).alloc _)).setRow_other _ (by have := HC2.out.lt (by omega); omega)
  have HS4 : Hid (Since w ((w2.alloc (.cells Tryz.zeroCells72 72)).setCells w2.heap.size 0 (brow 73 (tcell T)))) := (HS2.out.alloc _).setCells HS2.out.size _ _
  clear hC3 hC4
  have hR := tab_all HC4.out
  have hL := ln73 T
  generalize ((w2.alloc (.cells Tryz.zeroCells72 72)).setCells w2.heap.size 0 (brow 73 (tcell T))) = w3 at *
  have hV : ∀ U, tval U = .agg (brow 73 (tcell U)).toArray := fun U => rfl
  rw [hV T]
  go_wp2_with (refine wpList_load_mid (by rfl) 72 _ (by rfl) w2.heap.size 0 (by rfl) _ _ hR Tryz.underlying72 (by rfl) (by rw [hL]; kernel_rfl) ?_)
  refine (HW.out _ (HT.out.since HS4.out)).mono ?_
  rintro e w5 ⟨rfl, h5⟩
  have HC5 : Hid (Cel w5 w2.heap.size 73 (tcell T)) := HC4.out.since h5
  have HD5 : Hid (Cel w5 w.heap.size 73 (tcell Tb.zero)) := HD4.out.since h5
  have HS5 : Hid (Since w w5) := HS4.out.trans h5
  clear h5 HC4 HD4 HS4 hst hR HW
  rcases HRS.out with ⟨he, hr⟩ | ⟨he, hne, hr⟩ | ⟨he, heq, hr⟩
  · subst he
    have HR : Hid (res = .tuple #[tval Tb.zero, .iface 32 (.int .i64 15)]) := hr
    clear hr HRS
    obtain ⟨hst, hR⟩ := zero_stored HD5.out
    have HR6 : Hid ((w5.setCells w.heap.size 0 Tryz.zeroCells72.toList).rangeAt w.heap.size 0 (brow 73 (tcell Tb.zero))) := hR
    have HS6 : Hid (Since w (w5.setCells w.heap.size 0 Tryz.zeroCells72.toList)) := HS5.out.setCells (Nat.le_refl _) _ _
    clear hR hV
    go_wp2_with fail
    exact bodyPost_ret (results_row2 Tryz.results254 _ _ _ w.heap.size _ _ _ (by rfl) HR6.out Tryz.underlying72 (by rfl) (by rw [ln73]; kernel_rfl) rfl) rfl ⟨by rw [HR.out]; rfl, HS6.out⟩
  · subst he
    have HR : Hid (res = .tuple #[tval Tb.zero, .iface 32 (.int .i64 15)]) := hr
    have hnl := neq_list hne
    clear hr HRS hne
    obtain ⟨hst, hR⟩ := zero_stored HD5.out
    have HR6 : Hid ((w5.setCells w.heap.size 0 Tryz.zeroCells72.toList).rangeAt w.heap.size 0 (brow 73 (tcell Tb.zero))) := hR
    have HS6 : Hid (Since w (w5.setCells w.heap.size 0 Tryz.zeroCells72.toList)) := HS5.out.setCells (Nat.le_refl _) _ _
    clear hR hV
    go_wp2_with fail
    exact bodyPost_ret (results_row2 Tryz.results254 _ _ _ w.heap.size _ _ _ (by rfl) HR6.out Tryz.underlying72 (by rfl) (by rw [ln73]; kernel_rfl) rfl) rfl ⟨by rw [HR.out]; rfl, HS6.out⟩
  · subst he
    subst heq
    have HR : Hid (res = .tuple #[tval T, .nilIface]) := hr
    clear hr HRS
    obtain ⟨hst, hC6⟩ := tab_stored HD5.out T
    have HR6 : Hid ((w5.setCells w.heap.size 0 (brow 73 (tcell T))).rangeAt w.heap.size 0 (brow 73 (tcell T))) := tab_all hC6
    have HS6 : Hid (Since w (w5.setCells w.heap.size 0 (brow 73 (tcell T)))) := HS5.out.setCells (Nat.le_refl _) _ _
    have hR := tab_all HC5.out
    clear hC6 hV
    go_wp2_with (refine wpList_load_mid (by rfl) 72 _ (by rfl) w2.heap.size 0 (by rfl) _ _ hR Tryz.underlying72 (by rfl) (by rw [hL]; kernel_rfl) ?_)
    exact bodyPost_ret (results_row2 Tryz.results254 _ _ _ w.heap.size _ _ _ (by rfl) HR6.out Tryz.underlying72 (by rfl) (by rw [ln73]; kernel_rfl) rfl) rfl ⟨by rw [HR.out]; rfl, HS6.out⟩
end Tw
end Go.Proofs.YtlgocfgnfdnloaaGreatDoor
end
section
namespace Go.Proofs.YtlgocfgnfdnloaaGreatDoor
namespace Tw
open Go.RowKit
open Sm (be8)
theorem sb_app_left (a b : ByteArray) (j : Nat) (h : j < a.size) : sb (a ++ b) j = sb a j := by
  have hsz : a.data.size = a.size := rfl
  unfold sb
  rw [ByteArray.data_append, Array.getElem?_append_left (by omega)]
theorem sb_app_right (a b : ByteArray) (n j : Nat) (h : a.size = n) : sb (a ++ b) (n + j) = sb b j := by
  have hsz : a.data.size = n := h
  unfold sb
  rw [ByteArray.data_append, Array.getElem?_append_right (by omega), show n + j - a.data.size = j by omega]
theorem sb_list (l : List UInt8) (j : Nat) : sb ⟨l.toArray⟩ j = l[j]?.getD 0 := by
  unfold sb
  rw [List.getElem?_toArray]
theorem cellsL_get {T : Tb} {n : Nat} (h : fine T n) (i r : Nat) (hr : r < 18) : ∀ k, i < k → k ≤ n → (cellsL T k)[18 * i + r]? = (cellL T i)[r]? := by
  intro k
  induction k with
  | zero => intro h1; omega
  | succ k ih =>
    intro h1 h2
    have hl := cellsL_len h k (by omega)
    rw [cellsL_succ]
    by_cases e : i = k
    · subst e
      rw [List.getElem?_append_right (by omega), hl, show 18 * i + r - 18 * i = r by omega]
    · rw [List.getElem?_append_left (by omega)]
      exact ih (by omega) (by omega)
theorem text_num (key : ByteArray) (T : Tb) (tail : ByteArray) (h : fine T 24) (j : Nat) (hj : j < 8) : sb (text key T ++ tail) (16 + j) = sb (hd T) j := by
  have h8 : (hd T).data.toList.length = 8 := by rw [Array.length_toList]; exact hd_size T
  rw [sb_app_left _ _ _ (by rw [text_size h]; omega)]
  unfold text
  rw [sb_app_right _ _ 16 j (mk2_size key (body T))]
  unfold body
  rw [sb_list]
  unfold bodyL
  rw [List.getElem?_append_left (by omega), Array.getElem?_toList]
  rfl
theorem text_cell (key : ByteArray) (T : Tb) (tail : ByteArray) (h : fine T 24) (i r : Nat) (hi : i < 24) (hr : r < 18) : sb (text key T ++ tail) (24 + 18 * i + r) = (cellL T i)[r]?.getD 0 := by
  have h8 : (hd T).data.toList.length = 8 := by rw [Array.length_toList]; exact hd_size T
  rw [sb_app_left _ _ _ (by rw [text_size h]; omega)]
  unfold text
  rw [show 24 + 18 * i + r = 16 + (8 + (18 * i + r)) by omega, sb_app_right _ _ 16 _ (mk2_size key (body T))]
  unfold body
  rw [sb_list]
  unfold bodyL
  rw [List.getElem?_append_right (by omega), h8, show 8 + (18 * i + r) - 8 = 18 * i + r by omega, cellsL_get h i r hr 24 hi (Nat.le_refl _)]
theorem hd_byte (T : Tb) (h : 1 ≤ T.count ∧ T.count ≤ 1099511627776) (j : Nat) (hj : j < 8) : ((sb (hd T) j).toNat : Int) = ((be8 T.count).getD j 0) := by
  have hm : T.count % 18446744073709551616 = T.count := Int.emod_eq_of_lt (by omega) (by omega)
  unfold hd
  rw [hm]
  unfold sb strOfNums be8
  match j, hj with
  | 0, _ => simp; omega
  | 1, _ => simp; omega
  | 2, _ => simp; omega
  | 3, _ => simp; omega
  | 4, _ => simp; omega
  | 5, _ => simp; omega
  | 6, _ => simp; omega
  | 7, _ => simp; omega
theorem numAt_text (key : ByteArray) (T : Tb) (tail : ByteArray) (h : Rt T) : ((numAt (text key T ++ tail) 16 8 : Nat) : Int) = T.count := by
  have b := fun j hj => text_num key T tail h.2 j hj
  have c := fun j hj => hd_byte T h.1 j hj
  have c0 := c 0 (by omega)
  have c1 := c 1 (by omega)
  have c2 := c 2 (by omega)
  have c3 := c 3 (by omega)
  have c4 := c 4 (by omega)
  have c5 := c 5 (by omega)
  have c6 := c 6 (by omega)
  have c7 := c 7 (by omega)
  simp only [be8, List.getD_cons_zero, List.getD_cons_succ] at c0 c1 c2 c3 c4 c5 c6 c7
  have h1 := h.1
  simp only [numAt]
  rw [b 0 (by omega), b 1 (by omega), b 2 (by omega), b 3 (by omega), b 4 (by omega), b 5 (by omega), b 6 (by omega), b 7 (by omega)]
  omega
theorem wrap64_small (n : Int) (h : 1 ≤ n ∧ n ≤ 1099511627776) : wrap64 n = n := by
  simp [wrap64]
  omega
theorem cut_size (s : ByteArray) (a b : Nat) (h : b ≤ s.size) : (s.extract a b).size = b - a := by rw [ByteArray.size_extract, Nat.min_eq_left h]
theorem bytes_eq {a b : ByteArray} (hs : a.size = b.size) (h : ∀ j, j < a.size → sb a j = sb b j) : a = b := by
  have ha : a.data.size = a.size := rfl
  have hb : b.data.size = b.size := rfl
  apply ByteArray.ext
  apply Array.ext
  · exact hs
  · intro i h1 h2
    have := h i h1
    unfold sb at this
    rw [Array.getElem?_eq_getElem h1, Array.getElem?_eq_getElem h2] at this
    exact this
theorem rd_text (key : ByteArray) (T : Tb) (tail : ByteArray) (h : Rt T) : Same (rd (text key T ++ tail)) T := by
  have hlen : 456 ≤ (text key T ++ tail).size := by rw [ByteArray.size_append, text_size h.2]; omega
  refine ⟨?_, fun i hi => ?_⟩
  · show wrap64 ((numAt (text key T ++ tail) 16 8 : Nat) : Int) = T.count
    rw [numAt_text key T tail h]
    exact wrap64_small _ h.1
  · have b0 := text_cell key T tail h.2 i 0 hi (by omega)
    have b1 := text_cell key T tail h.2 i 1 hi (by omega)
    rw [Nat.add_zero] at b0
    rw [show 24 + 18 * i + 1 = 25 + 18 * i by omega] at b1
    show (if i < 24 then zat _ i else 0) = _ ∧ (if i < 24 then oat _ i else 0) = _ ∧ (if i < 24 then tat _ i else ⟨#[]⟩) = _
    rw [if_pos hi, if_pos hi, if_pos hi]
    by_cases hn : nul T i
    · have hl : cellL T i = 255 :: List.replicate 17 0 := by unfold cellL; rw [if_pos hn]
      rw [hl] at b0
      have e0 : sb (text key T ++ tail) (24 + 18 * i) = 255 := by rw [b0]; rfl
      unfold zat oat tat
      rw [if_pos e0, if_pos e0, if_pos e0]
      exact ⟨hn.1.symm, hn.2.1.symm, hn.2.2.symm⟩
    · have hm : may T i := (fine_or h.2 hi).resolve_left hn
      have hl : cellL T i = UInt8.ofNat (T.zone i).toNat :: UInt8.ofNat (T.off i).toNat :: (T.tag i).data.toList := by unfold cellL; rw [if_neg hn]
      obtain ⟨m1, m2, m3, m4, m5⟩ := hm
      rw [hl] at b0 b1
      have e0 : sb (text key T ++ tail) (24 + 18 * i) = UInt8.ofNat (T.zone i).toNat := by rw [b0]; rfl
      have e1 : sb (text key T ++ tail) (25 + 18 * i) = UInt8.ofNat (T.off i).toNat := by rw [b1]; rfl
      have n0 : (UInt8.ofNat (T.zone i).toNat).toNat = (T.zone i).toNat := by rw [UInt8.toNat_ofNat']; omega
      have n1 : (UInt8.ofNat (T.off i).toNat).toNat = (T.off i).toNat := by rw [UInt8.toNat_ofNat']; omega
      have hne : ¬ sb (text key T ++ tail) (24 + 18 * i) = 255 := by
        rw [e0]
        intro e
        have := congrArg UInt8.toNat e
        rw [n0, show (255 : UInt8).toNat = 255 from rfl] at this
        omega
      unfold zat oat tat
      rw [if_neg hne, if_neg hne, if_neg hne, e0, e1, n0, n1]
      refine ⟨by omega, by omega, bytes_eq ?_ (fun j hj => ?_)⟩
      · rw [cut_size _ _ _ (by omega), m1]
        omega
      · rw [cut_size _ _ _ (by omega)] at hj
        rw [sb_ext _ _ _ j (by omega) (by omega)]
        have := text_cell key T tail h.2 i (2 + j) hi (by omega)
        rw [show 26 + 18 * i + j = 24 + 18 * i + (2 + j) by omega, this, hl, show 2 + j = j + 1 + 1 by omega, List.getElem?_cons_succ, List.getElem?_cons_succ]
        unfold sb
        rw [Array.getElem?_toList]
theorem Same.symm {T U : Tb} (h : Same T U) : Same U T := ⟨h.1.symm, fun i hi => ⟨(h.2 i hi).1.symm, (h.2 i hi).2.1.symm, (h.2 i hi).2.2.symm⟩⟩
theorem Same.nul {T U : Tb} (h : Same T U) {i : Nat} (hi : i < 24) (hn : nul T i) : nul U i := by
  obtain ⟨a, b, c⟩ := h.2 i hi
  exact ⟨a ▸ hn.1, b ▸ hn.2.1, c ▸ hn.2.2⟩
theorem Same.fine {T U : Tb} (h : Same T U) (hf : fine T 24) : fine U 24 := fun i hi => by
  obtain ⟨a, b, c⟩ := h.2 i hi
  rcases hf i hi with h1 | ⟨⟨m1, m2, m3, m4, m5⟩, h2⟩
  · exact Or.inl (h.nul hi h1)
  · refine Or.inr ⟨⟨c ▸ m1, a ▸ m2, a ▸ m3, b ▸ m4, b ▸ m5⟩, ?_⟩
    rintro ⟨j, hj, hn, hz, ho⟩
    obtain ⟨a', b', _⟩ := h.2 j (by omega)
    exact h2 ⟨j, hj, fun hn' => hn (h.nul (by omega) hn'), by rw [a', hz, a], by rw [b', ho, b]⟩
theorem Same.rt {T U : Tb} (h : Same T U) (hr : Rt T) : Rt U := ⟨⟨h.1 ▸ hr.1.1, h.1 ▸ hr.1.2⟩, h.fine hr.2⟩
theorem Same.text {T U : Tb} (h : Same T U) (key : ByteArray) : text key T = text key U := by
  have hc : ∀ i, i < 24 → cellL T i = cellL U i := fun i hi => by
    obtain ⟨a, b, c⟩ := h.2 i hi
    unfold cellL
    by_cases hn : Tw.nul T i
    · rw [if_pos hn, if_pos (h.nul hi hn)]
    · rw [if_neg hn, if_neg (fun hn' => hn (h.symm.nul hi hn')), a, b, c]
  have hb : body T = body U := by
    unfold body bodyL cellsL hd
    rw [h.1, show (List.range 24).flatMap (cellL T) = (List.range 24).flatMap (cellL U) from by
      rw [List.flatMap_def, List.flatMap_def, List.map_congr_left (fun i hi => hc i (List.mem_range.1 hi))]]
  unfold Tw.text
  rw [hb]
end Tw
end Go.Proofs.YtlgocfgnfdnloaaGreatDoor
end
