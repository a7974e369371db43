/- The reference's TableParse. -/
import Derived.Test.YtjfhggcjdckfgaaDoorYB
import Derived.Test.YtjfhggcjdckfgaaDoorY8
namespace Go.Proofs.YtjfhggcjdckfgaaDoor
set_option linter.unusedSimpArgs false
set_option linter.unusedVariables false
set_option maxRecDepth 100000
namespace Tw
open Go.RowKit
open Sm (Tab RSum Arr H0 kn)
open Sl (zeros_any)

/-- what the reference's TableWrite tells of a table -/
def RWritesAs (b : Nat) (key : ByteArray) (T : Tb) (A : ByteArray) (n : Int) : Prop := ∀ W, Arr W b 0 8 H0.fn → Arr W b 8 64 kn → Calls Tryd.prog 70 #[.pointer (some ⟨b, 0, none⟩), .string key, tval T] W fun e w' => e = .returned (.tuple #[.string A, .int .i64 n]) ∧ Since W w'
set_option maxHeartbeats 1000000 in
theorem rparse_key (b : Nat) (key s : ByteArray) (w : World) (h : key.size ≠ 32) :
    Calls Tryd.prog 74 #[.pointer (some ⟨b, 0, none⟩), .string key, .string s] w fun e w' => e = .returned (.tuple #[tval Tb.zero, .int .i64 1]) ∧ Since w w' := by
  have e1 : ¬ (key.size : Int) = 32 := by omega
  obtain ⟨hst, hR⟩ := zero_stored (zeroTab_cel w w.heap.size rfl)
  have HR : Hid (((w.alloc (.cells Tryd.zeroCells100 100)).setCells w.heap.size 0 Tryd.zeroCells100.toList).rangeAt w.heap.size 0 (brow 73 (tcell Tb.zero))) := hR
  have HS : Hid (Since w ((w.alloc (.cells Tryd.zeroCells100 100)).setCells w.heap.size 0 Tryd.zeroCells100.toList)) := ((Since.refl w).alloc _).setCells (Nat.le_refl _) _ _
  clear hR
  go_enter Tryd.func74, Tryd.ntmps74
  go_wp2_with fail
  exact bodyPost_ret (results_row2 Tryd.results74 _ _ _ w.heap.size _ _ _ (by rfl) HR.out Tryd.underlying100 (by rfl) (by rw [ln73]; kernel_rfl) rfl) rfl ⟨rfl, HS.out⟩
set_option maxHeartbeats 1000000 in
theorem rparse_short (b : Nat) (key s : ByteArray) (w : World) (h : key.size = 32) (hs : s.size < 456) :
    Calls Tryd.prog 74 #[.pointer (some ⟨b, 0, none⟩), .string key, .string s] w fun e w' => e = .returned (.tuple #[tval Tb.zero, .int .i64 15]) ∧ Since w w' := by
  have e1 : (key.size : Int) = 32 := by omega
  have e2 : (s.size : Int) < 456 := by omega
  obtain ⟨hst, hR⟩ := zero_stored (zeroTab_cel w w.heap.size rfl)
  have HR : Hid (((w.alloc (.cells Tryd.zeroCells100 100)).setCells w.heap.size 0 Tryd.zeroCells100.toList).rangeAt w.heap.size 0 (brow 73 (tcell Tb.zero))) := hR
  have HS : Hid (Since w ((w.alloc (.cells Tryd.zeroCells100 100)).setCells w.heap.size 0 Tryd.zeroCells100.toList)) := ((Since.refl w).alloc _).setCells (Nat.le_refl _) _ _
  clear hR
  go_enter Tryd.func74, Tryd.ntmps74
  go_wp2_with fail
  exact bodyPost_ret (results_row2 Tryd.results74 _ _ _ w.heap.size _ _ _ (by rfl) HR.out Tryd.underlying100 (by rfl) (by rw [ln73]; kernel_rfl) rfl) rfl ⟨rfl, HS.out⟩
/-- a cell that says nothing is read as it was -/
theorem rdTo_none (s : ByteArray) (k : Nat) (h : sb s (24 + 18 * k) = 255) : tcell (rdTo s (k + 1)) = tcell (rdTo s k) := by
  have hz : zat s k = 0 := by unfold zat; rw [if_pos h]
  have ho : oat s k = 0 := by unfold oat; rw [if_pos h]
  have ht : tat s k = ⟨#[]⟩ := by unfold tat; rw [if_pos h]
  have hq : ∀ {α : Type} (f : Nat → α) (d : α) (i : Nat), f k = d → (if i < k + 1 then f i else d) = if i < k then f i else d := fun f d i hf => by
    by_cases h1 : i < k
    · rw [if_pos h1, if_pos (by omega)]
    · rw [if_neg h1]
      by_cases h2 : i = k
      · subst h2; rw [if_pos (by omega), hf]
      · rw [if_neg (by omega)]
  have : rdTo s (k + 1) = rdTo s k := tb_ext rfl (funext fun i => hq (zat s) 0 i hz) (funext fun i => hq (oat s) 0 i ho) (funext fun i => hq (tat s) ⟨#[]⟩ i ht)
  rw [this]
theorem add_byte (n b : Nat) (hn : n * 256 + b < 18446744073709551616) (hb : b < 256) : IntKind.u64.wrap (IntKind.u64.wrap ((n : Int) * 256) + IntKind.u64.wrap (b : Int)) = ((n * 256 + b : Nat) : Int) := by
  have w1 : ∀ x : Int, IntKind.u64.wrap x = x % 18446744073709551616 := fun x => by simp [IntKind.wrap, IntKind.bits, IntKind.signed]
  rw [w1, w1, w1]
  omega
theorem rdTo_start (s : ByteArray) (j : Nat) : updv (tcell Tb.zero) 0 (.int .i64 (wrap64 (numAt s 16 8 : Int))) j = tcell (rdTo s 0) j := by
  unfold updv
  by_cases e : j = 0
  · rw [if_pos e]
    unfold tcell
    rw [if_pos e]
    unfold rdTo
    dsimp only
  · rw [if_neg e]
    unfold tcell
    rw [if_neg e, if_neg e]
    unfold tpart rdTo Tb.zero
    dsimp only
    rw [if_neg (Nat.not_lt_zero _), if_neg (Nat.not_lt_zero _), if_neg (Nat.not_lt_zero _)]
set_option maxHeartbeats 4000000 in
theorem rparse_long (b : Nat) (key s : ByteArray) (w : World) (h : key.size = 32) (hs : 456 ≤ s.size) (hz : s.size ≤ 900) (hh : Arr w b 0 8 H0.fn) (hkn : Arr w b 8 64 kn) (A : ByteArray) (n : Int) (res : Value) (hA : A.size ≤ 900) (hw : RWritesAs b key (rd s) A n)
    (hres : (n = 1 ∧ res = .tuple #[tval Tb.zero, .int .i64 15]) ∨ (n = 0 ∧ ¬ s = A ++ txt (s.size - 456) (fun _ => 0) ∧ res = .tuple #[tval Tb.zero, .int .i64 15]) ∨ (n = 0 ∧ s = A ++ txt (s.size - 456) (fun _ => 0) ∧ res = .tuple #[tval (rd s), .int .i64 0])) :
    Calls Tryd.prog 74 #[.pointer (some ⟨b, 0, none⟩), .string key, .string s] w fun e w' => e = .returned res ∧ Since w w' := by
  have e1 : (key.size : Int) = 32 := by omega
  have e2 : ¬ (s.size : Int) < 456 := by omega
  have HH : Hid (Arr w b 0 8 H0.fn) := hh
  have HK : Hid (Arr w b 8 64 kn) := hkn
  have HW : Hid (RWritesAs b key (rd s) A n) := hw
  have HRS : Hid ((n = 1 ∧ res = .tuple #[tval Tb.zero, .int .i64 15]) ∨ (n = 0 ∧ ¬ s = A ++ txt (s.size - 456) (fun _ => 0) ∧ res = .tuple #[tval Tb.zero, .int .i64 15]) ∨ (n = 0 ∧ s = A ++ txt (s.size - 456) (fun _ => 0) ∧ res = .tuple #[tval (rd s), .int .i64 0])) := hres
  have HC0 : Hid (Cel ((w.alloc (.cells Tryd.zeroCells100 100)).alloc (.cells Tryd.zeroCells100 100)) w.heap.size 73 (tcell Tb.zero)) := (zeroTab_cel w w.heap.size rfl).since ((Since.refl _).alloc _)
  have HD0 : Hid (Cel ((w.alloc (.cells Tryd.zeroCells100 100)).alloc (.cells Tryd.zeroCells100 100)) (w.heap.size + 1) 73 (tcell Tb.zero)) := zeroTab_cel _ (w.heap.size + 1) (by simp)
  have HS0 : Hid (Since w ((w.alloc (.cells Tryd.zeroCells100 100)).alloc (.cells Tryd.zeroCells100 100))) := ((Since.refl w).alloc _).alloc _
  clear hh hkn hw hres
  go_enter Tryd.func74, Tryd.ntmps74
  go_wp2_with fail
  generalize (w.alloc (.cells Tryd.zeroCells100 100)).alloc (.cells Tryd.zeroCells100 100) = w0 at *
  go_loopw [23, 9, 10] (fun i c _ wr => ∃ k : Nat, k ≤ 8 ∧ i = .int .i64 k ∧ c = .int .u64 (numAt s 16 k : Int) ∧ wr = w0) (fun i _ _ _ => 8 - (intOf i).toNat)
  case atStart => exact ⟨0, by omega, rfl, rfl, rfl⟩
  case round =>
    obtain ⟨k, hk, rfl, rfl, rfl⟩ := hrel
    by_cases hlt : k < 8
    · have hlt2 : (k : Int) < 8 := by omega
      have hlt3 : 16 + k < s.size := by omega
      have hb : s[16 + k] = sb s (16 + k) := sb_get s (16 + k) hlt3
      have hlt4 := numAt_lt s 16 (k + 1)
      have hle : 256 ^ (k + 1) ≤ 256 ^ 8 := Nat.pow_le_pow_right (by omega) (by omega)
      have HO : Hid (IntKind.u64.wrap (IntKind.u64.wrap ((numAt s 16 k : Int) * 256) + IntKind.u64.wrap ((sb s (16 + k)).toNat : Int)) = ((numAt s 16 (k + 1) : Nat) : Int)) := by
        have h2 : numAt s 16 (k + 1) = numAt s 16 k * 256 + (sb s (16 + k)).toNat := by rw [numAt]
        rw [h2] at hlt4 ⊢
        exact add_byte _ _ (by omega) ((sb s (16 + k)).toNat_lt)
      clear hlt4 hle
      go_wp2_with fail
      go_roundw
      case rel => exact ⟨k + 1, by omega, by go_num, by rw [HO.out], trivial⟩
      case measure => simp [intOf]; omega
    · have hke : k = 8 := by omega
      subst hke
      have q0 := HD0.out.cell 0 (by omega)
      have f0 := HD0.out.frozen 0 (by omega)
      have HD1 : Hid (Cel (wr.setCell ⟨w.heap.size + 1, 0, none⟩ (.int .i64 (wrap64 (numAt s 16 8 : Int)))) (w.heap.size + 1) 73 (tcell (rdTo s 0))) := (HD0.out.set 0 (by omega) _).congr (fun j hj => rdTo_start s j)
      have HC1 : Hid (Cel (wr.setCell ⟨w.heap.size + 1, 0, none⟩ (.int .i64 (wrap64 (numAt s 16 8 : Int)))) w.heap.size 73 (tcell Tb.zero)) := HC0.out.other (by show w.heap.size + 1 ≠ w.heap.size; omega) _
      have HS1 : Hid (Since w (wr.setCell ⟨w.heap.size + 1, 0, none⟩ (.int .i64 (wrap64 (numAt s 16 8 : Int))))) := HS0.out.setCell (by show w.heap.size ≤ w.heap.size + 1; omega) _
      clear HD0 HC0 HS0
      go_wp2_with fail
      generalize wr.setCell ⟨w.heap.size + 1, 0, none⟩ (.int .i64 (wrap64 (numAt s 16 8 : Int))) = w1 at *
      generalize (numAt s 16 8 : Int) = c at *
      clear q0 f0
      go_loopw [38, 11, 12] (fun i _ _ wq => ∃ k : Nat, k ≤ 24 ∧ i = .int .i64 k ∧ Cel wq (w.heap.size + 1) 73 (tcell (rdTo s k)) ∧ Cel wq w.heap.size 73 (tcell Tb.zero) ∧ Since w wq) (fun i _ _ _ => 24 - (intOf i).toNat)
      case atStart => exact ⟨0, by omega, rfl, HD1.out, HC1.out, HS1.out⟩
      case round =>
        obtain ⟨k, hk, rfl, hc, hd, hs2⟩ := hrel
        have HCK : Hid (Cel wr (w.heap.size + 1) 73 (tcell (rdTo s k))) := hc
        have HDK : Hid (Cel wr w.heap.size 73 (tcell Tb.zero)) := hd
        have HSK : Hid (Since w wr) := hs2
        clear hc hd hs2 HD1 HC1 HS1
        by_cases hlt5 : k < 24
        · have hlt6 : (k : Int) < 24 := by omega
          have hle1 : ((42 + 18 * k : Nat) : Int) ≤ s.size := by omega
          have z2 : (s.extract (24 + 18 * k) (42 + 18 * k)).size = 18 := by rw [ByteArray.size_extract]; omega
          have x0 : sb (s.extract (24 + 18 * k) (42 + 18 * k)) 0 = sb s (24 + 18 * k) := by rw [sb_ext s _ _ 0 (by omega) (by omega), Nat.add_zero]
          have x1 : sb (s.extract (24 + 18 * k) (42 + 18 * k)) 1 = sb s (25 + 18 * k) := by rw [sb_ext s _ _ 1 (by omega) (by omega), show 24 + 18 * k + 1 = 25 + 18 * k by omega]
          have x2 : (s.extract (24 + 18 * k) (42 + 18 * k)).extract 2 18 = s.extract (26 + 18 * k) (42 + 18 * k) := by rw [ext_ext s _ _ 2 18 (by omega), show 24 + 18 * k + 2 = 26 + 18 * k by omega, show 24 + 18 * k + 18 = 42 + 18 * k by omega]
          have hb0 := sb_get (s.extract (24 + 18 * k) (42 + 18 * k)) 0 (by omega)
          have hb1 := sb_get (s.extract (24 + 18 * k) (42 + 18 * k)) 1 (by omega)
          have hxI : ((s.extract (24 + 18 * k) (42 + 18 * k)).size : Int) = 18 := by omega
          rw [x0] at hb0
          rw [x1] at hb1
          clear x0 x1
          by_cases h255 : sb s (24 + 18 * k) = 255
          · have HC5 : Hid (Cel wr (w.heap.size + 1) 73 (tcell (rdTo s (k + 1)))) := by
              show Cel _ _ _ _
              rw [rdTo_none s k h255]
              exact HCK.out
            rw [h255] at hb0
            clear h255 hb1 x2
            go_wp2_with fail
            go_roundw
            case rel => exact ⟨k + 1, by omega, by go_num, HC5.out, HDK.out, HSK.out⟩
            case measure => simp [intOf]; omega
          · have HZ : Hid (zat s k = ((sb s (24 + 18 * k)).toNat : Int)) := by show zat s k = _; unfold zat; rw [if_neg h255]
            have HO : Hid (oat s k = ((sb s (25 + 18 * k)).toNat : Int)) := by show oat s k = _; unfold oat; rw [if_neg h255]
            have HTG : Hid (tat s k = s.extract (26 + 18 * k) (42 + 18 * k)) := by show tat s k = _; unfold tat; rw [if_neg h255]
            have hu : ¬ ((sb s (24 + 18 * k)).toNat : Int) = 255 := by
              intro e
              exact h255 (UInt8.toNat_inj.1 (by rw [show (255 : UInt8).toNat = 255 from rfl]; omega))
            have hw0 := wrapB (sb s (24 + 18 * k))
            have hw1 := wrapB (sb s (25 + 18 * k))
            have HC5 : Hid (Cel wr.drew (w.heap.size + 1) 73 (tcell (rdTo s k))) := HCK.out.since (Since.refl _).drew
            have HD5 : Hid (Cel wr.drew w.heap.size 73 (tcell Tb.zero)) := HDK.out.since (Since.refl _).drew
            have HS5 : Hid (Since w wr.drew) := HSK.out.drew
            have q0 := HC5.out.cell (1 + k * 3) (by omega)
            have q1 := HC5.out.cell (1 + k * 3 + 1) (by omega)
            have q2 := HC5.out.cell (1 + k * 3 + 2) (by omega)
            have f0 := HC5.out.frozen (1 + k * 3) (by omega)
            have f1 := HC5.out.frozen (1 + k * 3 + 1) (by omega)
            have f2 := HC5.out.frozen (1 + k * 3 + 2) (by omega)
            have p0 := HCK.out.cell (1 + k * 3) (by omega)
            have p1 := HCK.out.cell (1 + k * 3 + 1) (by omega)
            have p2 := HCK.out.cell (1 + k * 3 + 2) (by omega)
            have g0 := HCK.out.frozen (1 + k * 3) (by omega)
            have g1 := HCK.out.frozen (1 + k * 3 + 1) (by omega)
            have g2 := HCK.out.frozen (1 + k * 3 + 2) (by omega)
            have hC6 := ((HCK.out.set (1 + k * 3) (by omega) (.int .i64 (zat s k))).set (1 + k * 3 + 1) (by omega) (.int .i64 (oat s k))).set (1 + k * 3 + 2) (by omega) (.string (tat s k))
            have hC7 := hC6.congr (fun j hj => rdTo_set s k hlt5 j hj)
            have hD6 := ((HDK.out.other (a := ⟨w.heap.size + 1, 1 + k * 3, none⟩) (by show w.heap.size + 1 ≠ w.heap.size; omega) (.int .i64 (zat s k))).other (a := ⟨w.heap.size + 1, 1 + k * 3 + 1, none⟩) (by show w.heap.size + 1 ≠ w.heap.size; omega) (.int .i64 (oat s k))).other (a := ⟨w.heap.size + 1, 1 + k * 3 + 2, none⟩) (by show w.heap.size + 1 ≠ w.heap.size; omega) (.string (tat s k))
            have hS6 := ((HSK.out.setCell (p := ⟨w.heap.size + 1, 1 + k * 3, none⟩) (by show w.heap.size ≤ w.heap.size + 1; omega) (.int .i64 (zat s k))).setCell (p := ⟨w.heap.size + 1, 1 + k * 3 + 1, none⟩) (by show w.heap.size ≤ w.heap.size + 1; omega) (.int .i64 (oat s k))).setCell (p := ⟨w.heap.size + 1, 1 + k * 3 + 2, none⟩) (by show w.heap.size ≤ w.heap.size + 1; omega) (.string (tat s k))
            rw [HZ.out, HO.out, HTG.out] at hC7 hD6 hS6
            have HC7 : Hid (Cel _ (w.heap.size + 1) 73 (tcell (rdTo s (k + 1)))) := hC7.since (Since.refl _).drew
            have HD7 : Hid (Cel _ w.heap.size 73 (tcell Tb.zero)) := hD6.since (Since.refl _).drew
            have HS7 : Hid (Since w _) := hS6.drew
            clear hC6 hC7 hD6 hS6 h255
            go_wp2_with fail
            go_region
            clear p0 p1 p2 g0 g1 g2 q0 q1 q2 f0 f1 f2
            go_wp2_with fail
            go_roundw
            case rel => exact ⟨k + 1, by omega, by go_num, HC7.out, HD7.out, HS7.out⟩
            case measure => simp [intOf]; omega
        · have hke : k = 24 := by omega
          subst hke
          have hR := tab_all HCK.out
          have hL := ln73 (rdTo s 24)
          have hV : tval (rd s) = .agg (brow 73 (tcell (rdTo s 24))).toArray := rfl
          rw [hV] at HRS
          have HW2 : Hid (∀ W, Arr W b 0 8 H0.fn → Arr W b 8 64 kn → Calls Tryd.prog 70 #[.pointer (some ⟨b, 0, none⟩), .string key, .agg (brow 73 (tcell (rdTo s 24))).toArray] W fun e w' => e = .returned (.tuple #[.string A, .int .i64 n]) ∧ Since W w') := HW.out
          clear HW hV
          go_wp2_with (refine wpList_load_mid (by rfl) 100 _ (by rfl) (w.heap.size + 1) 0 (by rfl) _ _ hR Tryd.underlying100 (by rfl) (by rw [hL]; kernel_rfl) ?_)
          refine (HW2.out _ (HH.out.since HSK.out) (HK.out.since HSK.out)).mono ?_
          rintro e w5 ⟨rfl, h5⟩
          have HC5 : Hid (Cel w5 (w.heap.size + 1) 73 (tcell (rdTo s 24))) := HCK.out.since h5
          have HD5 : Hid (Cel w5 w.heap.size 73 (tcell Tb.zero)) := HDK.out.since h5
          have HS5 : Hid (Since w w5) := HSK.out.trans h5
          clear h5 HCK HDK HSK hR HW2
          rcases HRS.out with ⟨he, hr⟩ | ⟨he, hne, hr⟩ | ⟨he, heq, hr⟩
          · subst he
            have HR : Hid (res = .tuple #[tval Tb.zero, .int .i64 15]) := hr
            clear hr HRS
            obtain ⟨hst, hR⟩ := zero_stored HD5.out
            have HR6 : Hid ((w5.setCells w.heap.size 0 Tryd.zeroCells100.toList).rangeAt w.heap.size 0 (brow 73 (tcell Tb.zero))) := hR
            have HS6 : Hid (Since w (w5.setCells w.heap.size 0 Tryd.zeroCells100.toList)) := HS5.out.setCells (Nat.le_refl _) _ _
            clear hR
            go_wp2_with fail
            exact bodyPost_ret (results_row2 Tryd.results74 _ _ _ w.heap.size _ _ _ (by rfl) HR6.out Tryd.underlying100 (by rfl) (by rw [ln73]; kernel_rfl) rfl) rfl ⟨by rw [HR.out]; rfl, HS6.out⟩
          · subst he
            have HR : Hid (res = .tuple #[tval Tb.zero, .int .i64 15]) := hr
            have hnl := neq_list hne
            clear hr HRS hne
            have E1 : Hid ((s.size : Int) - 456 = ((s.size - 456 : Nat) : Int)) := show (s.size : Int) - 456 = ((s.size - 456 : Nat) : Int) by omega
            have HZZ : Hid (∀ W, Calls Tryd.prog 95 #[.int .i64 ((s.size - 456 : Nat) : Int)] W fun e w' => e = .returned (.string (txt (s.size - 456) (fun _ => 0))) ∧ Since W w') := fun W => zeros_any (s.size - 456) W (by omega)
            have hzz : (txt (s.size - 456) (fun _ => 0)).size = s.size - 456 := txt_size _ _
            go_wp2_with fail
            rw [E1.out]
            generalize txt (s.size - 456) (fun _ => 0) = Z at *
            refine (HZZ.out _).mono ?_
            rintro e w6 ⟨rfl, h6⟩
            have HD6 : Hid (Cel w6 w.heap.size 73 (tcell Tb.zero)) := HD5.out.since h6
            have HS6 : Hid (Since w w6) := HS5.out.trans h6
            clear h6
            have hadd : A.size + Z.size ≤ 9223372036854775807 := by omega
            obtain ⟨hst, hR⟩ := zero_stored HD6.out
            have HR6 : Hid ((w6.setCells w.heap.size 0 Tryd.zeroCells100.toList).rangeAt w.heap.size 0 (brow 73 (tcell Tb.zero))) := hR
            have HS7 : Hid (Since w (w6.setCells w.heap.size 0 Tryd.zeroCells100.toList)) := HS6.out.setCells (Nat.le_refl _) _ _
            clear hR
            go_wp2_with fail
            exact bodyPost_ret (results_row2 Tryd.results74 _ _ _ w.heap.size _ _ _ (by rfl) HR6.out Tryd.underlying100 (by rfl) (by rw [ln73]; kernel_rfl) rfl) rfl ⟨by rw [HR.out]; rfl, HS7.out⟩
          · subst he
            have HR : Hid (res = .tuple #[.agg (brow 73 (tcell (rdTo s 24))).toArray, .int .i64 0]) := hr
            have HEQ : Hid (A ++ txt (s.size - 456) (fun _ => 0) = s) := heq.symm
            clear hr HRS heq
            have E1 : Hid ((s.size : Int) - 456 = ((s.size - 456 : Nat) : Int)) := show (s.size : Int) - 456 = ((s.size - 456 : Nat) : Int) by omega
            have HZZ : Hid (∀ W, Calls Tryd.prog 95 #[.int .i64 ((s.size - 456 : Nat) : Int)] W fun e w' => e = .returned (.string (txt (s.size - 456) (fun _ => 0))) ∧ Since W w') := fun W => zeros_any (s.size - 456) W (by omega)
            have hzz : (txt (s.size - 456) (fun _ => 0)).size = s.size - 456 := txt_size _ _
            go_wp2_with fail
            rw [E1.out]
            generalize txt (s.size - 456) (fun _ => 0) = Z at *
            refine (HZZ.out _).mono ?_
            rintro e w6 ⟨rfl, h6⟩
            have HC6 : Hid (Cel w6 (w.heap.size + 1) 73 (tcell (rdTo s 24))) := HC5.out.since h6
            have HD6 : Hid (Cel w6 w.heap.size 73 (tcell Tb.zero)) := HD5.out.since h6
            have HS6 : Hid (Since w w6) := HS5.out.trans h6
            clear h6
            have hadd : A.size + Z.size ≤ 9223372036854775807 := by omega
            have heq2 := HEQ.out
            obtain ⟨hst, hC7⟩ := tab_stored HD6.out (rdTo s 24)
            have HR6 : Hid ((w6.setCells w.heap.size 0 (brow 73 (tcell (rdTo s 24)))).rangeAt w.heap.size 0 (brow 73 (tcell (rdTo s 24)))) := tab_all hC7
            have HS7 : Hid (Since w (w6.setCells w.heap.size 0 (brow 73 (tcell (rdTo s 24))))) := HS6.out.setCells (Nat.le_refl _) _ _
            have hR := tab_all HC6.out
            clear hC7
            go_wp2_with (refine wpList_load_mid (by rfl) 100 _ (by rfl) (w.heap.size + 1) 0 (by rfl) _ _ hR Tryd.underlying100 (by rfl) (by rw [hL]; kernel_rfl) ?_)
            exact bodyPost_ret (results_row2 Tryd.results74 _ _ _ w.heap.size _ _ _ (by rfl) HR6.out Tryd.underlying100 (by rfl) (by rw [ln73]; kernel_rfl) rfl) rfl ⟨by rw [HR.out]; rfl, HS7.out⟩
end Tw
end Go.Proofs.YtjfhggcjdckfgaaDoor
