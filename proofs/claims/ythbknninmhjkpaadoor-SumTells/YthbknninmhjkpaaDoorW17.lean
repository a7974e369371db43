import Derived.Test.YthbknninmhjkpaaDoorW9
namespace Go.Proofs.YthbknninmhjkpaaDoor
open Go.RowKit

theorem idx36 (w : World) (k : IntKind) (n : Int) (h0 : 0 ≤ n) (h1 : n < 16) :
    (Instr.index 9 (.string ⟨#[48, 49, 50, 51, 52, 53, 54, 55, 56, 57, 97, 98, 99, 100, 101, 102, 103, 104, 105, 106, 107, 108, 109, 110, 111, 112, 113, 114, 115, 116, 117, 118, 119, 120, 121, 122]⟩) (.int k n)).run Tryd.prog w = .ok (.int .u8 (hexd n)) w := by
  obtain ⟨m, rfl⟩ := Int.eq_ofNat_of_zero_le h0
  have hm : m < 16 := by omega
  clear h0 h1
  rcases m with _ | _ | _ | _ | _ | _ | _ | _ | _ | _ | _ | _ | _ | _ | _ | _ | m
  all_goals first | (exfalso; omega) | skip
  all_goals (show _ = _)
  all_goals kernel_rfl

set_option maxHeartbeats 1000000 in
theorem tz16 (w : World) (hc : w.cell? ⟨4, 15, none⟩ = some (.int .u8 4)) :
    Calls Tryd.prog 53 #[.int .u64 16] w fun e w' => e = .returned (.int .i64 4) ∧ w' = w := by
  have h1 : bits BinOp.and IntKind.u64 16 (IntKind.u64.wrap (-16)) = 16 := by decide
  have h2 : IntKind.u64.wrap 4573923408821661840 = 4573923408821661840 := by decide
  go_enter Tryd.func53, Tryd.ntmps53
  go_wp2
  go_ret
  exact ⟨rfl, rfl⟩

set_option maxHeartbeats 1000000 in
set_option maxRecDepth 100000 in
theorem fbits_any (c : Nat) (w : World) (h : c < 256) (hc : w.cell? ⟨4, 15, none⟩ = some (.int .u8 4)) :
    Calls Tryd.prog 40 #[.slice none 0 0, .int .u64 ((c : Int) + 256), .int .i64 16, .bool false, .bool false] w fun e w' => e = .returned (.tuple #[.slice none 0 0, .string (strOfNums [49, hexd ((c : Int) / 16), hexd ((c : Int) % 16)])]) ∧ Since w w' := by
  have hp : bits BinOp.and IntKind.i64 16 15 = 0 := by decide
  have hca : (w.alloc (.cells Tryd.zeroCells83 83)).cell? ⟨4, 15, none⟩ = some (.int .u8 4) := by
    rw [World.cell?_alloc_past _ _ _ (World.block_lt_of_cell? w _ hc)]; exact hc
  have hC0 : Cel (w.alloc (.cells Tryd.zeroCells83 83)) w.heap.size 65 (fun _ => .int .u8 0) := Cel.new w 65 _ _ _ (fun j hj => by
    have e : Tryd.zeroCells83 = Array.replicate 65 (.int .u8 0) := by kernel_rfl
    rw [e]; simp [hj]) _ rfl
  have hS0 : Since w (w.alloc (.cells Tryd.zeroCells83 83)) := (Since.refl w).alloc _
  go_enter Tryd.func40, Tryd.ntmps40
  go_wp2_with (first | (go_at_call 53; refine (tz16 _ hca).mono ?_; rintro e w' ⟨rfl, rfl⟩) | (go_at_call 52; go_in))
  generalize w.alloc _ = w1 at *
  have a64 := hC0.cell 64 (by omega)
  have a63 := hC0.cell 63 (by omega)
  have a62 := hC0.cell 62 (by omega)
  have b64 := hC0.frozen 64 (by omega)
  have b63 := hC0.frozen 63 (by omega)
  have b62 := hC0.frozen 62 (by omega)
  have q1 : bits BinOp.and IntKind.u64 ((c : Int) + 256) 15 = (c : Int) % 16 := by
    have h := bits_mask .u64 63 (by decide) (fun n h0 h1 => by simp [IntKind.wrap, IntKind.bits, IntKind.signed]; omega) 4 (by decide) ((c : Int) + 256) (by omega) (by omega)
    have e : (2 : Int) ^ 4 - 1 = 15 := by decide
    rw [e] at h; rw [h]; omega
  have q2 : bits BinOp.and IntKind.u64 (((c : Int) + 256) / 16) 15 = (c : Int) / 16 := by
    have h := bits_mask .u64 63 (by decide) (fun n h0 h1 => by simp [IntKind.wrap, IntKind.bits, IntKind.signed]; omega) 4 (by decide) (((c : Int) + 256) / 16) (by omega) (by omega)
    have e : (2 : Int) ^ 4 - 1 = 15 := by decide
    rw [e] at h; rw [h]; omega
  have x1 := fun w => idx36 w .u64 ((c : Int) % 16) (by omega) (by omega)
  have x2 := fun w => idx36 w .u64 ((c : Int) / 16) (by omega) (by omega)
  have x3 : ∀ w, (Instr.index 9 (.string ⟨#[48, 49, 50, 51, 52, 53, 54, 55, 56, 57, 97, 98, 99, 100, 101, 102, 103, 104, 105, 106, 107, 108, 109, 110, 111, 112, 113, 114, 115, 116, 117, 118, 119, 120, 121, 122]⟩) (.int .u64 1)).run Tryd.prog w = .ok (.int .u8 49) w := fun w => idx36 w .u64 1 (by omega) (by omega)
  have q3 : ((c : Int) + 256) / 16 / 16 = 1 := by omega
  go_wp2_with fail
  refine wp_loop_rounds 3 ?_
  iterate 3 (rw [rounds_succ]; go_wp2_with fail)
  have hC := ((hC0.set 64 (by omega) (.int .u8 (hexd ((c : Int) % 16)))).set 63 (by omega) (.int .u8 (hexd ((c : Int) / 16)))).set 62 (by omega) (.int .u8 49)
  have hS := ((hS0.setCell (p := ⟨w.heap.size, 64, none⟩) (Nat.le_refl _) (.int .u8 (hexd ((c : Int) % 16)))).setCell (p := ⟨w.heap.size, 63, none⟩) (Nat.le_refl _) (.int .u8 (hexd ((c : Int) / 16)))).setCell (p := ⟨w.heap.size, 62, none⟩) (Nat.le_refl _) (.int .u8 49)
  generalize World.setCell _ _ _ = w2 at hC hS ⊢
  rw [run_convert_bytes_arg w2 42 5 Tryd.underlying42 Tryd.underlying5 w.heap.size 62 3 3 [49, hexd ((c : Int) / 16), hexd ((c : Int) % 16)] rfl ?hb 9 Tryd.underlying9]
  case hb =>
    intro i hi
    rw [hC.cell (62 + i) (by omega)]
    rcases i with _ | _ | _ | i
    · rfl
    · rfl
    · rfl
    · exfalso; omega
  go_wp2_with fail
  go_ret2
  exact ⟨rfl, hS⟩

set_option maxHeartbeats 1000000 in
theorem fmt_any (c : Nat) (w : World) (h : c < 256) (hc : w.cell? ⟨4, 15, none⟩ = some (.int .u8 4)) :
    Calls Tryd.prog 20 #[.int .i64 ((c : Int) + 256), .int .i64 16] w fun e w' => e = .returned (.string (strOfNums [49, hexd ((c : Int) / 16), hexd ((c : Int) % 16)])) ∧ Since w w' := by
  go_enter Tryd.func20, Tryd.ntmps20
  go_wp2_with (first | (go_at_call 40; refine (fbits_any c _ h ?_).mono ?_; (exact hc); rintro e w' ⟨rfl, hS⟩) | (go_at_call 28; go_in))
  go_ret
  exact ⟨rfl, hS⟩

theorem cut_one (a b c : Int) : (strOfNums [a, b, c]).extract 1 3 = strOfNums [b, c] := by
  apply ByteArray.ext; rfl
theorem hex_more (s : ByteArray) (k : Nat) (h : k < s.size) : (List.range (2 * k)).map (hexAt s) ++ [hexd ((s[k].toNat : Int) / 16), hexd ((s[k].toNat : Int) % 16)] = (List.range (2 * (k + 1))).map (hexAt s) := by
  have e : s.data.toList.getD k 0 = s[k] := by rw [List.getD_eq_getElem?_getD, List.getElem?_eq_getElem (by simpa using h)]; rfl
  have e1 : hexAt s (2 * k) = hexd ((s[k].toNat : Int) / 16) := by
    unfold hexAt; rw [if_pos (by omega), show 2 * k / 2 = k by omega, e]; rfl
  have e2 : hexAt s (2 * k + 1) = hexd ((s[k].toNat : Int) % 16) := by
    unfold hexAt; rw [if_neg (by omega), show (2 * k + 1) / 2 = k by omega, e]; rfl
  rw [show 2 * (k + 1) = 2 * k + 1 + 1 by omega, List.range_succ, List.range_succ]
  simp [e1, e2]
attribute [local go_sem ↓] son_append son_nil nil_son strOfNums_size cut_one
set_option maxHeartbeats 1000000 in
theorem refHex_any (s : ByteArray) (w : World) (hs : s.size ≤ 100000) (hc : w.cell? ⟨4, 15, none⟩ = some (.int .u8 4)) :
    Calls Tryd.prog 9 #[.string s] w fun e w' => e = .returned (.string (strOfNums ((List.range (2 * s.size)).map (hexAt s)))) ∧ Since w w' := by
  go_enter Tryd.func9, Tryd.ntmps9
  go_wp2_with fail
  go_loopw [7, 3] (fun i o wr => ∃ k : Nat, k ≤ s.size ∧ i = .int .i64 k ∧ o = .string (strOfNums ((List.range (2 * k)).map (hexAt s))) ∧ Since w wr) (fun i _ _ => s.size - (intOf i).toNat)
  case atStart => exact ⟨0, by omega, rfl, rfl, Since.refl w⟩
  case round =>
    obtain ⟨k, hk, rfl, rfl, hS⟩ := hrel
    by_cases hlt : k < s.size
    · have hcr : wr.cell? ⟨4, 15, none⟩ = some (.int .u8 4) := by
        rw [hS.cell (p := ⟨4, 15, none⟩) (World.block_lt_of_cell? w _ hc)]; exact hc
      have hbl : s[k].toNat < 256 := s[k].toNat_lt
      have hmo : Hid _ := hex_more s k hlt
      have hln : ((List.range (2 * k)).map (hexAt s)).length = 2 * k := by simp
      generalize (List.range (2 * k)).map (hexAt s) = xs at *
      go_wp2_with (go_at_call 20; refine (fmt_any s[k].toNat _ hbl hcr).mono ?_; rintro e w' ⟨rfl, hS2⟩)
      go_roundw
      case rel => exact ⟨k + 1, by omega, by go_num, by rw [← hmo.out], hS.trans hS2⟩
      case measure => simp [intOf]; omega
    · have hke : k = s.size := by omega
      subst hke
      go_wp2_with fail
      go_ret
      exact ⟨rfl, hS⟩
end Go.Proofs.YthbknninmhjkpaaDoor
