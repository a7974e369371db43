import Derived.Test.YtjfhggcjdckfgaaDoorD1
import Derived.Test.YtjfhggcjdckfgaaDoorGR
namespace Go.Proofs.YtjfhggcjdckfgaaDoor
set_option maxRecDepth 100000
namespace Sm.Sr
set_option linter.unusedSimpArgs false
set_option linter.unusedVariables false
open Go.RowKit
attribute [local go_sem ↓] U_add U_mulc U_xor U_and U_or U_shr U_shl U_not U_conv U_byte U_cells U_match U_oneCell

theorem horner (x : BitVec 32) (d : UInt8) : x * 256#32 + BitVec.ofNat 32 d.toNat = x <<< 8 ||| BitVec.ofNat 32 d.toNat := by
  have e : x * 256#32 = x <<< 8 := by
    apply BitVec.eq_of_toNat_eq
    have h : (256#32).toNat = 256 := by decide
    rw [BitVec.toNat_mul, BitVec.toNat_shiftLeft, Nat.shiftLeft_eq, h]
  rw [e]
  apply BitVec.add_eq_or_of_and_eq_zero
  apply BitVec.eq_of_getLsbD_eq
  intro i hi
  simp only [BitVec.getLsbD_and, BitVec.getLsbD_shiftLeft, BitVec.getLsbD_zero]
  by_cases h : i < 8
  · simp [h]
  · have hd := d.toNat_lt
    have : (BitVec.ofNat 32 d.toNat).getLsbD i = false := by
      rw [BitVec.getLsbD_ofNat, Nat.testBit_lt_two_pow (Nat.lt_of_lt_of_le hd (Nat.pow_le_pow_right (by decide) (show 8 ≤ i by omega)))]
      simp
    simp [this]
theorem U_add0 (t : TypeId) (x : BitVec 32) : binOp .add t (.int .u32 0) (U x) = pure (U x) := by
  have h : (.int .u32 0 : Value) = U 0 := rfl
  rw [h, U_add]
  congr 2
  exact BitVec.zero_add x
attribute [local go_sem ↓] U_add0
/-- read from the last byte on -/
theorem word_horner (a b c d : UInt8) : ((BitVec.ofNat 32 d.toNat * 256#32 + BitVec.ofNat 32 c.toNat) * 256#32 + BitVec.ofNat 32 b.toNat) * 256#32 + BitVec.ofNat 32 a.toNat = word4 a b c d := by
  rw [horner, horner, horner]
  unfold word4
  simp only [BitVec.shiftLeft_or_distrib, ← BitVec.shiftLeft_add]
  show BitVec.ofNat 32 d.toNat <<< 24 ||| BitVec.ofNat 32 c.toNat <<< 16 ||| BitVec.ofNat 32 b.toNat <<< 8 ||| BitVec.ofNat 32 a.toNat = _
  apply BitVec.eq_of_getLsbD_eq
  intro i hi
  simp only [BitVec.getLsbD_or]
  cases (BitVec.ofNat 32 d.toNat <<< 24).getLsbD i <;> cases (BitVec.ofNat 32 c.toNat <<< 16).getLsbD i <;> cases (BitVec.ofNat 32 b.toNat <<< 8).getLsbD i <;> cases (BitVec.ofNat 32 a.toNat).getLsbD i <;> rfl

set_option maxHeartbeats 1000000 in
set_option maxRecDepth 100000 in
theorem words_any (s : ByteArray) (w : World) (hs : s.size ≤ 1000) :
    Calls Tryd.prog 88 #[.string s] w fun e w' => ∃ v, e = .returned v ∧ Row w' w.heap.size 109 v (row (s.size / 4) (wordAt s)) ∧ Since w w' := by
  obtain ⟨i0, hi, hz, hsz, hby⟩ : ∃ i, Tryd.prog.info? 109 = some i ∧ i.zero = some (.int .u32 0) ∧ i.size = 1 ∧ i.bytes = 4 := ⟨_, rfl, by kernel_rfl, by kernel_rfl, by kernel_rfl⟩
  go_enter Tryd.func88, Tryd.ntmps88
  go_wp2_with fail
  go_loopw [4, 3] (fun i l wr => ∃ k : Nat, k ≤ s.size / 4 ∧ i = .int .i64 (4 * k) ∧ Row wr w.heap.size 109 l (row k (wordAt s)) ∧ Since w wr) (fun i _ _ => s.size + 4 - (intOf i).toNat)
  case atStart => exact ⟨0, by omega, rfl, Row.nil _ _ _, Since.refl w⟩
  case round =>
    obtain ⟨k, hk, rfl, hR, hS⟩ := hrel
    by_cases hlt : k < s.size / 4
    · have z0 : (4 * (k : Int) + 3) < s.size := by omega
      have z1 : (4 * (k : Int) + 2) < s.size := by omega
      have z2 : (4 * (k : Int) + 1) < s.size := by omega
      have z3 : (4 * (k : Int)) < s.size := by omega
      have t0 : (4 * (k : Int) + 3).toNat = 4 * k + 3 := by omega
      have t1 : (4 * (k : Int) + 2).toNat = 4 * k + 2 := by omega
      have t2 : (4 * (k : Int) + 1).toNat = 4 * k + 1 := by omega
      have t3 : (4 * (k : Int)).toNat = 4 * k := by omega
      have g0 : 4 * k + 3 < s.size := by omega
      have g1 : 4 * k + 2 < s.size := by omega
      have g2 : 4 * k + 1 < s.size := by omega
      have g3 : 4 * k < s.size := by omega
      have zz : 4 * (k : Int) + 4 ≤ s.size := by omega
      go_wp2_with fail
      refine wp_loop_rounds 5 ?_
      iterate 4 (rw [rounds_succ]; go_wp2_with fail)
      have hw : ((BitVec.ofNat 32 s[4 * k + 3].toNat * 256#32 + BitVec.ofNat 32 s[4 * k + 2].toNat) * 256#32 + BitVec.ofNat 32 s[4 * k + 1].toNat) * 256#32 + BitVec.ofNat 32 s[4 * k].toNat = wordAt s k := by
        rw [word_horner]
        unfold wordAt byteAt
        rw [List.getD_eq_getElem?_getD, List.getElem?_eq_getElem (by simpa using g3), List.getD_eq_getElem?_getD, List.getElem?_eq_getElem (by simpa using g2), List.getD_eq_getElem?_getD, List.getElem?_eq_getElem (by simpa using g1), List.getD_eq_getElem?_getD, List.getElem?_eq_getElem (by simpa using g0)]
        rfl
      rw [hw]
      clear hw
      generalize hx : wordAt s k = x at *
      have HX := (show Hid (wordAt s k = x) from hx)
      clear hx
      have hrl : (row k (wordAt s)).length = k := row_length _ _
      have hb63 : (row k (wordAt s)).length + 1 ≤ maxLen := by simp [maxLen, hrl]; omega
      have hbb : ((row k (wordAt s)).length + 1) * 4 ≤ 140737488355328 := by rw [hrl]; omega
      have hbase : ∀ o, w.heap.size ≤ (wr.alloc o).heap.size := by intro o; have := hS.size; simp; omega
      rw [rounds_succ]
      go_wp2_with (at_builtin; refine wpList_append_lies _ (by rfl) _ _ 131 (by rfl) w.heap.size 109 i0 (.int .u32 0) 1 4 Tryd.underlying131 hi hz hsz hby (by rfl) (by decide) u3 (row k (wordAt s)).length (row k (wordAt s)) (by rfl) (hR.since ((Since.refl _).alloc _)) ⟨wr.heap.size, 0, none⟩ 1 1 [U x] (by rfl) (by rfl) (one_at _ _ _ _ rfl) (fun u hu => by simp at hu; subst hu; rfl) (by decide) hb63 hbb (hbase _) (wr.heap.size + 1) (by simp) ?_; intro g cp w2 hown hgrow hat hlt2)
      have hR2 : Row w2 w.heap.size 109 (.slice (some ⟨g, 0, none⟩) (k + 1) cp) (row (k + 1) (wordAt s)) := by
        have e1 : row (k + 1) (wordAt s) = row k (wordAt s) ++ [U x] := by unfold row; rw [List.range_succ, List.map_append, ← HX.out]; rfl
        unfold Row
        rw [e1, List.length_append]
        rw [row_length] at hown ⊢
        exact hown
      have hS2 : Since w w2 := (hS.alloc _).grown hgrow (fun k hk => hR.own k hk)
      exact ⟨⟨k + 1, by omega, by congr 1 <;> omega, hR2, hS2⟩, by simp [intOf]; omega⟩
    · have hke : k = s.size / 4 := by omega
      have zz : ¬ 4 * (k : Int) + 4 ≤ s.size := by omega
      go_wp2_with fail
      go_ret
      exact ⟨_, rfl, by rw [← hke]; exact hR, hS⟩
end Sm.Sr
end Go.Proofs.YtjfhggcjdckfgaaDoor
