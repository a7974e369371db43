import Derived.Test.YtjfhggcjdckfgaaDoorW14
import Derived.Test.YtjfhggcjdckfgaaDoorW8
namespace Go.Proofs.YtjfhggcjdckfgaaDoor
set_option linter.unusedSimpArgs false
set_option linter.unusedVariables false
set_option maxRecDepth 100000
namespace Sm
open Go.RowKit
attribute [local go_sem] U_add U_mulc U_xor U_and U_or U_shr U_shl U_not U_conv U_byte U_cells U_match U_oneCell U_store U_store1

/-- the third roots of the first 64 primes times 2^96, and the second roots of the first 8 times 2^64, cut -/
def crow : List Nat := [5411319704, 6194414737, 7344290767, 8215976869, 9551921755, 10098905585, 11043570340, 11460697813, 12214315672, 13195500289, 13492127166, 14311783875, 14809980276, 15046980094, 15499789991, 16133124468, 16720292289, 16907126662, 17444216262, 17784676812, 17950125167, 18429019306, 18734950876, 19175934170, 19734090066, 20001703533, 20132865992, 20390182855, 20516441075, 20764397895, 21588763473, 21813078375, 22141143685, 22248366392, 22769593852, 22871018771, 23170020180, 23461497531, 23651862830, 23931792517, 24205322401, 24295138891, 24734567280, 24820601251, 24990902297, 25075189284, 25569408389, 26045227120, 26200031510, 26276752392, 26428864332, 26653801653, 26727943347, 27092625994, 27306805839, 27517677555, 27725365998, 27793908591, 27997534228, 28131656200, 28198240250, 28526537963, 28973835255, 29099129074]
def qrow : List Nat := [6074000999, 7439101573, 9603838834, 11363415354, 14244795007, 15485724812, 17708603819, 18721328409]
def prow : List Nat := prTo 310
def pAt (i : Nat) : Nat := (prTo 310).getD i 0
theorem crow_ok : ∀ i, i < 64 → (crow.getD i 0) ^ 3 ≤ pAt i * 65536 ^ (2 * 3) ∧ pAt i * 65536 ^ (2 * 3) < (crow.getD i 0 + 1) ^ 3 ∧ BitVec.ofNat 32 (crow.getD i 0) = kn i := by decide +kernel
theorem qrow_ok : ∀ i, i < 8 → (qrow.getD i 0) ^ 2 ≤ pAt i * 65536 ^ (2 * 2) ∧ pAt i * 65536 ^ (2 * 2) < (qrow.getD i 0 + 1) ^ 2 ∧ BitVec.ofNat 32 (qrow.getD i 0) = H0.fn i := by decide +kernel
theorem p_lt : ∀ i, i < 64 → 2 ≤ pAt i ∧ pAt i < 312 := by decide +kernel
theorem cube_kn (i r : Nat) (hi : i < 64) (h1 : r ^ 3 ≤ pAt i * 65536 ^ (2 * 3)) (h2 : pAt i * 65536 ^ (2 * 3) < (r + 1) ^ 3) : BitVec.ofNat 32 r = kn i := by
  obtain ⟨a, b, c⟩ := crow_ok i hi
  rw [root_one 3 _ r _ h1 h2 a b, c]
theorem square_h (i r : Nat) (hi : i < 8) (h1 : r ^ 2 ≤ pAt i * 65536 ^ (2 * 2)) (h2 : pAt i * 65536 ^ (2 * 2) < (r + 1) ^ 2) : BitVec.ofNat 32 r = H0.fn i := by
  obtain ⟨a, b, c⟩ := qrow_ok i hi
  rw [root_one 2 _ r _ h1 h2 a b, c]
theorem root3 (i : Nat) (hi : i < 64) (w : World) : Calls Tryd.prog 77 #[.int .u64 (pAt i : Int), .int .i64 3] w fun e w' => e = .returned (U (kn i)) ∧ Since w w' := by
  have hp := p_lt i hi
  refine (root_any (pAt i) 3 w (by omega) (by omega) (by omega) ?_).mono ?_
  · exact Nat.lt_of_le_of_lt (Nat.mul_le_mul_right _ (show pAt i ≤ 311 by omega)) (by decide)
  · rintro e w' ⟨r, rfl, h1, h2, hS⟩
    exact ⟨by rw [cube_kn i r hi h1 h2], hS⟩
theorem root2 (i : Nat) (hi : i < 8) (w : World) : Calls Tryd.prog 77 #[.int .u64 (pAt i : Int), .int .i64 2] w fun e w' => e = .returned (U (H0.fn i)) ∧ Since w w' := by
  have hp := p_lt i (by omega)
  refine (root_any (pAt i) 2 w (by omega) (by omega) (by omega) ?_).mono ?_
  · exact Nat.lt_of_le_of_lt (Nat.mul_le_mul_right _ (show pAt i ≤ 311 by omega)) (by decide)
  · rintro e w' ⟨r, rfl, h1, h2, hS⟩
    exact ⟨by rw [square_h i r hi h1 h2], hS⟩

def upto (k : Nat) (f : Nat → BitVec 32) : Nat → BitVec 32 := fun j => if j < k then f j else 0
theorem upto_step (k : Nat) (f : Nat → BitVec 32) (j : Nat) : upd (upto k f) k (f k) j = upto (k + 1) f j := by
  unfold upd upto
  by_cases e : j = k
  · subst e; rw [if_pos rfl, if_pos (by omega)]
  · rw [if_neg e]
    by_cases h : j < k
    · rw [if_pos h, if_pos (by omega)]
    · rw [if_neg h, if_neg (by omega)]
theorem upto_past (k m : Nat) (f : Nat → BitVec 32) (h : m ≤ k) (j : Nat) (hj : j < m) : upto k f j = upto (k + 1) f j := by
  unfold upto; rw [if_pos (by omega), if_pos (by omega)]

theorem Arr.part {w : World} {b n m o : Nat} {f : Nat → BitVec 32} (h : Arr w b 0 n f) (ho : o + m ≤ n) : Arr w b o m (fun j => f (o + j)) where
  cell j hj := by have := h.cell (o + j) (by omega); rwa [Nat.zero_add] at this
  frozen j hj := by have := h.frozen (o + j) (by omega); rwa [Nat.zero_add] at this
theorem Arr.apart {w : World} {b o n : Nat} {f : Nat → BitVec 32} (h : Arr w b o n f) (i : Nat) (hi : i < o ∨ o + n ≤ i) (v : Value) : Arr (w.setCell ⟨b, i, none⟩ v) b o n f where
  cell j hj := by rw [cell_set_ne _ _ _ _ _ (by omega)]; exact h.cell j hj
  frozen j hj := by simp; exact h.frozen j hj

set_option maxHeartbeats 2000000 in
set_option maxRecDepth 100000 in
theorem rnew_any (w : World) :
    Calls Tryd.prog 12 #[] w fun e w' => ∃ b, e = .returned (.pointer (some ⟨b, 0, none⟩)) ∧ w.heap.size ≤ b ∧ Arr w' b 0 8 H0.fn ∧ Arr w' b 8 64 kn ∧ Since w w' := by
  go_enter Tryd.func12, Tryd.ntmps12
  go_wp2_with fail
  have hZ : Arr (w.alloc (.cells Tryd.zeroCells113 113)) w.heap.size 0 72 (fun _ => 0) := Arr.new w 72 (fun _ => 0) 113 Tryd.zeroCells113 (by kernel_rfl) _ rfl
  have hA0 : Arr (w.alloc (.cells Tryd.zeroCells113 113)) w.heap.size 0 8 (upto 0 H0.fn) := (hZ.part (o := 0) (m := 8) (by omega)).congr (fun j _ => by simp [upto])
  have hK0 : Arr (w.alloc (.cells Tryd.zeroCells113 113)) w.heap.size 8 64 (upto 0 kn) := (hZ.part (o := 8) (m := 64) (by omega)).congr (fun j _ => by simp [upto])
  refine (primes_any _).mono ?_
  rintro e w1 ⟨g, cap, rfl, hR1, hS1⟩
  have hA1 := hA0.since hS1
  have hK1 := hK0.since hS1
  have hSw : Since w w1 := ((Since.refl w).alloc _).trans hS1
  have hgw : w.heap.size < g := by
    rcases hR1.form with ⟨h, _⟩ | ⟨g', c', h, h2, _⟩
    · cases h
    · injection h with h _ _; injection h with h; injection h with h _; rw [h]; simp at h2; omega
  have hcl : ∀ j, j < 64 → w1.cell? ⟨g, j, none⟩ = some (.int .i64 (pAt j : Int)) := by
    intro j hj
    rw [hR1.cell (by rw [List.length_map, pr_310]) j (by rw [List.length_map, pr_310]; exact hj)]
    simp [iv, pAt, List.getD_eq_getElem?_getD, List.getElem?_eq_getElem (show j < (prTo 310).length by rw [pr_310]; exact hj)]
  clear hZ hA0 hK0 hR1 hS1
  go_wp2_with fail
  go_loopw [8] (fun i wr => ∃ k : Nat, k ≤ 64 ∧ i = .int .i64 k ∧ Arr wr w.heap.size 0 8 (upto k H0.fn) ∧ Arr wr w.heap.size 8 64 (upto k kn) ∧ (∀ j, j < 64 → wr.cell? ⟨g, j, none⟩ = some (.int .i64 (pAt j : Int))) ∧ Since w wr) (fun i _ => 64 - (intOf i).toNat)
  case atStart => exact ⟨0, by omega, rfl, hA1, hK1, hcl, hSw⟩
  case round =>
    obtain ⟨k, hk, rfl, hA, hK, hC, hS⟩ := hrel
    by_cases hlt : k < 64
    · have hck := hC k hlt
      have hpl := p_lt k hlt
      have hlb := hA.lt (by omega)
      have z0 : (0 : Int) ≤ k := by omega
      have z1 : (k : Int) < 64 := by omega
      have hcv : IntKind.u64.wrap (pAt k : Int) = pAt k := by simp [IntKind.wrap, IntKind.bits, IntKind.signed]; omega
      have kc0 := hK.cell k hlt
      have kf0 := hK.frozen k hlt
      go_wp2_with fail
      go_region_with (first | (go_at_call 77; refine (root3 k hlt _).mono ?_; rintro e w2 ⟨rfl, h2⟩; have hS2 := (Since.refl wr).drew.trans h2; have kc := (hK.since hS2).cell k hlt; have kf := (hK.since hS2).frozen k hlt))
      generalize hw3 : World.setCell _ _ _ = w3
      have hA3 : Arr w3 w.heap.size 0 8 (upto k H0.fn) := by rw [← hw3]; exact (hA.since hS2).apart _ (by omega) _
      have hK3 : Arr w3 w.heap.size 8 64 (upto (k + 1) kn) := by rw [← hw3]; exact ((hK.since hS2).set k hlt (kn k)).congr (fun j _ => upto_step k kn j)
      have hC3 : ∀ j, j < 64 → w3.cell? ⟨g, j, none⟩ = some (.int .i64 (pAt j : Int)) := by
        intro j hj
        rw [← hw3, World.cell?_setCell_other _ _ _ _ (by intro hc; injection hc with h1 _; omega)]
        have h := hC j hj
        rw [hS2.cell (p := ⟨g, j, none⟩) (World.block_lt_of_cell? wr _ h)]; exact h
      have hS3 : Since w w3 := by rw [← hw3]; exact (hS.trans hS2).setCell (Nat.le_refl _) _
      clear hw3 kc kf kc0 kf0 hA hK hC hck hS2 h2
      by_cases h8 : k < 8
      · have ac0 := hA3.cell k h8
        have af0 := hA3.frozen k h8
        rw [Nat.zero_add] at ac0 af0
        go_wp2_with fail
        go_region_with (first | (go_at_call 77; refine (root2 k h8 _).mono ?_; rintro e w4 ⟨rfl, h4⟩; have hS4 := (Since.refl w3).drew.trans h4; have ac := (hA3.since hS4).cell k h8; have af := (hA3.since hS4).frozen k h8; rw [Nat.zero_add] at ac af))
        all_goals
          generalize hw5 : World.setCell _ _ _ = w5
          have hA5 : Arr w5 w.heap.size 0 8 (upto (k + 1) H0.fn) := by
            rw [← hw5]
            have h := ((hA3.since hS4).set k h8 (H0.fn k)).congr (fun j _ => upto_step k H0.fn j)
            rw [Nat.zero_add] at h
            exact h
          have hK5 : Arr w5 w.heap.size 8 64 (upto (k + 1) kn) := by rw [← hw5]; exact (hK3.since hS4).apart _ (by omega) _
          have hC5 : ∀ j, j < 64 → w5.cell? ⟨g, j, none⟩ = some (.int .i64 (pAt j : Int)) := by
            intro j hj
            rw [← hw5, World.cell?_setCell_other _ _ _ _ (by intro hc; injection hc with h1 _; omega)]
            have h := hC3 j hj
            rw [hS4.cell (p := ⟨g, j, none⟩) (World.block_lt_of_cell? w3 _ h)]; exact h
          have hS5 : Since w w5 := by rw [← hw5]; exact (hS3.trans hS4).setCell (Nat.le_refl _) _
          clear hw5 ac af ac0 af0 hA3 hK3 hC3 hS4 h4
          go_wp2_with fail
          go_roundw
          case rel => exact ⟨k + 1, by omega, by go_num, hA5, hK5, hC5, hS5⟩
          case measure => simp [intOf]; omega
      · go_wp2_with fail
        go_roundw
        case rel => exact ⟨k + 1, by omega, by go_num, hA3.congr (fun j hj => upto_past k 8 _ (by omega) j hj), hK3, hC3, hS3⟩
        case measure => simp [intOf]; omega
    · have hk64 : k = 64 := by omega
      subst hk64
      go_wp2_with fail
      go_ret
      exact ⟨w.heap.size, rfl, Nat.le_refl _, hA.congr (fun j hj => by simp [upto]; omega), hK.congr (fun j hj => by simp [upto, hj]), hS⟩
end Sm
end Go.Proofs.YtjfhggcjdckfgaaDoor
