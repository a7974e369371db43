import Derived.Test.YtbfjklpoheooaaaGreatDoorJ01
import Derived.Test.YtbfjklpoheooaaaGreatDoorJ13
import Derived.Test.YtbfjklpoheooaaaGreatDoorJ14
import Derived.Test.YtbfjklpoheooaaaGreatDoorJ20
set_option linter.unusedSimpArgs false
set_option linter.unusedVariables false
section
namespace Go.Proofs.YtbfjklpoheooaaaGreatDoor
set_option maxRecDepth 100000
namespace Sm
open Go.RowKit
attribute [local go_sem] U_add U_mulc U_xor U_and U_or U_shr U_shl U_not U_conv U_byte U_cells U_match U_oneCell U_store U_store1
def crow : List Nat := [5411319704, 6194414737, 7344290767, 8215976869, 9551921755, 10098905585, 11043570340, 11460697813, 12214315672, 13195500289, 13492127166, 14311783875, 14809980276, 15046980094, 15499789991, 16133124468, 16720292289, 16907126662, 17444216262, 17784676812, 17950125167, 18429019306, 18734950876, 19175934170, 19734090066, 20001703533, 20132865992, 20390182855, 20516441075, 20764397895, 21588763473, 21813078375, 22141143685, 22248366392, 22769593852, 22871018771, 23170020180, 23461497531, 23651862830, 23931792517, 24205322401, 24295138891, 24734567280, 24820601251, 24990902297, 25075189284, 25569408389, 26045227120, 26200031510, 26276752392, 26428864332, 26653801653, 26727943347, 27092625994, 27306805839, 27517677555, 27725365998, 27793908591, 27997534228, 28131656200, 28198240250, 28526537963, 28973835255, 29099129074]
def qrow : List Nat := [6074000999, 7439101573, 9603838834, 11363415354, 14244795007, 15485724812, 17708603819, 18721328409]
def pAt (i : Nat) : Nat := (prTo 310).getD i 0
theorem crow_ok : ∀ i, i < 64 → (crow.getD i 0) ^ 3 ≤ pAt i * 65536 ^ (2 * 3) ∧ pAt i * 65536 ^ (2 * 3) < (crow.getD i 0 + 1) ^ 3 ∧ BitVec.ofNat 32 (crow.getD i 0) = kn i := by decide +kernel
theorem qrow_ok : ∀ i, i < 8 → (qrow.getD i 0) ^ 2 ≤ pAt i * 65536 ^ (2 * 2) ∧ pAt i * 65536 ^ (2 * 2) < (qrow.getD i 0 + 1) ^ 2 ∧ BitVec.ofNat 32 (qrow.getD i 0) = H0.fn i := by decide +kernel
theorem p_lt : ∀ i, i < 64 → 2 ≤ pAt i ∧ pAt i < 312 := by decide +kernel
theorem cube_kn (i r : Nat) (hi : i < 64) (h1 : r ^ 3 ≤ pAt i * 65536 ^ (2 * 3)) (h2 : pAt i * 65536 ^ (2 * 3) < (r + 1) ^ 3) : BitVec.ofNat 32 r = kn i := by
  obtain ⟨a, b, c⟩ := crow_ok i hi
  rw [root_one 3 _ r _ h1 h2 a b, c]
theorem square_h (i r : Nat) (hi : i < 8) (h1 : r ^ 2 ≤ pAt i * 65536 ^ (2 * 2)) (h2 : pAt i * 65536 ^ (2 * 2) < (r + 1) ^ 2) : BitVec.ofNat 32 r = H0.fn i := by
  obtain ⟨a, b, c⟩ := qrow_ok i hi
  rw [root_one 2 _ r _ h1 h2 a b, c]
theorem root3 (i : Nat) (hi : i < 64) (w : World) : Calls Tryz.prog 29 #[.int .u64 (pAt i : Int), .int .i64 3] w fun e w' => e = .returned (U (kn i)) ∧ Since w w' := by
  have hp := p_lt i hi
  refine (root_any (pAt i) 3 w (by omega) (by omega) (by omega) ?_).mono ?_
  · exact Nat.lt_of_le_of_lt (Nat.mul_le_mul_right _ (show pAt i ≤ 311 by omega)) (by decide)
  · rintro e w' ⟨r, rfl, h1, h2, hS⟩
    exact ⟨by rw [cube_kn i r hi h1 h2], hS⟩
theorem root2 (i : Nat) (hi : i < 8) (w : World) : Calls Tryz.prog 29 #[.int .u64 (pAt i : Int), .int .i64 2] w fun e w' => e = .returned (U (H0.fn i)) ∧ Since w w' := by
  have hp := p_lt i (by omega)
  refine (root_any (pAt i) 2 w (by omega) (by omega) (by omega) ?_).mono ?_
  · exact Nat.lt_of_le_of_lt (Nat.mul_le_mul_right _ (show pAt i ≤ 311 by omega)) (by decide)
  · rintro e w' ⟨r, rfl, h1, h2, hS⟩
    exact ⟨by rw [square_h i r hi h1 h2], hS⟩
def upto (k : Nat) (f : Nat → BitVec 32) : Nat → BitVec 32 := fun j => if j < k then f j else 0
theorem upto_step (k : Nat) (f : Nat → BitVec 32) (j : Nat) : upd (upto k f) k (f k) j = upto (k + 1) f j := by
  unfold upd upto
  by_cases e : j = k
  · subst e; rw [if_pos rfl, if_pos (by omega)]
  · rw [if_neg e]
    by_cases h : j < k
    · rw [if_pos h, if_pos (by omega)]
    · rw [if_neg h, if_neg (by omega)]
theorem upto_past (k m : Nat) (f : Nat → BitVec 32) (h : m ≤ k) (j : Nat) (hj : j < m) : upto k f j = upto (k + 1) f j := by
  unfold upto; rw [if_pos (by omega), if_pos (by omega)]
theorem Arr.part {w : World} {b n m o : Nat} {f : Nat → BitVec 32} (h : Arr w b 0 n f) (ho : o + m ≤ n) : Arr w b o m (fun j => f (o + j)) where
  cell j hj := by have := h.cell (o + j) (by omega); rwa [Nat.zero_add] at this
  frozen j hj := by have := h.frozen (o + j) (by omega); rwa [Nat.zero_add] at this
theorem Arr.apart {w : World} {b o n : Nat} {f : Nat → BitVec 32} (h : Arr w b o n f) (i : Nat) (hi : i < o ∨ o + n ≤ i) (v : Value) : Arr (w.setCell ⟨b, i, none⟩ v) b o n f where
  cell j hj := by rw [cell_set_ne _ _ _ _ _ (by omega)]; exact h.cell j hj
  frozen j hj := by simp; exact h.frozen j hj
set_option maxHeartbeats 2000000 in
set_option maxRecDepth 100000 in
theorem rnew_any (w : World) :
    Calls Tryz.prog 5 #[] w fun e w' => ∃ b, e = .returned (.pointer (some ⟨b, 0, none⟩)) ∧ w.heap.size ≤ b ∧ Arr w' b 0 8 H0.fn ∧ Arr w' b 8 64 kn ∧ Since w w' := by
  go_enter Tryz.func5, Tryz.ntmps5
  go_wp2_with fail
  have hZ : Arr (w.alloc (.cells Tryz.zeroCells70 70)) w.heap.size 0 72 (fun _ => 0) := Arr.new w 72 (fun _ => 0) 70 Tryz.zeroCells70 (by kernel_rfl) _ rfl
  have hA0 : Arr (w.alloc (.cells Tryz.zeroCells70 70)) w.heap.size 0 8 (upto 0 H0.fn) := (hZ.part (o := 0) (m := 8) (by omega)).congr (fun j _ => by simp [upto])
  have hK0 : Arr (w.alloc (.cells Tryz.zeroCells70 70)) w.heap.size 8 64 (upto 0 kn) := (hZ.part (o := 8) (m := 64) (by omega)).congr (fun j _ => by simp [upto])
  refine (primes_any _).mono ?_
  rintro e w1 ⟨g, cap, rfl, hR1, hS1⟩
  have hA1 := hA0.since hS1
  have hK1 := hK0.since hS1
  have hSw : Since w w1 := ((Since.refl w).alloc _).trans hS1
  have hgw : w.heap.size < g := by
    rcases hR1.form with ⟨h, _⟩ | ⟨g', c', h, h2, _⟩
    · cases h
    · injection h with h _ _; injection h with h; injection h with h _; rw [h]; simp at h2; omega
  have hcl : ∀ j, j < 64 → w1.cell? ⟨g, j, none⟩ = some (.int .i64 (pAt j : Int)) := by
    intro j hj
    rw [hR1.cell (by rw [List.length_map, pr_310]) j (by rw [List.length_map, pr_310]; exact hj)]
    simp [iv, pAt, List.getD_eq_getElem?_getD, List.getElem?_eq_getElem (show j < (prTo 310).length by rw [pr_310]; exact hj)]
  clear hZ hA0 hK0 hR1 hS1
  go_wp2_with fail
  go_loopw [8] (fun i wr => ∃ k : Nat, k ≤ 64 ∧ i = .int .i64 k ∧ Arr wr w.heap.size 0 8 (upto k H0.fn) ∧ Arr wr w.heap.size 8 64 (upto k kn) ∧ (∀ j, j < 64 → wr.cell? ⟨g, j, none⟩ = some (.int .i64 (pAt j : Int))) ∧ Since w wr) (fun i _ => 64 - (intOf i).toNat)
  case atStart => exact ⟨0, by omega, rfl, hA1, hK1, hcl, hSw⟩
  case round =>
    obtain ⟨k, hk, rfl, hA, hK, hC, hS⟩ := hrel
    by_cases hlt : k < 64
    · have hck := hC k hlt
      have hpl := p_lt k hlt
      have hlb := hA.lt (by omega)
      have z0 : (0 : Int) ≤ k := by omega
      have z1 : (k : Int) < 64 := by omega
      have hcv : IntKind.u64.wrap (pAt k : Int) = pAt k := by simp [IntKind.wrap, IntKind.bits, IntKind.signed]; omega
      have kc0 := hK.cell k hlt
      have kf0 := hK.frozen k hlt
      go_wp2_with fail
      go_region_with (first | (go_at_call 29; refine (root3 k hlt _).mono ?_; rintro e w2 ⟨rfl, h2⟩; have hS2 := (Since.refl wr).drew.trans h2; have kc := (hK.since hS2).cell k hlt; have kf := (hK.since hS2).frozen k hlt))
      generalize hw3 : World.setCell _ _ _ = w3
      have hA3 : Arr w3 w.heap.size 0 8 (upto k H0.fn) := by rw [← hw3]; exact (hA.since hS2).apart _ (by omega) _
      have hK3 : Arr w3 w.heap.size 8 64 (upto (k + 1) kn) := by rw [← hw3]; exact ((hK.since hS2).set k hlt (kn k)).congr (fun j _ => upto_step k kn j)
      have hC3 : ∀ j, j < 64 → w3.cell? ⟨g, j, none⟩ = some (.int .i64 (pAt j : Int)) := by
        intro j hj
        rw [← hw3, World.cell?_setCell_other _ _ _ _ (by intro hc; injection hc with h1 _; omega)]
        have h := hC j hj
        rw [hS2.cell (p := ⟨g, j, none⟩) (World.block_lt_of_cell? wr _ h)]; exact h
      have hS3 : Since w w3 := by rw [← hw3]; exact (hS.trans hS2).setCell (Nat.le_refl _) _
      clear hw3 kc kf kc0 kf0 hA hK hC hck hS2 h2
      by_cases h8 : k < 8
      · have ac0 := hA3.cell k h8
        have af0 := hA3.frozen k h8
        rw [Nat.zero_add] at ac0 af0
        go_wp2_with fail
        go_region_with (first | (go_at_call 29; refine (root2 k h8 _).mono ?_; rintro e w4 ⟨rfl, h4⟩; have hS4 := (Since.refl w3).drew.trans h4; have ac := (hA3.since hS4).cell k h8; have af := (hA3.since hS4).frozen k h8; rw [Nat.zero_add] at ac af))
        all_goals
          generalize hw5 : World.setCell _ _ _ = w5
          have hA5 : Arr w5 w.heap.size 0 8 (upto (k + 1) H0.fn) := by
            rw [← hw5]
            have h := ((hA3.since hS4).set k h8 (H0.fn k)).congr (fun j _ => upto_step k H0.fn j)
            rw [Nat.zero_add] at h
            exact h
          have hK5 : Arr w5 w.heap.size 8 64 (upto (k + 1) kn) := by rw [← hw5]; exact (hK3.since hS4).apart _ (by omega) _
          have hC5 : ∀ j, j < 64 → w5.cell? ⟨g, j, none⟩ = some (.int .i64 (pAt j : Int)) := by
            intro j hj
            rw [← hw5, World.cell?_setCell_other _ _ _ _ (by intro hc; injection hc with h1 _; omega)]
            have h := hC3 j hj
            rw [hS4.cell (p := ⟨g, j, none⟩) (World.block_lt_of_cell? w3 _ h)]; exact h
          have hS5 : Since w w5 := by rw [← hw5]; exact (hS3.trans hS4).setCell (Nat.le_refl _) _
          clear hw5 ac af ac0 af0 hA3 hK3 hC3 hS4 h4
          go_wp2_with fail
          go_roundw
          case rel => exact ⟨k + 1, by omega, by go_num, hA5, hK5, hC5, hS5⟩
          case measure => simp [intOf]; omega
      · go_wp2_with fail
        go_roundw
        case rel => exact ⟨k + 1, by omega, by go_num, hA3.congr (fun j hj => upto_past k 8 _ (by omega) j hj), hK3, hC3, hS3⟩
        case measure => simp [intOf]; omega
    · have hk64 : k = 64 := by omega
      subst hk64
      go_wp2_with fail
      go_ret
      exact ⟨w.heap.size, rfl, Nat.le_refl _, hA.congr (fun j hj => by simp [upto]; omega), hK.congr (fun j hj => by simp [upto, hj]), hS⟩
end Sm
end Go.Proofs.YtbfjklpoheooaaaGreatDoor
end
section
namespace Go.Proofs.YtbfjklpoheooaaaGreatDoor
set_option maxRecDepth 100000
namespace Sm
open Go.RowKit
attribute [local go_sem ↓] conv1
def RSum : Prop := ∀ (b : Nat) (s : ByteArray) (w : World), s.size ≤ 10000 → Arr w b 0 8 H0.fn → Arr w b 8 64 kn →
    Calls Tryz.prog 141 #[.pointer (some ⟨b, 0, none⟩), .string s] w fun e w' => e = .returned (.string (strOfNums (sumSt s).bytes)) ∧ Since w w'
def acc (kd : UInt8) (ps : Nat → ByteArray) (n : Nat) : ByteArray := ⟨(accTo kd ps n).toArray⟩
theorem acc_0 (kd : UInt8) (ps : Nat → ByteArray) : strOfNums [(kd.toNat : Int)] = acc kd ps 0 := by
  apply ByteArray.ext
  simp [strOfNums, acc, accTo]
theorem acc_s (kd : UInt8) (ps : Nat → ByteArray) (n : Nat) : acc kd ps n ++ strOfNums (be8 (ps n).size) ++ ps n = acc kd ps (n + 1) := by
  apply ByteArray.ext
  simp [acc, accTo, ByteArray.data_append, Array.append_assoc]
theorem acc_size (kd : UInt8) (ps : Nat → ByteArray) (n : Nat) : (acc kd ps n).size = (accTo kd ps n).length := by
  simp [acc, ByteArray.size]
set_option maxHeartbeats 1000000 in
theorem rmark_any (hsum : RSum) (b : Nat) (kd : UInt8) (pb po m cap : Nat) (ps : Nat → ByteArray) (w : World) (hm : m ≤ 10) (hp : ∀ j, j < m → (ps j).size ≤ 900) (hh : Arr w b 0 8 H0.fn) (hk : Arr w b 8 64 kn)
    (hc : ∀ j, j < m → w.cell? ⟨pb, po + j, none⟩ = some (.string (ps j))) :
    Calls Tryz.prog 106 #[.pointer (some ⟨b, 0, none⟩), .int .u8 kd.toNat, .slice (some ⟨pb, po, none⟩) m cap] w fun e w' => e = .returned (.string (markOf ⟨(accTo kd ps m).toArray⟩)) ∧ Since w w' := by
  have HC := (show Hid (∀ j, j < m → w.cell? ⟨pb, po + j, none⟩ = some (.string (ps j))) from hc)
  have HP := (show Hid (∀ j, j < m → (ps j).size ≤ 900) from hp)
  clear hc hp
  go_enter Tryz.func106, Tryz.ntmps106
  go_wp2_with fail
  rw [acc_0 kd ps]
  go_loopw [15, 7] (fun i o wr => ∃ k : Nat, k ≤ m ∧ i = .int .i64 k ∧ o = .string (acc kd ps k) ∧ Since w wr) (fun i _ _ => m - (intOf i).toNat)
  case atStart => exact ⟨0, by omega, rfl, rfl, by first | exact (Since.refl w).alloc _ | exact Since.refl w⟩
  case round =>
    obtain ⟨k, hkm, rfl, rfl, hS⟩ := hrel
    by_cases hlt : k < m
    · have hck : wr.cell? ⟨pb, po + k, none⟩ = some (.string (ps k)) := by
        have h := HC.out k hlt
        rw [hS.cell (p := ⟨pb, po + k, none⟩) (World.block_lt_of_cell? w _ h)]; exact h
      have hpk := HP.out k hlt
      have hl := acc_len kd ps m HP.out k (by omega)
      rw [← acc_size] at hl
      have Hac : Hid _ := acc_s kd ps k
      generalize acc kd ps k = X at *
      go_wp2_with fail
      refine (refNum_any _ _).mono ?_
      rintro e w2 ⟨rfl, h2⟩
      rw [Int.emod_eq_of_lt (by omega) (by omega)]
      have hz8 : (strOfNums (be8 (ps k).size)).size = 8 := by rw [strOfNums_size]; rfl
      have hS2 := hS.trans h2
      generalize hY : strOfNums (be8 (ps k).size) = Y at *
      clear hY
      go_wp2_with fail
      go_roundw
      case rel => exact ⟨k + 1, by omega, by go_num, by rw [← Hac.out], hS2⟩
      case measure => simp [intOf]; omega
    · have hkm : k = m := by omega
      subst hkm
      have hl := acc_len kd ps k HP.out k (Nat.le_refl _)
      rw [← acc_size] at hl
      go_wp2_with fail
      refine (hsum b _ _ (by omega) (hh.since hS) (hk.since hS)).mono ?_
      rintro e w3 ⟨rfl, h3⟩
      generalize hSe : sumSt _ = q
      have HS : Hid (sumSt (acc kd ps k) = q) := hSe
      clear hSe
      have hsz : (strOfNums q.bytes).size = 32 := by rw [strOfNums_size]; rfl
      go_wp2_with fail
      go_ret
      exact ⟨by unfold markOf; rw [show (⟨(accTo kd ps k).toArray⟩ : ByteArray) = acc kd ps k from rfl, HS.out]; rfl, hS.trans h3⟩
end Sm
end Go.Proofs.YtbfjklpoheooaaaGreatDoor
end
section
namespace Go.Proofs.YtbfjklpoheooaaaGreatDoor
set_option maxRecDepth 100000
namespace Mt
open Go.RowKit Sm
def two (a b : ByteArray) : Nat → ByteArray := fun j => if j = 0 then a else b
def keyOf (secret word : ByteArray) : ByteArray := strOfNums (sumSt (markOf ⟨(accTo 107 (two secret word) 2).toArray⟩)).bytes
theorem mark_size (s : ByteArray) : (markOf s).size = 16 := by
  unfold markOf
  have h : (strOfNums (sumSt s).bytes).size = 32 := by rw [strOfNums_size]; rfl
  simp [ByteArray.size_extract, h]
theorem two_cells (w : World) (a b : ByteArray) (t : TypeId) (j : Nat) (hj : j < 2) : (w.alloc (.cells #[.string a, .string b] t)).cell? ⟨w.heap.size, 0 + j, none⟩ = some (.string (two a b j)) := by
  rw [Nat.zero_add, World.cell?_alloc_new]
  match j, hj with
  | 0, _ => rfl
  | 1, _ => rfl
theorem two_size (a b : ByteArray) (ha : a.size ≤ 900) (hb : b.size ≤ 900) (j : Nat) : (two a b j).size ≤ 900 := by
  unfold two; split <;> assumption
set_option maxHeartbeats 1000000 in
theorem key_arg (s : ByteArray) (u : Int) (w : World) (h : s.size ≠ 16) :
    Calls Tryz.prog 75 #[.string s, .int .u8 u] w fun e w' => e = .returned (.tuple #[.string ⟨#[]⟩, .iface 33 (.int .i64 1)]) ∧ w' = w := by
  have h2 : ¬ (s.size : Int) = 16 := by omega
  go_enter Tryz.func75, Tryz.ntmps75
  go_wp2_with fail
  go_ret2
  exact ⟨rfl, rfl⟩
set_option maxHeartbeats 2000000 in
theorem key_hit (s : ByteArray) (u : Int) (word : ByteArray) (w : World) (h : s.size = 16) (hu : u = 98 ∧ word = wBlocks ∨ u = 116 ∧ word = wTables) (hT : Tab w) :
    Calls Tryz.prog 75 #[.string s, .int .u8 u] w fun e w' => e = .returned (.tuple #[.string (keyOf s word), .nilIface]) ∧ Since w w' := by
  have e1 : (s.size : Int) = 16 := by omega
  have hws : word.size ≤ 900 := by rcases hu with ⟨_, rfl⟩ | ⟨_, rfl⟩ <;> decide
  have hfn : ∃ i, Instr.findNow (.int .u8) (.int .u8 u) uses.toList 0 = some (some (i, .agg #[.string word])) := by
    rcases hu with ⟨rfl, rfl⟩ | ⟨rfl, rfl⟩
    · exact ⟨0, rfl⟩
    · exact ⟨1, rfl⟩
  obtain ⟨i0, hfn⟩ := hfn
  clear hu
  go_enter Tryz.func75, Tryz.ntmps75
  go_wp2_with fail
  refine (purposes_any _).mono ?_
  rintro e w1 ⟨rfl, hw1⟩
  have hS1 : Since w w1 := by rw [hw1]; exact (Since.refl w).alloc _
  have hl := map_get w1 uses 2 w.heap.size u (some (i0, .agg #[.string word])) (by rw [hw1]; show (w.heap.push _)[w.heap.size]? = _; simp) hfn
  simp only at hl
  clear hw1 hfn
  go_wp2_with fail
  have hm := mark_any 107 (w1.heap.size + 1) 0 2 2 (two s word) ((w1.alloc (.cells #[.string word] 183)).alloc (.cells #[.string s, .string word] 9)) (by omega) (fun j _ => two_size s word (by omega) hws j) (hT.since ((hS1.alloc _).alloc _))
    (fun j hj => by have h := two_cells (w1.alloc (.cells #[.string word] 183)) s word 9 j hj; rw [World.size_alloc] at h; exact h)
  rw [show ((107 : UInt8).toNat : Int) = 107 from rfl] at hm
  refine hm.mono ?_
  rintro e w2 ⟨rfl, h2⟩
  have hS2 : Since w w2 := ((hS1.alloc _).alloc _).trans h2
  clear hm h2 hl
  have hms : (markOf ⟨(accTo 107 (two s word) 2).toArray⟩).size ≤ 100000 := by rw [mark_size]; omega
  generalize hmk : markOf ⟨(accTo 107 (two s word) 2).toArray⟩ = mk at *
  have HMK : Hid (markOf ⟨(accTo 107 (two s word) 2).toArray⟩ = mk) := hmk
  clear hmk
  go_wp2_with fail
  refine (sum_any mk _ hms (hT.since hS2)).mono ?_
  rintro e w3 ⟨rfl, h3⟩
  generalize hSe : strOfNums (sumSt mk).bytes = q
  have HS : Hid (strOfNums (sumSt mk).bytes = q) := hSe
  clear hSe
  go_wp2_with fail
  go_ret2
  exact ⟨by unfold keyOf; rw [HMK.out, HS.out]; rfl, hS2.trans h3⟩
set_option maxHeartbeats 2000000 in
theorem rkey_hit (hsum : RSum) (b : Nat) (s : ByteArray) (u : Int) (word : ByteArray) (w : World) (h : s.size = 16) (hu : u = 98 ∧ word = wBlocks ∨ u = 116 ∧ word = wTables) (hh : Arr w b 0 8 H0.fn) (hk : Arr w b 8 64 kn) :
    Calls Tryz.prog 107 #[.pointer (some ⟨b, 0, none⟩), .string s, .int .u8 u] w fun e w' => e = .returned (.tuple #[.string (keyOf s word), .int .i64 0]) ∧ Since w w' := by
  have e1 : (s.size : Int) = 16 := by omega
  have hws : word.size ≤ 900 := by rcases hu with ⟨_, rfl⟩ | ⟨_, rfl⟩ <;> decide
  have hms : (markOf ⟨(accTo 107 (two s word) 2).toArray⟩).size ≤ 10000 := by rw [mark_size]; omega
  rcases hu with ⟨rfl, hwd⟩ | ⟨rfl, hwd⟩
  all_goals
    have HW : Hid (word = _) := hwd
    clear hwd
    go_enter Tryz.func107, Tryz.ntmps107
    go_wp2_with fail
    have hS1 : Since w (w.alloc (.cells #[.string s, .string word] 9)) := (Since.refl w).alloc _
    have hm := rmark_any hsum b 107 w.heap.size 0 2 2 (two s word) (w.alloc (.cells #[.string s, .string word] 9)) (by omega) (fun j _ => two_size s word (by omega) hws j) (hh.since hS1) (hk.since hS1) (fun j hj => two_cells w s word 9 j hj)
    rw [show ((107 : UInt8).toNat : Int) = 107 from rfl] at hm
    have hwe := HW.out
    simp only [wBlocks, wTables] at hwe
    rw [← hwe]
    clear hwe
    refine hm.mono ?_
    clear hm
    rintro e w2 ⟨rfl, h2⟩
    have hS2 : Since w w2 := hS1.trans h2
    clear h2
    generalize hmk : markOf ⟨(accTo 107 (two s word) 2).toArray⟩ = mk at *
    have HMK : Hid (markOf ⟨(accTo 107 (two s word) 2).toArray⟩ = mk) := hmk
    clear hmk
    go_wp2_with fail
    refine (hsum b mk _ hms (hh.since hS2) (hk.since hS2)).mono ?_
    rintro e w3 ⟨rfl, h3⟩
    generalize hSe : strOfNums (sumSt mk).bytes = q
    have HS : Hid (strOfNums (sumSt mk).bytes = q) := hSe
    clear hSe
    go_wp2_with fail
    go_ret2
    exact ⟨by unfold keyOf; rw [HMK.out, HS.out]; rfl, hS2.trans h3⟩
end Mt
end Go.Proofs.YtbfjklpoheooaaaGreatDoor
end
section
namespace Go.Proofs.YtbfjklpoheooaaaGreatDoor
set_option maxRecDepth 100000
namespace Tw
open Go.RowKit
open Sm (Tab RSum rmark_any refNum_any markOf accTo be8 Arr H0 kn conv_cells)
open Sl (zeros_any)
theorem conv2 (W : World) (x y : Int) (ty : TypeId) (cap : Nat) :
    (convert 122 9 (.slice (some ⟨W.heap.size, 0, none⟩) 2 cap)).run Tryz.prog (W.alloc (.cells #[.int .u8 x, .int .u8 y] ty)) = .ok (.string (strOfNums [x, y])) (W.alloc (.cells #[.int .u8 x, .int .u8 y] ty)) := by
  refine conv_cells _ [x, y] W.heap.size 2 cap rfl (fun i hi => ?_)
  have hi2 : i < 2 := hi
  rw [World.cell?_alloc_new]
  match i, hi2 with
  | 0, _ => rfl
  | 1, _ => rfl
attribute [local go_sem ↓] conv2
def bodyT (T : Tb) (k : Nat) : ByteArray := ⟨(bodyL T k).toArray⟩
theorem bodyT_size {T : Tb} {n : Nat} (h : fine T n) (k : Nat) (hk : k ≤ n) : (bodyT T k).size = 8 + 18 * k := by
  show (bodyL T k).toArray.size = _
  rw [List.size_toArray, bodyL_len h k hk]
theorem bodyT_zero (T : Tb) : bodyT T 0 = hd T := by
  unfold bodyT bodyL
  rw [cellsL_zero, List.append_nil]
theorem bodyT_nul {T : Tb} {k : Nat} (hn : nul T k) : bodyT T k ++ ((⟨#[255]⟩ : ByteArray) ++ txt 17 (fun _ => 0)) = bodyT T (k + 1) := by
  apply ByteArray.ext
  unfold bodyT
  rw [bodyL_succ, ByteArray.data_append, ByteArray.data_append]
  have : cellL T k = 255 :: List.replicate 17 0 := by unfold cellL; rw [if_pos hn]
  rw [this]
  have e : (⟨#[255]⟩ : ByteArray).data ++ (txt 17 (fun _ => 0)).data = (255 :: List.replicate 17 0).toArray := by rfl
  rw [e]
  simp
theorem bodyT_may {T : Tb} {k : Nat} (hn : ¬ nul T k) (z o : Nat) (hz : T.zone k = z) (ho : T.off k = o) : bodyT T k ++ strOfNums [(z : Int), (o : Int)] ++ T.tag k = bodyT T (k + 1) := by
  apply ByteArray.ext
  unfold bodyT
  rw [bodyL_succ, ByteArray.data_append, ByteArray.data_append]
  have : cellL T k = UInt8.ofNat z :: UInt8.ofNat o :: (T.tag k).data.toList := by unfold cellL; rw [if_neg hn, hz, ho]; rfl
  rw [this]
  simp [strOfNums]
set_option maxHeartbeats 1000000 in
theorem rwrite_not (b : Nat) (key : ByteArray) (T : Tb) (w : World) (h : key.size = 32) (hr : rtB T = false) :
    Calls Tryz.prog 49 #[.pointer (some ⟨b, 0, none⟩), .string key, tval T] w fun e w' => e = .returned (.tuple #[.string ⟨#[]⟩, .int .i64 1]) ∧ Since w w' := by
  have e1 : (key.size : Int) = 32 := by omega
  have hR := tab_all (tab_cel T w)
  have hri := fun W => rright_any T W
  rw [hr] at hri
  have HRI : Hid (∀ W, Calls Tryz.prog 104 #[tval T] W fun e w' => e = .returned (.bool false) ∧ Since W w') := hri
  clear hri hr
  have hL : (brow 73 (tcell T)).length = 73 := brow_length _ _
  unfold tval at *
  generalize brow 73 (tcell T) = cs at *
  have HS : Hid (Since w (w.alloc (.cells cs.toArray 92))) := (Since.refl w).alloc _
  go_enter Tryz.func49, Tryz.ntmps49
  go_wp2_with fail
  refine wp_load_mid 92 _ (by rfl) w.heap.size 0 (by rfl) _ _ hR Tryz.underlying92 (by rfl) (by rw [hL]; kernel_rfl) ?_
  clear hR hL
  go_wp2_with fail
  refine (HRI.out _).mono ?_
  rintro e w1 ⟨rfl, h1⟩
  go_wp2_with fail
  go_ret2
  exact ⟨rfl, HS.out.trans h1⟩
end Tw
end Go.Proofs.YtbfjklpoheooaaaGreatDoor
end
section
namespace Go.Proofs.YtbfjklpoheooaaaGreatDoor
set_option maxRecDepth 100000
namespace Tw
open Go.RowKit
open Sm (Tab RSum rmark_any refNum_any markOf accTo be8 Arr H0 kn conv_cells)
open Sl (zeros_any)
attribute [local go_sem ↓] conv2
set_option maxHeartbeats 4000000 in
theorem rwrite_ok (hsum : RSum) (b : Nat) (key : ByteArray) (T : Tb) (w : World) (h : key.size = 32) (hr : Rt T) (hh : Arr w b 0 8 H0.fn) (hkn : Arr w b 8 64 kn) :
    Calls Tryz.prog 49 #[.pointer (some ⟨b, 0, none⟩), .string key, tval T] w fun e w' => e = .returned (.tuple #[.string (text key T), .int .i64 0]) ∧ Since w w' := by
  have e1 : (key.size : Int) = 32 := by omega
  have HRT : Hid (Rt T) := hr
  have HH : Hid (Arr w b 0 8 H0.fn) := hh
  have HK : Hid (Arr w b 8 64 kn) := hkn
  have hC := tab_cel T w
  have hR := tab_all hC
  have hri := fun W => rright_any T W
  rw [rtB_true hr] at hri
  have HRI : Hid (∀ W, Calls Tryz.prog 104 #[tval T] W fun e w' => e = .returned (.bool true) ∧ Since W w') := hri
  clear hri hr hh hkn
  have hL : (brow 73 (tcell T)).length = 73 := brow_length _ _
  unfold tval at *
  generalize brow 73 (tcell T) = cs at *
  have HC : Hid (Cel (w.alloc (.cells cs.toArray 92)) w.heap.size 73 (tcell T)) := hC
  have HS : Hid (Since w (w.alloc (.cells cs.toArray 92))) := (Since.refl w).alloc _
  clear hC
  go_enter Tryz.func49, Tryz.ntmps49
  go_wp2_with fail
  refine wp_load_mid 92 _ (by rfl) w.heap.size 0 (by rfl) _ _ hR Tryz.underlying92 (by rfl) (by rw [hL]; kernel_rfl) ?_
  clear hR hL
  go_wp2_with fail
  refine (HRI.out _).mono ?_
  rintro e w1 ⟨rfl, h1⟩
  have HC1 : Hid (Cel w1 w.heap.size 73 (tcell T)) := HC.out.since h1
  have HS1 : Hid (Since w w1) := HS.out.trans h1
  clear HS HC h1 HRI
  have q0 := HC1.out.cell 0 (by omega)
  rw [show tcell T 0 = .int .i64 T.count from rfl] at q0
  go_wp2_with fail
  refine (refNum_any _ _).mono ?_
  rintro e w2 ⟨rfl, h2⟩
  have HHD : strOfNums (be8 (T.count % 18446744073709551616)) = bodyT T 0 := by rw [bodyT_zero]; rfl
  rw [HHD]
  clear HHD q0
  have HC2 : Hid (Cel w2 w.heap.size 73 (tcell T)) := HC1.out.since h2
  have HS2 : Hid (Since w w2) := HS1.out.trans h2
  clear h2 HC1 HS1
  have hR := tab_cells HC2.out
  have hL : (brow 72 (ccell T)).length = 72 := brow_length _ _
  have HIX : Hid (∀ (k : Nat) (hk : k < 24) (w : World), (Instr.index 90 (.agg (brow 72 (ccell T)).toArray) (.int .i64 (k : Int))).run Tryz.prog w = .ok (.agg #[.int .i64 (T.zone k), .int .i64 (T.off k), .string (T.tag k)]) w) := fun k hk w => idx_cell T k hk w
  generalize hcs : brow 72 (ccell T) = cs2 at *
  clear hcs
  go_wp2_with (refine wpList_load_mid (by rfl) 90 _ (by rfl) w.heap.size 1 (by rfl) _ _ hR Tryz.underlying90 (by rfl) (by rw [hL]; kernel_rfl) ?_)
  clear hR hL
  go_loopw [24, 8] (fun i s wr => ∃ k : Nat, k ≤ 24 ∧ i = .int .i64 k ∧ s = .string (bodyT T k) ∧ Since w wr) (fun i _ _ => 24 - (intOf i).toNat)
  case atStart => exact ⟨0, by omega, rfl, rfl, HS2.out⟩
  case round =>
    obtain ⟨k, hk, rfl, rfl, hs⟩ := hrel
    have HSK : Hid (Since w wr) := hs
    clear hs
    have hbz := bodyT_size HRT.out.2 k hk
    by_cases hlt : k < 24
    · have hlt2 : (k : Int) < 24 := by omega
      have hix := HIX.out k hlt
      by_cases hn : nul T k
      · have HBN : Hid (bodyT T k ++ ((⟨#[255]⟩ : ByteArray) ++ txt 17 (fun _ => 0)) = bodyT T (k + 1)) := bodyT_nul hn
        obtain ⟨z0, o0, t0⟩ := hn
        rw [z0, o0, t0] at hix
        clear z0 o0 t0
        have HZ : Hid (∀ W, Calls Tryz.prog 30 #[.int .i64 17] W fun e w' => e = .returned (.string (txt 17 (fun _ => 0))) ∧ Since W w') := fun W => zeros_any 17 W (by omega)
        have hz17 : (txt 17 (fun _ => 0)).size = 17 := txt_size _ _
        generalize txt 17 (fun _ => 0) = Z at *
        generalize bodyT T k = B at *
        go_wp2_with fail
        refine (HZ.out _).mono ?_
        rintro e w4 ⟨rfl, h4⟩
        have HS4 : Hid (Since w w4) := (HSK.out.alloc _).trans h4
        clear h4
        have hx1 : (⟨#[255]⟩ : ByteArray).size + Z.size ≤ 9223372036854775807 := by show 1 + Z.size ≤ _; omega
        have hx2 : ((⟨#[255]⟩ : ByteArray) ++ Z).size = 18 := by rw [ByteArray.size_append]; show 1 + Z.size = 18; omega
        have hx3 : B.size + ((⟨#[255]⟩ : ByteArray) ++ Z).size ≤ 9223372036854775807 := by omega
        go_wp2_with fail
        rw [HBN.out]
        go_roundw
        case rel => exact ⟨k + 1, by omega, by go_num, rfl, HS4.out⟩
        case measure => simp [intOf]; omega
      · have hm : may T k := (fine_or HRT.out.2 hlt).resolve_left hn
        obtain ⟨m1, m2, m3, m4, m5⟩ := hm
        obtain ⟨z, hz⟩ : ∃ z : Nat, T.zone k = z := ⟨(T.zone k).toNat, by omega⟩
        obtain ⟨o, ho⟩ : ∃ o : Nat, T.off k = o := ⟨(T.off k).toNat, by omega⟩
        have HBN : Hid (bodyT T k ++ strOfNums [(z : Int), (o : Int)] ++ T.tag k = bodyT T (k + 1)) := bodyT_may hn z o hz ho
        rw [hz, ho] at hix
        rw [hz] at m2 m3
        rw [ho] at m4 m5
        have hwz : IntKind.u8.wrap (z : Int) = z := by simp [IntKind.wrap, IntKind.bits, IntKind.signed]; omega
        have hwo : IntKind.u8.wrap (o : Int) = o := by simp [IntKind.wrap, IntKind.bits, IntKind.signed]; omega
        have ht1 : ¬ (T.tag k).toList = [] := by
          rw [ByteArray.toList_eq]
          intro e
          have h2 : (T.tag k).data.toList.length = 16 := by rw [Array.length_toList]; exact m1
          rw [e] at h2
          exact absurd h2 (by decide)
        have ht2 : (T.tag k).toList.isEmpty = false := by
          cases hq : (T.tag k).toList with
          | nil => exact absurd hq ht1
          | cons _ _ => rfl
        clear hz ho hn m2 m3 m4 m5
        have hx0 : (strOfNums [(z : Int), (o : Int)]).size = 2 := strOfNums_size _
        generalize T.tag k = t at *
        generalize bodyT T k = B at *
        have hx1 : B.size + (strOfNums [(z : Int), (o : Int)]).size ≤ 9223372036854775807 := by omega
        have hx2 : (B ++ strOfNums [(z : Int), (o : Int)]).size + t.size ≤ 9223372036854775807 := by rw [ByteArray.size_append]; omega
        have hcv := conv2 (wr.alloc (.cells #[.int .i64 (z : Int), .int .i64 (o : Int), .string t] 89)) z o 5 2
        rw [World.size_alloc] at hcv
        go_wp2_with fail
        rw [HBN.out]
        go_roundw
        case rel => exact ⟨k + 1, by omega, by go_num, rfl, (HSK.out.alloc _).alloc _⟩
        case measure => simp [intOf]; omega
    · have hke : k = 24 := by omega
      subst hke
      have HBD : Hid (bodyT T 24 = body T) := show bodyT T 24 = body T from rfl
      have HM : Hid (mk2 key (body T) ++ body T = text key T) := rfl
      have hms := mk2_size key (body T)
      rw [HBD.out] at hbz ⊢
      clear HBD
      generalize hbd : body T = bd at *
      clear hbd
      go_wp2_with fail
      have hm := rmark_any hsum b 116 wr.heap.size 0 2 2 (two key bd) (wr.alloc (.cells #[.string key, .string bd] 9)) (by omega) (fun j _ => two_size key bd (by omega) (by omega) j) (HH.out.since (HSK.out.alloc _)) (HK.out.since (HSK.out.alloc _)) (fun j hj => two_cells wr key bd 9 j hj)
      rw [show ((116 : UInt8).toNat : Int) = 116 from rfl] at hm
      refine hm.mono ?_
      clear hm
      rintro e w6 ⟨rfl, h6⟩
      have HMK : markOf ⟨(accTo 116 (two key bd) 2).toArray⟩ = mk2 key bd := rfl
      rw [HMK]
      clear HMK
      have HS6 : Hid (Since w w6) := (HSK.out.alloc _).trans h6
      clear h6
      generalize mk2 key bd = M at *
      have hx : M.size + bd.size ≤ 9223372036854775807 := by omega
      go_wp2_with fail
      go_ret2
      exact ⟨by rw [← HM.out]; rfl, HS6.out⟩
end Tw
end Go.Proofs.YtbfjklpoheooaaaGreatDoor
end
section
namespace Go.Proofs.YtbfjklpoheooaaaGreatDoor
set_option maxRecDepth 100000
namespace Tw
open Go.RowKit
open Sm (Tab RSum Arr H0 kn)
open Sl (zeros_any)
def RWritesAs (b : Nat) (key : ByteArray) (T : Tb) (A : ByteArray) (n : Int) : Prop := ∀ W, Arr W b 0 8 H0.fn → Arr W b 8 64 kn → Calls Tryz.prog 49 #[.pointer (some ⟨b, 0, none⟩), .string key, tval T] W fun e w' => e = .returned (.tuple #[.string A, .int .i64 n]) ∧ Since W w'
theorem rdTo_none (s : ByteArray) (k : Nat) (h : sb s (24 + 18 * k) = 255) : tcell (rdTo s (k + 1)) = tcell (rdTo s k) := by
  have hz : zat s k = 0 := by unfold zat; rw [if_pos h]
  have ho : oat s k = 0 := by unfold oat; rw [if_pos h]
  have ht : tat s k = ⟨#[]⟩ := by unfold tat; rw [if_pos h]
  have hq : ∀ {α : Type} (f : Nat → α) (d : α) (i : Nat), f k = d → (if i < k + 1 then f i else d) = if i < k then f i else d := fun f d i hf => by
    by_cases h1 : i < k
    · rw [if_pos h1, if_pos (by omega)]
    · rw [if_neg h1]
      by_cases h2 : i = k
      · subst h2; rw [if_pos (by omega), hf]
      · rw [if_neg (by omega)]
  have : rdTo s (k + 1) = rdTo s k := tb_ext rfl (funext fun i => hq (zat s) 0 i hz) (funext fun i => hq (oat s) 0 i ho) (funext fun i => hq (tat s) ⟨#[]⟩ i ht)
  rw [this]
theorem add_byte (n b : Nat) (hn : n * 256 + b < 18446744073709551616) (hb : b < 256) : IntKind.u64.wrap (IntKind.u64.wrap ((n : Int) * 256) + IntKind.u64.wrap (b : Int)) = ((n * 256 + b : Nat) : Int) := by
  have w1 : ∀ x : Int, IntKind.u64.wrap x = x % 18446744073709551616 := fun x => by simp [IntKind.wrap, IntKind.bits, IntKind.signed]
  rw [w1, w1, w1]
  omega
theorem rdTo_start (s : ByteArray) (j : Nat) : updv (tcell Tb.zero) 0 (.int .i64 (wrap64 (numAt s 16 8 : Int))) j = tcell (rdTo s 0) j := by
  unfold updv
  by_cases e : j = 0
  · rw [if_pos e]
    unfold tcell
    rw [if_pos e]
    unfold rdTo
    dsimp only
  · rw [if_neg e]
    unfold tcell
    rw [if_neg e, if_neg e]
    unfold tpart rdTo Tb.zero
    dsimp only
    rw [if_neg (Nat.not_lt_zero _), if_neg (Nat.not_lt_zero _), if_neg (Nat.not_lt_zero _)]
set_option maxHeartbeats 4000000 in
theorem rparse_long (b : Nat) (key s : ByteArray) (w : World) (h : key.size = 32) (hs : 456 ≤ s.size) (hz : s.size ≤ 900) (hh : Arr w b 0 8 H0.fn) (hkn : Arr w b 8 64 kn) (A : ByteArray) (n : Int) (res : Value) (hA : A.size ≤ 900) (hw : RWritesAs b key (rd s) A n)
    (hres : (n = 1 ∧ res = .tuple #[tval Tb.zero, .int .i64 15]) ∨ (n = 0 ∧ ¬ s = A ++ txt (s.size - 456) (fun _ => 0) ∧ res = .tuple #[tval Tb.zero, .int .i64 15]) ∨ (n = 0 ∧ s = A ++ txt (s.size - 456) (fun _ => 0) ∧ res = .tuple #[tval (rd s), .int .i64 0])) :
    Calls Tryz.prog 72 #[.pointer (some ⟨b, 0, none⟩), .string key, .string s] w fun e w' => e = .returned res ∧ Since w w' := by
  have e1 : (key.size : Int) = 32 := by omega
  have e2 : ¬ (s.size : Int) < 456 := by omega
  have HH : Hid (Arr w b 0 8 H0.fn) := hh
  have HK : Hid (Arr w b 8 64 kn) := hkn
  have HW : Hid (RWritesAs b key (rd s) A n) := hw
  have HRS : Hid ((n = 1 ∧ res = .tuple #[tval Tb.zero, .int .i64 15]) ∨ (n = 0 ∧ ¬ s = A ++ txt (s.size - 456) (fun _ => 0) ∧ res = .tuple #[tval Tb.zero, .int .i64 15]) ∨ (n = 0 ∧ s = A ++ txt (s.size - 456) (fun _ => 0) ∧ res = .tuple #[tval (rd s), .int .i64 0])) := hres
  have HC0 : Hid (Cel ((w.alloc (.cells Tryz.zeroCells92 92)).alloc (.cells Tryz.zeroCells92 92)) w.heap.size 73 (tcell Tb.zero)) := (zeroTab_cel w w.heap.size rfl).since ((Since.refl _).alloc _)
  have HD0 : Hid (Cel ((w.alloc (.cells Tryz.zeroCells92 92)).alloc (.cells Tryz.zeroCells92 92)) (w.heap.size + 1) 73 (tcell Tb.zero)) := zeroTab_cel _ (w.heap.size + 1) (by simp)
  have HS0 : Hid (Since w ((w.alloc (.cells Tryz.zeroCells92 92)).alloc (.cells Tryz.zeroCells92 92))) := ((Since.refl w).alloc _).alloc _
  clear hh hkn hw hres
  go_enter Tryz.func72, Tryz.ntmps72
  go_wp2_with fail
  generalize (w.alloc (.cells Tryz.zeroCells92 92)).alloc (.cells Tryz.zeroCells92 92) = w0 at *
  go_loopw [23, 9, 10] (fun i c _ wr => ∃ k : Nat, k ≤ 8 ∧ i = .int .i64 k ∧ c = .int .u64 (numAt s 16 k : Int) ∧ wr = w0) (fun i _ _ _ => 8 - (intOf i).toNat)
  case atStart => exact ⟨0, by omega, rfl, rfl, rfl⟩
  case round =>
    obtain ⟨k, hk, rfl, rfl, rfl⟩ := hrel
    by_cases hlt : k < 8
    · have hlt2 : (k : Int) < 8 := by omega
      have hlt3 : 16 + k < s.size := by omega
      have hb : s[16 + k] = sb s (16 + k) := sb_get s (16 + k) hlt3
      have hlt4 := numAt_lt s 16 (k + 1)
      have hle : 256 ^ (k + 1) ≤ 256 ^ 8 := Nat.pow_le_pow_right (by omega) (by omega)
      have HO : Hid (IntKind.u64.wrap (IntKind.u64.wrap ((numAt s 16 k : Int) * 256) + IntKind.u64.wrap ((sb s (16 + k)).toNat : Int)) = ((numAt s 16 (k + 1) : Nat) : Int)) := by
        have h2 : numAt s 16 (k + 1) = numAt s 16 k * 256 + (sb s (16 + k)).toNat := by rw [numAt]
        rw [h2] at hlt4 ⊢
        exact add_byte _ _ (by omega) ((sb s (16 + k)).toNat_lt)
      clear hlt4 hle
      go_wp2_with fail
      go_roundw
      case rel => exact ⟨k + 1, by omega, by go_num, by rw [HO.out], trivial⟩
      case measure => simp [intOf]; omega
    · have hke : k = 8 := by omega
      subst hke
      have q0 := HD0.out.cell 0 (by omega)
      have f0 := HD0.out.frozen 0 (by omega)
      have HD1 : Hid (Cel (wr.setCell ⟨w.heap.size + 1, 0, none⟩ (.int .i64 (wrap64 (numAt s 16 8 : Int)))) (w.heap.size + 1) 73 (tcell (rdTo s 0))) := (HD0.out.set 0 (by omega) _).congr (fun j hj => rdTo_start s j)
      have HC1 : Hid (Cel (wr.setCell ⟨w.heap.size + 1, 0, none⟩ (.int .i64 (wrap64 (numAt s 16 8 : Int)))) w.heap.size 73 (tcell Tb.zero)) := HC0.out.other (by show w.heap.size + 1 ≠ w.heap.size; omega) _
      have HS1 : Hid (Since w (wr.setCell ⟨w.heap.size + 1, 0, none⟩ (.int .i64 (wrap64 (numAt s 16 8 : Int))))) := HS0.out.setCell (by show w.heap.size ≤ w.heap.size + 1; omega) _
      clear HD0 HC0 HS0
      go_wp2_with fail
      generalize wr.setCell ⟨w.heap.size + 1, 0, none⟩ (.int .i64 (wrap64 (numAt s 16 8 : Int))) = w1 at *
      generalize (numAt s 16 8 : Int) = c at *
      clear q0 f0
      go_loopw [38, 11, 12] (fun i _ _ wq => ∃ k : Nat, k ≤ 24 ∧ i = .int .i64 k ∧ Cel wq (w.heap.size + 1) 73 (tcell (rdTo s k)) ∧ Cel wq w.heap.size 73 (tcell Tb.zero) ∧ Since w wq) (fun i _ _ _ => 24 - (intOf i).toNat)
      case atStart => exact ⟨0, by omega, rfl, HD1.out, HC1.out, HS1.out⟩
      case round =>
        obtain ⟨k, hk, rfl, hc, hd, hs2⟩ := hrel
        have HCK : Hid (Cel wr (w.heap.size + 1) 73 (tcell (rdTo s k))) := hc
        have HDK : Hid (Cel wr w.heap.size 73 (tcell Tb.zero)) := hd
        have HSK : Hid (Since w wr) := hs2
        clear hc hd hs2 HD1 HC1 HS1
        by_cases hlt5 : k < 24
        · have hlt6 : (k : Int) < 24 := by omega
          have hle1 : ((42 + 18 * k : Nat) : Int) ≤ s.size := by omega
          have z2 : (s.extract (24 + 18 * k) (42 + 18 * k)).size = 18 := by rw [ByteArray.size_extract]; omega
          have x0 : sb (s.extract (24 + 18 * k) (42 + 18 * k)) 0 = sb s (24 + 18 * k) := by rw [sb_ext s _ _ 0 (by omega) (by omega), Nat.add_zero]
          have x1 : sb (s.extract (24 + 18 * k) (42 + 18 * k)) 1 = sb s (25 + 18 * k) := by rw [sb_ext s _ _ 1 (by omega) (by omega), show 24 + 18 * k + 1 = 25 + 18 * k by omega]
          have x2 : (s.extract (24 + 18 * k) (42 + 18 * k)).extract 2 18 = s.extract (26 + 18 * k) (42 + 18 * k) := by rw [ext_ext s _ _ 2 18 (by omega), show 24 + 18 * k + 2 = 26 + 18 * k by omega, show 24 + 18 * k + 18 = 42 + 18 * k by omega]
          have hb0 := sb_get (s.extract (24 + 18 * k) (42 + 18 * k)) 0 (by omega)
          have hb1 := sb_get (s.extract (24 + 18 * k) (42 + 18 * k)) 1 (by omega)
          have hxI : ((s.extract (24 + 18 * k) (42 + 18 * k)).size : Int) = 18 := by omega
          rw [x0] at hb0
          rw [x1] at hb1
          clear x0 x1
          by_cases h255 : sb s (24 + 18 * k) = 255
          · have HC5 : Hid (Cel wr (w.heap.size + 1) 73 (tcell (rdTo s (k + 1)))) := by
              show Cel _ _ _ _
              rw [rdTo_none s k h255]
              exact HCK.out
            rw [h255] at hb0
            clear h255 hb1 x2
            go_wp2_with fail
            go_roundw
            case rel => exact ⟨k + 1, by omega, by go_num, HC5.out, HDK.out, HSK.out⟩
            case measure => simp [intOf]; omega
          · have HZ : Hid (zat s k = ((sb s (24 + 18 * k)).toNat : Int)) := by show zat s k = _; unfold zat; rw [if_neg h255]
            have HO : Hid (oat s k = ((sb s (25 + 18 * k)).toNat : Int)) := by show oat s k = _; unfold oat; rw [if_neg h255]
            have HTG : Hid (tat s k = s.extract (26 + 18 * k) (42 + 18 * k)) := by show tat s k = _; unfold tat; rw [if_neg h255]
            have hu : ¬ ((sb s (24 + 18 * k)).toNat : Int) = 255 := by
              intro e
              exact h255 (UInt8.toNat_inj.1 (by rw [show (255 : UInt8).toNat = 255 from rfl]; omega))
            have hw0 := wrapB (sb s (24 + 18 * k))
            have hw1 := wrapB (sb s (25 + 18 * k))
            have HC5 : Hid (Cel wr.drew (w.heap.size + 1) 73 (tcell (rdTo s k))) := HCK.out.since (Since.refl _).drew
            have HD5 : Hid (Cel wr.drew w.heap.size 73 (tcell Tb.zero)) := HDK.out.since (Since.refl _).drew
            have HS5 : Hid (Since w wr.drew) := HSK.out.drew
            have q0 := HC5.out.cell (1 + k * 3) (by omega)
            have q1 := HC5.out.cell (1 + k * 3 + 1) (by omega)
            have q2 := HC5.out.cell (1 + k * 3 + 2) (by omega)
            have f0 := HC5.out.frozen (1 + k * 3) (by omega)
            have f1 := HC5.out.frozen (1 + k * 3 + 1) (by omega)
            have f2 := HC5.out.frozen (1 + k * 3 + 2) (by omega)
            have p0 := HCK.out.cell (1 + k * 3) (by omega)
            have p1 := HCK.out.cell (1 + k * 3 + 1) (by omega)
            have p2 := HCK.out.cell (1 + k * 3 + 2) (by omega)
            have g0 := HCK.out.frozen (1 + k * 3) (by omega)
            have g1 := HCK.out.frozen (1 + k * 3 + 1) (by omega)
            have g2 := HCK.out.frozen (1 + k * 3 + 2) (by omega)
            have hC6 := ((HCK.out.set (1 + k * 3) (by omega) (.int .i64 (zat s k))).set (1 + k * 3 + 1) (by omega) (.int .i64 (oat s k))).set (1 + k * 3 + 2) (by omega) (.string (tat s k))
            have hC7 := hC6.congr (fun j hj => rdTo_set s k hlt5 j hj)
            have hD6 := ((HDK.out.other (a := ⟨w.heap.size + 1, 1 + k * 3, none⟩) (by show w.heap.size + 1 ≠ w.heap.size; omega) (.int .i64 (zat s k))).other (a := ⟨w.heap.size + 1, 1 + k * 3 + 1, none⟩) (by show w.heap.size + 1 ≠ w.heap.size; omega) (.int .i64 (oat s k))).other (a := ⟨w.heap.size + 1, 1 + k * 3 + 2, none⟩) (by show w.heap.size + 1 ≠ w.heap.size; omega) (.string (tat s k))
            have hS6 := ((HSK.out.setCell (p := ⟨w.heap.size + 1, 1 + k * 3, none⟩) (by show w.heap.size ≤ w.heap.size + 1; omega) (.int .i64 (zat s k))).setCell (p := ⟨w.heap.size + 1, 1 + k * 3 + 1, none⟩) (by show w.heap.size ≤ w.heap.size + 1; omega) (.int .i64 (oat s k))).setCell (p := ⟨w.heap.size + 1, 1 + k * 3 + 2, none⟩) (by show w.heap.size ≤ w.heap.size + 1; omega) (.string (tat s k))
            rw [HZ.out, HO.out, HTG.out] at hC7 hD6 hS6
            have HC7 : Hid (Cel _ (w.heap.size + 1) 73 (tcell (rdTo s (k + 1)))) := hC7.since (Since.refl _).drew
            have HD7 : Hid (Cel _ w.heap.size 73 (tcell Tb.zero)) := hD6.since (Since.refl _).drew
            have HS7 : Hid (Since w _) := hS6.drew
            clear hC6 hC7 hD6 hS6 h255
            go_wp2_with fail
            go_region
            clear p0 p1 p2 g0 g1 g2 q0 q1 q2 f0 f1 f2
            go_wp2_with fail
            go_roundw
            case rel => exact ⟨k + 1, by omega, by go_num, HC7.out, HD7.out, HS7.out⟩
            case measure => simp [intOf]; omega
        · have hke : k = 24 := by omega
          subst hke
          have hR := tab_all HCK.out
          have hL := ln73 (rdTo s 24)
          have hV : tval (rd s) = .agg (brow 73 (tcell (rdTo s 24))).toArray := rfl
          rw [hV] at HRS
          have HW2 : Hid (∀ W, Arr W b 0 8 H0.fn → Arr W b 8 64 kn → Calls Tryz.prog 49 #[.pointer (some ⟨b, 0, none⟩), .string key, .agg (brow 73 (tcell (rdTo s 24))).toArray] W fun e w' => e = .returned (.tuple #[.string A, .int .i64 n]) ∧ Since W w') := HW.out
          clear HW hV
          go_wp2_with (refine wpList_load_mid (by rfl) 92 _ (by rfl) (w.heap.size + 1) 0 (by rfl) _ _ hR Tryz.underlying92 (by rfl) (by rw [hL]; kernel_rfl) ?_)
          refine (HW2.out _ (HH.out.since HSK.out) (HK.out.since HSK.out)).mono ?_
          rintro e w5 ⟨rfl, h5⟩
          have HC5 : Hid (Cel w5 (w.heap.size + 1) 73 (tcell (rdTo s 24))) := HCK.out.since h5
          have HD5 : Hid (Cel w5 w.heap.size 73 (tcell Tb.zero)) := HDK.out.since h5
          have HS5 : Hid (Since w w5) := HSK.out.trans h5
          clear h5 HCK HDK HSK hR HW2
          rcases HRS.out with ⟨he, hr⟩ | ⟨he, hne, hr⟩ | ⟨he, heq, hr⟩
          · subst he
            have HR : Hid (res = .tuple #[tval Tb.zero, .int .i64 15]) := hr
            clear hr HRS
            obtain ⟨hst, hR⟩ := zero_stored HD5.out
            have HR6 : Hid ((w5.setCells w.heap.size 0 Tryz.zeroCells92.toList).rangeAt w.heap.size 0 (brow 73 (tcell Tb.zero))) := hR
            have HS6 : Hid (Since w (w5.setCells w.heap.size 0 Tryz.zeroCells92.toList)) := HS5.out.setCells (Nat.le_refl _) _ _
            clear hR
            go_wp2_with fail
            exact bodyPost_ret (results_row2 Tryz.results72 _ _ _ w.heap.size _ _ _ (by rfl) HR6.out Tryz.underlying92 (by rfl) (by rw [ln73]; kernel_rfl) rfl) rfl ⟨by rw [HR.out]; rfl, HS6.out⟩
          · subst he
            have HR : Hid (res = .tuple #[tval Tb.zero, .int .i64 15]) := hr
            have hnl := neq_list hne
            clear hr HRS hne
            have E1 : Hid ((s.size : Int) - 456 = ((s.size - 456 : Nat) : Int)) := show (s.size : Int) - 456 = ((s.size - 456 : Nat) : Int) by omega
            have HZZ : Hid (∀ W, Calls Tryz.prog 30 #[.int .i64 ((s.size - 456 : Nat) : Int)] W fun e w' => e = .returned (.string (txt (s.size - 456) (fun _ => 0))) ∧ Since W w') := fun W => zeros_any (s.size - 456) W (by omega)
            have hzz : (txt (s.size - 456) (fun _ => 0)).size = s.size - 456 := txt_size _ _
            go_wp2_with fail
            rw [E1.out]
            generalize txt (s.size - 456) (fun _ => 0) = Z at *
            refine (HZZ.out _).mono ?_
            rintro e w6 ⟨rfl, h6⟩
            have HD6 : Hid (Cel w6 w.heap.size 73 (tcell Tb.zero)) := HD5.out.since h6
            have HS6 : Hid (Since w w6) := HS5.out.trans h6
            clear h6
            have hadd : A.size + Z.size ≤ 9223372036854775807 := by omega
            obtain ⟨hst, hR⟩ := zero_stored HD6.out
            have HR6 : Hid ((w6.setCells w.heap.size 0 Tryz.zeroCells92.toList).rangeAt w.heap.size 0 (brow 73 (tcell Tb.zero))) := hR
            have HS7 : Hid (Since w (w6.setCells w.heap.size 0 Tryz.zeroCells92.toList)) := HS6.out.setCells (Nat.le_refl _) _ _
            clear hR
            go_wp2_with fail
            exact bodyPost_ret (results_row2 Tryz.results72 _ _ _ w.heap.size _ _ _ (by rfl) HR6.out Tryz.underlying92 (by rfl) (by rw [ln73]; kernel_rfl) rfl) rfl ⟨by rw [HR.out]; rfl, HS7.out⟩
          · subst he
            have HR : Hid (res = .tuple #[.agg (brow 73 (tcell (rdTo s 24))).toArray, .int .i64 0]) := hr
            have HEQ : Hid (A ++ txt (s.size - 456) (fun _ => 0) = s) := heq.symm
            clear hr HRS heq
            have E1 : Hid ((s.size : Int) - 456 = ((s.size - 456 : Nat) : Int)) := show (s.size : Int) - 456 = ((s.size - 456 : Nat) : Int) by omega
            have HZZ : Hid (∀ W, Calls Tryz.prog 30 #[.int .i64 ((s.size - 456 : Nat) : Int)] W fun e w' => e = .returned (.string (txt (s.size - 456) (fun _ => 0))) ∧ Since W w') := fun W => zeros_any (s.size - 456) W (by omega)
            have hzz : (txt (s.size - 456) (fun _ => 0)).size = s.size - 456 := txt_size _ _
            go_wp2_with fail
            rw [E1.out]
            generalize txt (s.size - 456) (fun _ => 0) = Z at *
            refine (HZZ.out _).mono ?_
            rintro e w6 ⟨rfl, h6⟩
            have HC6 : Hid (Cel w6 (w.heap.size + 1) 73 (tcell (rdTo s 24))) := HC5.out.since h6
            have HD6 : Hid (Cel w6 w.heap.size 73 (tcell Tb.zero)) := HD5.out.since h6
            have HS6 : Hid (Since w w6) := HS5.out.trans h6
            clear h6
            have hadd : A.size + Z.size ≤ 9223372036854775807 := by omega
            have heq2 := HEQ.out
            obtain ⟨hst, hC7⟩ := tab_stored HD6.out (rdTo s 24)
            have HR6 : Hid ((w6.setCells w.heap.size 0 (brow 73 (tcell (rdTo s 24)))).rangeAt w.heap.size 0 (brow 73 (tcell (rdTo s 24)))) := tab_all hC7
            have HS7 : Hid (Since w (w6.setCells w.heap.size 0 (brow 73 (tcell (rdTo s 24))))) := HS6.out.setCells (Nat.le_refl _) _ _
            have hR := tab_all HC6.out
            clear hC7
            go_wp2_with (refine wpList_load_mid (by rfl) 92 _ (by rfl) (w.heap.size + 1) 0 (by rfl) _ _ hR Tryz.underlying92 (by rfl) (by rw [hL]; kernel_rfl) ?_)
            exact bodyPost_ret (results_row2 Tryz.results72 _ _ _ w.heap.size _ _ _ (by rfl) HR6.out Tryz.underlying92 (by rfl) (by rw [ln73]; kernel_rfl) rfl) rfl ⟨by rw [HR.out]; rfl, HS7.out⟩
end Tw
end Go.Proofs.YtbfjklpoheooaaaGreatDoor
end
