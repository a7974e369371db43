import Derived.Test.YtjfhggcjdckfgaaDoorC1
namespace Go.Proofs.YtjfhggcjdckfgaaDoor
set_option maxRecDepth 100000
namespace Sm.Sr
set_option linter.unusedSimpArgs false
set_option linter.unusedVariables false
open Go.RowKit
attribute [local go_sem] U_add U_mulc U_xor U_and U_or U_shr U_shl U_not U_conv U_byte U_cells U_match U_oneCell U_store U_store1

theorem ext_byte (s : ByteArray) (a b i : Nat) (h : i < (s.extract a b).size) (hb : b ≤ s.size) : (s.extract a b)[i] = byteAt s (a + i) := by
  have h2 : a + i < s.size := by simp [ByteArray.size_extract] at h; omega
  unfold byteAt
  rw [ByteArray.getElem_extract]
  rw [List.getD_eq_getElem?_getD, List.getElem?_eq_getElem (by simpa using h2)]
  rfl
theorem word_ext (s : ByteArray) (k e : Nat) (he : e ≤ s.size) (h0 : 0 < (s.extract (4 * k) e).size) (h1 : 1 < (s.extract (4 * k) e).size) (h2 : 2 < (s.extract (4 * k) e).size) (h3 : 3 < (s.extract (4 * k) e).size) :
    word4 (s.extract (4 * k) e)[0] (s.extract (4 * k) e)[1] (s.extract (4 * k) e)[2] (s.extract (4 * k) e)[3] = wordAt s k := by
  unfold wordAt
  rw [ext_byte s _ _ _ _ (by omega), ext_byte s _ _ _ _ (by omega), ext_byte s _ _ _ _ (by omega), ext_byte s _ _ _ _ (by omega), Nat.add_zero]
/-- behind the first k words of the key -/
def keyTo (key : ByteArray) (k : Nat) : Nat → BitVec 32 := fun j =>
  if j = 0 then 1634760805#32 else if j = 1 then 857760878#32 else if j = 2 then 2036477234#32 else if j = 3 then 1797285236#32
  else if j < 4 + k then wordAt key (j - 4) else 0
/-- behind the first k words of the nonce -/
def nonTo (key nonce : ByteArray) (k : Nat) : Nat → BitVec 32 := fun j => if j < 13 then keyTo key 8 j else if j < 13 + k then wordAt nonce (j - 13) else 0
theorem key_step (key : ByteArray) (k j : Nat) : upd (keyTo key k) (4 + k) (wordAt key k) j = keyTo key (k + 1) j := by
  unfold upd keyTo
  by_cases e : j = 4 + k
  · subst e
    rw [if_pos rfl, if_neg (by omega), if_neg (by omega), if_neg (by omega), if_neg (by omega), if_pos (by omega), show 4 + k - 4 = k by omega]
  · rw [if_neg e]
    by_cases h : j < 4 + k
    · rw [if_pos h, if_pos (show j < 4 + (k + 1) by omega)]
    · rw [if_neg h, if_neg (show ¬ j < 4 + (k + 1) by omega)]
theorem non_step (key nonce : ByteArray) (k j : Nat) : upd (nonTo key nonce k) (13 + k) (wordAt nonce k) j = nonTo key nonce (k + 1) j := by
  unfold upd nonTo
  by_cases e : j = 13 + k
  · subst e
    rw [if_pos rfl, if_neg (by omega), if_pos (by omega), show 13 + k - 13 = k by omega]
  · rw [if_neg e]
    by_cases h : j < 13 + k
    · rw [if_pos h, if_pos (show j < 13 + (k + 1) by omega)]
    · rw [if_neg h, if_neg (show ¬ j < 13 + (k + 1) by omega)]
theorem non_laid (key nonce : ByteArray) (j : Nat) (hj : j < 16) : nonTo key nonce 3 j = laidF key nonce 0#32 j := by
  unfold nonTo keyTo laidF
  by_cases h : j < 13
  · rw [if_pos h]
    by_cases h12 : j < 12
    · rw [if_pos (show j < 4 + 8 by omega), if_pos h12]
    · rw [if_neg (show ¬ j < 4 + 8 by omega), if_neg h12, if_pos (show j = 12 by omega)]; rfl
  · rw [if_neg h, if_pos (by omega), if_neg (by omega), if_neg (by omega), if_neg (by omega), if_neg (by omega), if_neg (by omega), if_neg (by omega)]

set_option maxHeartbeats 1000000 in
set_option maxRecDepth 100000 in
theorem laid_any (key nonce : ByteArray) (w : World) (hk : key.size = 32) (hn : nonce.size = 12) :
    Calls Tryd.prog 91 #[.string key, .string nonce] w fun e w' => e = .returned (.agg (row 16 (laidF key nonce 0#32)).toArray) ∧ Since w w' := by
  go_enter Tryd.func91, Tryd.ntmps91
  go_wp2_with fail
  go_loopw [9] (fun i wr => ∃ k : Nat, k ≤ 8 ∧ i = .int .i64 k ∧ Arr wr w.heap.size 0 16 (fun _ => 0) ∧ Arr wr (w.heap.size + 1) 0 16 (keyTo key k) ∧ Since w wr) (fun i _ => 8 - (intOf i).toNat)
  case atStart =>
    refine ⟨0, by omega, rfl, (Arr.new w 16 (fun _ => 0) _ _ (by rfl) _ rfl).alloc _, Arr.new (w.alloc _) 16 _ _ _ (by rfl) _ (by simp), ((Since.refl _).alloc _).alloc _⟩
  case round =>
    obtain ⟨k, hk8, rfl, hR, hA, hS⟩ := hrel
    by_cases hlt : k < 8
    · have hex : 4 ≤ (key.extract (4 * k) 32).size := by simp [ByteArray.size_extract]; omega
      have HW := (show Hid _ from word_ext key k 32 (by omega) (by omega) (by omega) (by omega) (by omega))
      have c1 := hA.cell (4 + k) (by omega)
      have f1 := hA.frozen (4 + k) (by omega)
      rw [Nat.zero_add] at c1 f1
      have t1 : ((4 : Int) + k).toNat = 4 + k := by omega
      have t2 : ((4 : Int) * k).toNat = 4 * k := by omega
      have HR := (show Hid (Arr wr w.heap.size 0 16 (fun _ => 0)) from hR)
      have HA := (show Hid (Arr wr (w.heap.size + 1) 0 16 (keyTo key k)) from hA)
      clear hR hA
      go_wp2_with fail
      refine (word_any _ _ hex).mono ?_
      rintro e w1 ⟨rfl, n, rfl⟩
      rw [HW.out]
      go_wp2_with fail
      go_roundw
      case rel =>
        have h3 := (HA.out.drewN n).set (4 + k) (by omega) (wordAt key k)
        rw [Nat.zero_add] at h3
        exact ⟨k + 1, by omega, by go_num, (HR.out.drewN n).other (by simp) _, h3.congr (fun j _ => key_step key k j), (hS.drewN n).setCell (by simp) _⟩
      case measure => simp [intOf]; omega
    · have hke : k = 8 := by omega
      subst hke
      go_wp2_with fail
      go_loopw [21] (fun i wr => ∃ k : Nat, k ≤ 3 ∧ i = .int .i64 k ∧ Arr wr w.heap.size 0 16 (fun _ => 0) ∧ Arr wr (w.heap.size + 1) 0 16 (nonTo key nonce k) ∧ Since w wr) (fun i _ => 3 - (intOf i).toNat)
      case atStart =>
        refine ⟨0, by omega, rfl, hR, hA.congr (fun j hj => ?_), hS⟩
        unfold nonTo
        by_cases h : j < 13
        · rw [if_pos h]
        · rw [if_neg h, if_neg (by omega)]
          unfold keyTo
          rw [if_neg (by omega), if_neg (by omega), if_neg (by omega), if_neg (by omega), if_neg (by omega)]
      case round =>
        clear hR hA hS
        obtain ⟨k, hk3, rfl, hR, hA, hS⟩ := hrel
        by_cases hlt2 : k < 3
        · have hex : 4 ≤ (nonce.extract (4 * k) 12).size := by simp [ByteArray.size_extract]; omega
          have HW := (show Hid _ from word_ext nonce k 12 (by omega) (by omega) (by omega) (by omega) (by omega))
          have c1 := hA.cell (13 + k) (by omega)
          have f1 := hA.frozen (13 + k) (by omega)
          rw [Nat.zero_add] at c1 f1
          have t1 : ((13 : Int) + k).toNat = 13 + k := by omega
          have t2 : ((4 : Int) * k).toNat = 4 * k := by omega
          have HR := (show Hid (Arr wr w.heap.size 0 16 (fun _ => 0)) from hR)
          have HA := (show Hid (Arr wr (w.heap.size + 1) 0 16 (nonTo key nonce k)) from hA)
          clear hR hA
          go_wp2_with fail
          refine (word_any _ _ hex).mono ?_
          rintro e w1 ⟨rfl, n, rfl⟩
          rw [HW.out]
          go_wp2_with fail
          go_roundw
          case rel =>
            have h3 := (HA.out.drewN n).set (13 + k) (by omega) (wordAt nonce k)
            rw [Nat.zero_add] at h3
            (repeat apply Exists.intro)
            exact ⟨⟨k + 1, by omega, by go_num, (HR.out.drewN n).other (by simp) _, h3.congr (fun j _ => non_step key nonce k j), (hS.drewN n).setCell (by simp) _⟩, rfl⟩
          case measure => simp [intOf]; omega
        · have hke : k = 3 := by omega
          subst hke
          have hA3 : Arr wr (w.heap.size + 1) 0 16 (laidF key nonce 0#32) := hA.congr (fun j hj => non_laid key nonce j hj)
          have hRg := hA3.range
          have hst := hR.store Tryd.prog (laidF key nonce 0#32)
          have hL : (row 16 (laidF key nonce 0#32)).length = 16 := row_length _ _
          clear hA
          go_wp2_with (refine wpList_load_mid (by rfl) 136 _ (by rfl) (w.heap.size + 1) 0 (by rfl) _ _ hRg Tryd.underlying136 (by rfl) (by rw [row_length]; kernel_rfl) ?_)
          exact bodyPost_ret (results_row Tryd.results91 _ _ _ w.heap.size _ _ (by rfl) (hR.setRow (laidF key nonce 0#32)).range Tryd.underlying136 (by rfl) (by rw [row_length]; kernel_rfl)) rfl ⟨rfl, hS.setCells (by omega) _ _⟩
end Sm.Sr
end Go.Proofs.YtjfhggcjdckfgaaDoor
