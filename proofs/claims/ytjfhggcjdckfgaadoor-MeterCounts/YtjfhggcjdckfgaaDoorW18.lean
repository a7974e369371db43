import Derived.Test.YtjfhggcjdckfgaaDoorW10
import Derived.Test.YtjfhggcjdckfgaaDoorW15
namespace Go.Proofs.YtjfhggcjdckfgaaDoor
set_option linter.unusedSimpArgs false
set_option linter.unusedVariables false
set_option maxRecDepth 100000
namespace Sm
open Go.RowKit
attribute [local go_sem ↓] conv1

/-- what R.Sum's contract says -/
def RSum : Prop := ∀ (b : Nat) (s : ByteArray) (w : World), s.size ≤ 10000 → Arr w b 0 8 H0.fn → Arr w b 8 64 kn →
    Calls Tryd.prog 14 #[.pointer (some ⟨b, 0, none⟩), .string s] w fun e w' => e = .returned (.string (strOfNums (sumSt s).bytes)) ∧ Since w w'

def acc (kd : UInt8) (ps : Nat → ByteArray) (n : Nat) : ByteArray := ⟨(accTo kd ps n).toArray⟩
theorem acc_0 (kd : UInt8) (ps : Nat → ByteArray) : strOfNums [(kd.toNat : Int)] = acc kd ps 0 := by
  apply ByteArray.ext
  simp [strOfNums, acc, accTo]
theorem acc_s (kd : UInt8) (ps : Nat → ByteArray) (n : Nat) : acc kd ps n ++ strOfNums (be8 (ps n).size) ++ ps n = acc kd ps (n + 1) := by
  apply ByteArray.ext
  simp [acc, accTo, ByteArray.data_append, Array.append_assoc]
theorem acc_size (kd : UInt8) (ps : Nat → ByteArray) (n : Nat) : (acc kd ps n).size = (accTo kd ps n).length := by
  simp [acc, ByteArray.size]

set_option maxHeartbeats 1000000 in
theorem rmark_any (hsum : RSum) (b : Nat) (kd : UInt8) (pb po m cap : Nat) (ps : Nat → ByteArray) (w : World) (hm : m ≤ 10) (hp : ∀ j, j < m → (ps j).size ≤ 900) (hh : Arr w b 0 8 H0.fn) (hk : Arr w b 8 64 kn)
    (hc : ∀ j, j < m → w.cell? ⟨pb, po + j, none⟩ = some (.string (ps j))) :
    Calls Tryd.prog 20 #[.pointer (some ⟨b, 0, none⟩), .int .u8 kd.toNat, .slice (some ⟨pb, po, none⟩) m cap] w fun e w' => e = .returned (.string (markOf ⟨(accTo kd ps m).toArray⟩)) ∧ Since w w' := by
  have HC := (show Hid (∀ j, j < m → w.cell? ⟨pb, po + j, none⟩ = some (.string (ps j))) from hc)
  have HP := (show Hid (∀ j, j < m → (ps j).size ≤ 900) from hp)
  clear hc hp
  go_enter Tryd.func20, Tryd.ntmps20
  go_wp2_with fail
  rw [acc_0 kd ps]
  go_loopw [15, 7] (fun i o wr => ∃ k : Nat, k ≤ m ∧ i = .int .i64 k ∧ o = .string (acc kd ps k) ∧ Since w wr) (fun i _ _ => m - (intOf i).toNat)
  case atStart => exact ⟨0, by omega, rfl, rfl, by first | exact (Since.refl w).alloc _ | exact Since.refl w⟩
  case round =>
    obtain ⟨k, hkm, rfl, rfl, hS⟩ := hrel
    by_cases hlt : k < m
    · have hck : wr.cell? ⟨pb, po + k, none⟩ = some (.string (ps k)) := by
        have h := HC.out k hlt
        rw [hS.cell (p := ⟨pb, po + k, none⟩) (World.block_lt_of_cell? w _ h)]; exact h
      have hpk := HP.out k hlt
      have hl := acc_len kd ps m HP.out k (by omega)
      rw [← acc_size] at hl
      have Hac : Hid _ := acc_s kd ps k
      generalize acc kd ps k = X at *
      go_wp2_with fail
      refine (refNum_any _ _).mono ?_
      rintro e w2 ⟨rfl, h2⟩
      rw [Int.emod_eq_of_lt (by omega) (by omega)]
      have hz8 : (strOfNums (be8 (ps k).size)).size = 8 := by rw [strOfNums_size]; rfl
      have hS2 := hS.trans h2
      generalize hY : strOfNums (be8 (ps k).size) = Y at *
      clear hY
      go_wp2_with fail
      go_roundw
      case rel => exact ⟨k + 1, by omega, by go_num, by rw [← Hac.out], hS2⟩
      case measure => simp [intOf]; omega
    · have hkm : k = m := by omega
      subst hkm
      have hl := acc_len kd ps k HP.out k (Nat.le_refl _)
      rw [← acc_size] at hl
      go_wp2_with fail
      refine (hsum b _ _ (by omega) (hh.since hS) (hk.since hS)).mono ?_
      rintro e w3 ⟨rfl, h3⟩
      generalize hSe : sumSt _ = q
      have HS : Hid (sumSt (acc kd ps k) = q) := hSe
      clear hSe
      have hsz : (strOfNums q.bytes).size = 32 := by rw [strOfNums_size]; rfl
      go_wp2_with fail
      go_ret
      exact ⟨by unfold markOf; rw [show (⟨(accTo kd ps k).toArray⟩ : ByteArray) = acc kd ps k from rfl, HS.out]; rfl, hS.trans h3⟩

set_option maxHeartbeats 1000000 in
theorem rmark_nil (hsum : RSum) (a : Option Addr) (b : Nat) (kd : UInt8) (cap : Nat) (ps : Nat → ByteArray) (w : World) (hh : Arr w b 0 8 H0.fn) (hk : Arr w b 8 64 kn) :
    Calls Tryd.prog 20 #[.pointer (some ⟨b, 0, none⟩), .int .u8 kd.toNat, .slice a 0 cap] w fun e w' => e = .returned (.string (markOf ⟨(accTo kd ps 0).toArray⟩)) ∧ Since w w' := by
  go_enter Tryd.func20, Tryd.ntmps20
  go_wp2_with fail
  rw [acc_0 kd ps]
  refine wp_loop_rounds 1 ?_
  rw [rounds_succ]
  have hl : (acc kd ps 0).size ≤ 10000 := by rw [acc_size]; simp [accTo]
  have hS : Since w (w.alloc (.cells #[.int .u8 (kd.toNat : Int)] 5)) := (Since.refl w).alloc _
  go_wp2_with fail
  refine (hsum b _ _ hl (hh.since hS) (hk.since hS)).mono ?_
  rintro e w3 ⟨rfl, h3⟩
  generalize hSe : sumSt _ = q
  have HS : Hid (sumSt (acc kd ps 0) = q) := hSe
  clear hSe
  have hsz : (strOfNums q.bytes).size = 32 := by rw [strOfNums_size]; rfl
  go_wp2_with fail
  go_ret
  exact ⟨by unfold markOf; rw [show (⟨(accTo kd ps 0).toArray⟩ : ByteArray) = acc kd ps 0 from rfl, HS.out]; rfl, hS.trans h3⟩
end Sm
end Go.Proofs.YtjfhggcjdckfgaaDoor
