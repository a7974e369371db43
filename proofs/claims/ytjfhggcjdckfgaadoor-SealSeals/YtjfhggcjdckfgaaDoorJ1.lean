/- Package seal: mark, filled, emptied. -/
import Derived.Test.YtjfhggcjdckfgaaDoorJ0
import Derived.Test.YtjfhggcjdckfgaaDoorW10
namespace Go.Proofs.YtjfhggcjdckfgaaDoor
set_option linter.unusedSimpArgs false
set_option linter.unusedVariables false
set_option maxRecDepth 100000
namespace Sl
open Go.RowKit
open Sm (Tab mark_any num_any refNum_any markOf accTo be8 sumSt)

def three (a b c : ByteArray) : Nat → ByteArray := fun j => if j = 0 then a else if j = 1 then b else c
/-- a number's eight bytes -/
def numT (n : Int) : ByteArray := strOfNums (be8 (n % 18446744073709551616))
theorem numT_size (n : Int) : (numT n).size = 8 := by unfold numT; rw [strOfNums_size]; rfl
/-- the mark of a key, a cell and a text -/
def mk (kd : UInt8) (key : ByteArray) (cell : Int) (t : ByteArray) : ByteArray := markOf ⟨(accTo kd (three key (numT cell) t) 3).toArray⟩
theorem mk_size (kd : UInt8) (key : ByteArray) (cell : Int) (t : ByteArray) : (mk kd key cell t).size = 16 := by
  unfold mk markOf
  generalize (⟨(accTo kd (three key (numT cell) t) 3).toArray⟩ : ByteArray) = s
  have h : (strOfNums (sumSt s).bytes).size = 32 := by rw [strOfNums_size]; rfl
  simp [ByteArray.size_extract, h]
theorem three_cells (w : World) (a b c : ByteArray) (t : TypeId) (j : Nat) (hj : j < 3) : (w.alloc (.cells #[.string a, .string b, .string c] t)).cell? ⟨w.heap.size, 0 + j, none⟩ = some (.string (three a b c j)) := by
  rw [Nat.zero_add, World.cell?_alloc_new]
  match j, hj with
  | 0, _ => rfl
  | 1, _ => rfl
  | 2, _ => rfl
theorem three_size (a b c : ByteArray) (ha : a.size ≤ 900) (hb : b.size ≤ 900) (hc : c.size ≤ 900) (j : Nat) : (three a b c j).size ≤ 900 := by
  unfold three; split
  · assumption
  · split <;> assumption

set_option maxHeartbeats 1000000 in
theorem mark_seal (kd : UInt8) (key : ByteArray) (cell : Int) (t : ByteArray) (w : World) (hk : key.size ≤ 900) (ht : t.size ≤ 900) (hT : Tab w) :
    Calls Tryd.prog 128 #[.int .u8 kd.toNat, .string key, .int .i64 cell, .string t] w fun e w' => e = .returned (.string (mk kd key cell t)) ∧ Since w w' := by
  go_enter Tryd.func128, Tryd.ntmps128
  go_wp2_with fail
  refine (num_any cell _).mono ?_
  rintro e w1 ⟨rfl, h1⟩
  have hn8 := numT_size cell
  have HN : strOfNums (be8 (cell % 18446744073709551616)) = numT cell := rfl
  rw [HN]
  clear HN
  have HM : Hid (markOf ⟨(accTo kd (three key (numT cell) t) 3).toArray⟩ = mk kd key cell t) := by
    show markOf _ = mk kd key cell t
    unfold mk
    rfl
  generalize hN : numT cell = N at *
  go_wp2_with fail
  have hm := mark_any kd w1.heap.size 0 3 3 (three key N t) (w1.alloc (.cells #[.string key, .string N, .string t] 220)) (by omega) (fun j _ => three_size key N t hk (by omega) ht j) (hT.since (h1.alloc _)) (fun j hj => three_cells w1 key N t 220 j hj)
  refine hm.mono ?_
  clear hm
  rintro e w2 ⟨rfl, h2⟩
  rw [HM.out]
  generalize hq : mk kd key cell t = q at *
  have HQ : Hid (mk kd key cell t = q) := hq
  clear hq
  go_wp2_with fail
  go_ret
  exact ⟨by rw [HQ.out]; rfl, (h1.alloc _).trans h2⟩
set_option maxHeartbeats 1000000 in
theorem filled_any (s : ByteArray) (w : World) (hs : s.size ≤ 80) :
    Calls Tryd.prog 129 #[.string s] w fun e w' => e = .returned (.string (fill s)) ∧ Since w w' := by
  have hz : ∀ j, j < 81 → (Tryd.zeroCells221.setIfInBounds 0 (Value.int IntKind.u8 (s.size : Int)))[j]? = some (if j = 0 then .int .u8 (s.size : Int) else bv 0) := by
    intro j hj
    have hsz : Tryd.zeroCells221.size = 81 := by kernel_rfl
    have he : Tryd.zeroCells221 = (List.replicate 81 (Value.int .u8 0)).toArray := by kernel_rfl
    by_cases e : j = 0
    · subst e
      rw [if_pos rfl, Array.getElem?_setIfInBounds_self_of_lt (by rw [hsz]; omega)]
    · rw [if_neg e, Array.getElem?_setIfInBounds_ne (fun h => e h.symm), he]
      rw [List.getElem?_toArray, List.getElem?_replicate, if_pos hj]; rfl
  have hC : Cel (w.alloc (.cells (Tryd.zeroCells221.setIfInBounds 0 (Value.int IntKind.u8 (s.size : Int))) 221)) w.heap.size 81 (fun j => if j = 0 then .int .u8 (s.size : Int) else bv 0) := Cel.new w 81 _ _ _ hz _ rfl
  have hcp := copy_str _ 3 w.heap.size 1 80 80 81 _ s hC (by omega)
  rw [show min s.size 80 = s.size by omega] at hcp
  have hC2 := hC.setRow 1 s.size (by omega) (fun i => bv (sb s i))
  have hS2 : Since w ((w.alloc (.cells (Tryd.zeroCells221.setIfInBounds 0 (Value.int IntKind.u8 (s.size : Int))) 221)).setCells w.heap.size 1 (brow s.size (fun i => bv (sb s i)))) := ((Since.refl w).alloc _).setCells (Nat.le_refl _) _ _
  have hC3 : Cel ((w.alloc (.cells (Tryd.zeroCells221.setIfInBounds 0 (Value.int IntKind.u8 (s.size : Int))) 221)).setCells w.heap.size 1 (brow s.size (fun i => bv (sb s i)))) w.heap.size 81 (fun j => bv (fillF s j)) := by
    refine hC2.congr (fun j hj => ?_)
    unfold updl fillF
    by_cases e : j = 0
    · subst e
      rw [if_neg (by omega)]
      dsimp only
      rw [if_pos rfl, if_pos rfl]
      unfold bv
      rw [UInt8.toNat_ofNat']
      congr 1
      omega
    · rw [if_neg e]
      by_cases h : j < 1 + s.size
      · rw [if_pos ⟨by omega, h⟩]
      · rw [if_neg (by omega)]
        dsimp only
        rw [if_neg e, sb_zero s (j - 1) (by omega)]
  have HC3 : Hid _ := hC3
  have HS2 : Hid _ := hS2
  clear hC2 hC hz hC3 hS2
  go_enter Tryd.func129, Tryd.ntmps129
  go_wp2_with fail
  clear hcp
  generalize World.setCells _ _ _ _ = w2 at *
  have hcv := conv_txt w2 w.heap.size 0 81 81 (fillF s) (fun i hi => by rw [Nat.zero_add]; exact HC3.out.cell i hi)
  have HF : Hid (txt 81 (fillF s) = fill s) := show _ = _ from rfl
  rw [HF.out] at hcv
  generalize hq : fill s = q at *
  have HQ : Hid (fill s = q) := hq
  clear hq HF
  rw [hcv]
  go_simp
  go_wp2_with fail
  go_ret
  exact ⟨by rw [HQ.out]; rfl, HS2.out⟩
theorem sb0 (s : ByteArray) (h : 0 < s.size) : s[0] = sb s 0 := by
  have hsz : s.data.size = s.size := rfl
  unfold sb
  rw [Array.getElem?_eq_getElem (by omega)]
  rfl
set_option maxHeartbeats 1000000 in
theorem emptied_any (s : ByteArray) (w : World) (hs : s.size = 81) :
    Calls Tryd.prog 130 #[.string s] w fun e w' => e = .returned (.string (s.extract 1 (1 + min (sb s 0).toNat 80))) ∧ w' = w := by
  have h0 : 0 < s.size := by omega
  have hI : (s.size : Int) = 81 := by omega
  have hb := sb0 s h0
  generalize sb s 0 = y at *
  have hy := y.toNat_lt
  by_cases h : y.toNat ≤ 80
  · rw [Nat.min_eq_left h]
    have hI2 : min (y.toNat : Int) 80 = y.toNat := by omega
    go_enter Tryd.func130, Tryd.ntmps130
    go_wp2_with fail
    go_ret
    exact ⟨rfl, rfl⟩
  · rw [Nat.min_eq_right (by omega)]
    have hI2 : min (y.toNat : Int) 80 = 80 := by omega
    go_enter Tryd.func130, Tryd.ntmps130
    go_wp2_with fail
    go_ret
    exact ⟨rfl, rfl⟩
end Sl
end Go.Proofs.YtjfhggcjdckfgaaDoor
