import Derived.OwnWalk
import Derived.Laws.BitsAllLaws
import Derived.Test.YtifnhnfjelfddaaGreatDoorJ12
import Derived.Test.YtifnhnfjelfddaaGreatDoorJ20
import Derived.Test.YtifnhnfjelfddaaGreatDoorJ24
set_option linter.unusedSimpArgs false
set_option linter.unusedVariables false
section
namespace Go.Proofs.YtifnhnfjelfddaaGreatDoor
set_option maxRecDepth 100000
namespace Sl
open Go.RowKit
open Sm (Tab mark_any num_any markOf accTo be8 sumSt)
def three (a b c : ByteArray) : Nat → ByteArray := fun j => if j = 0 then a else if j = 1 then b else c
def numT (n : Int) : ByteArray := strOfNums (be8 (n % 18446744073709551616))
theorem numT_size (n : Int) : (numT n).size = 8 := by unfold numT; rw [strOfNums_size]; rfl
def mk (kd : UInt8) (key : ByteArray) (cell : Int) (t : ByteArray) : ByteArray := markOf ⟨(accTo kd (three key (numT cell) t) 3).toArray⟩
theorem mk_size (kd : UInt8) (key : ByteArray) (cell : Int) (t : ByteArray) : (mk kd key cell t).size = 16 := by
  unfold mk markOf
  generalize (⟨(accTo kd (three key (numT cell) t) 3).toArray⟩ : ByteArray) = s
  have h : (strOfNums (sumSt s).bytes).size = 32 := by rw [strOfNums_size]; rfl
  simp [ByteArray.size_extract, h]
theorem three_cells (w : World) (a b c : ByteArray) (t : TypeId) (j : Nat) (hj : j < 3) : (w.alloc (.cells #[.string a, .string b, .string c] t)).cell? ⟨w.heap.size, 0 + j, none⟩ = some (.string (three a b c j)) := by
  rw [Nat.zero_add, World.cell?_alloc_new]
  match j, hj with
  | 0, _ => rfl
  | 1, _ => rfl
  | 2, _ => rfl
theorem three_size (a b c : ByteArray) (ha : a.size ≤ 900) (hb : b.size ≤ 900) (hc : c.size ≤ 900) (j : Nat) : (three a b c j).size ≤ 900 := by
  unfold three; split
  · assumption
  · split <;> assumption
set_option maxHeartbeats 1000000 in
theorem mark_seal (kd : UInt8) (key : ByteArray) (cell : Int) (t : ByteArray) (w : World) (hk : key.size ≤ 900) (ht : t.size ≤ 900) (hT : Tab w) :
    Calls Tryz.prog 90 #[.int .u8 kd.toNat, .string key, .int .i64 cell, .string t] w fun e w' => e = .returned (.string (mk kd key cell t)) ∧ Since w w' := by
  go_enter Tryz.func90, Tryz.ntmps90
  go_wp2_with fail
  refine (num_any cell _).mono ?_
  rintro e w1 ⟨rfl, h1⟩
  have hn8 := numT_size cell
  have HN : strOfNums (be8 (cell % 18446744073709551616)) = numT cell := rfl
  rw [HN]
  clear HN
  have HM : Hid (markOf ⟨(accTo kd (three key (numT cell) t) 3).toArray⟩ = mk kd key cell t) := by
    show markOf _ = mk kd key cell t
    unfold mk
    rfl
  generalize hN : numT cell = N at *
  go_wp2_with fail
  have hm := mark_any kd w1.heap.size 0 3 3 (three key N t) (w1.alloc (.cells #[.string key, .string N, .string t] 193)) (by omega) (fun j _ => three_size key N t hk (by omega) ht j) (hT.since (h1.alloc _)) (fun j hj => three_cells w1 key N t 193 j hj)
  refine hm.mono ?_
  clear hm
  rintro e w2 ⟨rfl, h2⟩
  rw [HM.out]
  generalize hq : mk kd key cell t = q at *
  have HQ : Hid (mk kd key cell t = q) := hq
  clear hq
  go_wp2_with fail
  go_ret
  exact ⟨by rw [HQ.out]; rfl, (h1.alloc _).trans h2⟩
set_option maxHeartbeats 1000000 in
theorem filled_any (s : ByteArray) (w : World) (hs : s.size ≤ 80) :
    Calls Tryz.prog 92 #[.string s] w fun e w' => e = .returned (.string (fill s)) ∧ Since w w' := by
  have hz : ∀ j, j < 81 → (Tryz.zeroCells201.setIfInBounds 0 (Value.int IntKind.u8 (s.size : Int)))[j]? = some (if j = 0 then .int .u8 (s.size : Int) else bv 0) := by
    intro j hj
    have hsz : Tryz.zeroCells201.size = 81 := by kernel_rfl
    have he : Tryz.zeroCells201 = (List.replicate 81 (Value.int .u8 0)).toArray := by kernel_rfl
    by_cases e : j = 0
    · subst e
      rw [if_pos rfl, Array.getElem?_setIfInBounds_self_of_lt (by rw [hsz]; omega)]
    · rw [if_neg e, Array.getElem?_setIfInBounds_ne (fun h => e h.symm), he]
      rw [List.getElem?_toArray, List.getElem?_replicate, if_pos hj]; rfl
  have hC : Cel (w.alloc (.cells (Tryz.zeroCells201.setIfInBounds 0 (Value.int IntKind.u8 (s.size : Int))) 201)) w.heap.size 81 (fun j => if j = 0 then .int .u8 (s.size : Int) else bv 0) := Cel.new w 81 _ _ _ hz _ rfl
  have hcp := copy_str _ 3 w.heap.size 1 80 80 81 _ s hC (by omega)
  rw [show min s.size 80 = s.size by omega] at hcp
  have hC2 := hC.setRow 1 s.size (by omega) (fun i => bv (sb s i))
  have hS2 : Since w ((w.alloc (.cells (Tryz.zeroCells201.setIfInBounds 0 (Value.int IntKind.u8 (s.size : Int))) 201)).setCells w.heap.size 1 (brow s.size (fun i => bv (sb s i)))) := ((Since.refl w).alloc _).setCells (Nat.le_refl _) _ _
  have hC3 : Cel ((w.alloc (.cells (Tryz.zeroCells201.setIfInBounds 0 (Value.int IntKind.u8 (s.size : Int))) 201)).setCells w.heap.size 1 (brow s.size (fun i => bv (sb s i)))) w.heap.size 81 (fun j => bv (fillF s j)) := by
    refine hC2.congr (fun j hj => ?_)
    unfold updl fillF
    by_cases e : j = 0
    · subst e
      rw [if_neg (by omega)]
      dsimp only
      rw [if_pos rfl, if_pos rfl]
      unfold bv
      rw [UInt8.toNat_ofNat']
      congr 1
      omega
    · rw [if_neg e]
      by_cases h : j < 1 + s.size
      · rw [if_pos ⟨by omega, h⟩]
      · rw [if_neg (by omega)]
        dsimp only
        rw [if_neg e, sb_zero s (j - 1) (by omega)]
  have HC3 : Hid _ := hC3
  have HS2 : Hid _ := hS2
  clear hC2 hC hz hC3 hS2
  go_enter Tryz.func92, Tryz.ntmps92
  go_wp2_with fail
  clear hcp
  generalize World.setCells _ _ _ _ = w2 at *
  have hcv := conv_txt w2 w.heap.size 0 81 81 (fillF s) (fun i hi => by rw [Nat.zero_add]; exact HC3.out.cell i hi)
  have HF : Hid (txt 81 (fillF s) = fill s) := show _ = _ from rfl
  rw [HF.out] at hcv
  generalize hq : fill s = q at *
  have HQ : Hid (fill s = q) := hq
  clear hq HF
  rw [hcv]
  go_simp
  go_wp2_with fail
  go_ret
  exact ⟨by rw [HQ.out]; rfl, HS2.out⟩
theorem sb0 (s : ByteArray) (h : 0 < s.size) : s[0] = sb s 0 := by
  have hsz : s.data.size = s.size := rfl
  unfold sb
  rw [Array.getElem?_eq_getElem (by omega)]
  rfl
set_option maxHeartbeats 1000000 in
theorem emptied_any (s : ByteArray) (w : World) (hs : s.size = 81) :
    Calls Tryz.prog 143 #[.string s] w fun e w' => e = .returned (.string (s.extract 1 (1 + min (sb s 0).toNat 80))) ∧ w' = w := by
  have h0 : 0 < s.size := by omega
  have hI : (s.size : Int) = 81 := by omega
  have hb := sb0 s h0
  generalize sb s 0 = y at *
  have hy := y.toNat_lt
  by_cases h : y.toNat ≤ 80
  · rw [Nat.min_eq_left h]
    have hI2 : min (y.toNat : Int) 80 = y.toNat := by omega
    go_enter Tryz.func143, Tryz.ntmps143
    go_wp2_with fail
    go_ret
    exact ⟨rfl, rfl⟩
  · rw [Nat.min_eq_right (by omega)]
    have hI2 : min (y.toNat : Int) 80 = 80 := by omega
    go_enter Tryz.func143, Tryz.ntmps143
    go_wp2_with fail
    go_ret
    exact ⟨rfl, rfl⟩
end Sl
end Go.Proofs.YtifnhnfjelfddaaGreatDoor
end
section
namespace Go.Proofs.YtifnhnfjelfddaaGreatDoor
set_option maxRecDepth 100000
namespace Sl
open Go.RowKit
open Sm (Tab)
open Sm.Sr (xor_any xorOf)
def nonceOf (key : ByteArray) (cell : Int) (t : ByteArray) : ByteArray := (mk 110 key cell t).extract 0 12
def bodyOf (key : ByteArray) (cell : Int) (t : ByteArray) : ByteArray := strOfNums (xorOf key (nonceOf key cell t) (fill t))
def restOf (key : ByteArray) (cell : Int) (t : ByteArray) : ByteArray := nonceOf key cell t ++ bodyOf key cell t
def sealOf (key : ByteArray) (cell : Int) (t : ByteArray) : ByteArray := mk 103 key cell (restOf key cell t) ++ restOf key cell t
theorem nonce_size (key : ByteArray) (cell : Int) (t : ByteArray) : (nonceOf key cell t).size = 12 := by
  unfold nonceOf
  rw [ByteArray.size_extract, mk_size]
  rfl
theorem xor_size (key nonce s : ByteArray) : (strOfNums (xorOf key nonce s)).size = s.size := by
  rw [strOfNums_size]
  simp [xorOf]
theorem body_size (key : ByteArray) (cell : Int) (t : ByteArray) : (bodyOf key cell t).size = 81 := by
  unfold bodyOf
  rw [xor_size, fill_size]
theorem rest_size (key : ByteArray) (cell : Int) (t : ByteArray) : (restOf key cell t).size = 93 := by
  unfold restOf
  rw [ByteArray.size_append, nonce_size, body_size]
theorem seal_size (key : ByteArray) (cell : Int) (t : ByteArray) : (sealOf key cell t).size = 109 := by
  unfold sealOf
  rw [ByteArray.size_append, mk_size, rest_size]
set_option maxHeartbeats 1000000 in
theorem seal_ok (key : ByteArray) (cell : Int) (t : ByteArray) (w : World) (h : key.size = 32) (h0 : 0 ≤ cell) (h1 : cell < 24) (ht : t.size ≤ 80) (hT : Tab w) :
    Calls Tryz.prog 67 #[.string key, .int .i64 cell, .string t] w fun e w' => e = .returned (.tuple #[.string (sealOf key cell t), .nilIface]) ∧ Since w w' := by
  have e1 : (key.size : Int) = 32 := by omega
  have e2 : ¬ cell < 0 := by omega
  have e3 : ¬ 24 ≤ cell := by omega
  have e4 : ¬ (80 : Int) < t.size := by omega
  go_enter Tryz.func67, Tryz.ntmps67
  go_wp2_with fail
  have hm := mark_seal 110 key cell t w (by omega) (by omega) hT
  rw [show ((110 : UInt8).toNat : Int) = 110 from rfl] at hm
  refine hm.mono ?_
  clear hm
  rintro e w1 ⟨rfl, h1⟩
  have m1 := mk_size 110 key cell t
  have HN : Hid ((mk 110 key cell t).extract 0 12 = nonceOf key cell t) := show _ = nonceOf key cell t from rfl
  have n1 := nonce_size key cell t
  generalize hmk : mk 110 key cell t = M at *
  clear hmk
  go_wp2_with fail
  rw [HN.out]
  generalize hn : nonceOf key cell t = nn at *
  have HNN : Hid (nonceOf key cell t = nn) := hn
  clear hn HN
  refine (filled_any t _ ht).mono ?_
  rintro e w2 ⟨rfl, h2⟩
  have f1 := fill_size t
  generalize hf : fill t = F at *
  have HF : Hid (fill t = F) := hf
  clear hf
  go_wp2_with fail
  refine (xor_any key nn F _ h n1 (by omega)).mono ?_
  rintro e w3 ⟨rfl, h3⟩
  have x1 : (strOfNums (xorOf key nn F)).size = 81 := by rw [xor_size, f1]
  generalize hB : strOfNums (xorOf key nn F) = B at *
  have HB : Hid (strOfNums (xorOf key nn F) = B) := hB
  clear hB
  go_wp2_with fail
  have HS3 : Hid (Since w w3) := h1.trans (h2.trans h3)
  clear h1 h2 h3
  have r1 : (nn ++ B).size = 93 := by rw [ByteArray.size_append]; omega
  generalize hR : nn ++ B = R at *
  have HR : Hid (nn ++ B = R) := hR
  clear hR
  have hm := mark_seal 103 key cell R w3 (by omega) (by omega) (hT.since HS3.out)
  rw [show ((103 : UInt8).toNat : Int) = 103 from rfl] at hm
  refine hm.mono ?_
  clear hm
  rintro e w4 ⟨rfl, h4⟩
  have m2 := mk_size 103 key cell R
  generalize hT2 : mk 103 key cell R = T at *
  have HT2 : Hid (mk 103 key cell R = T) := hT2
  clear hT2
  go_wp2_with fail
  go_ret2
  refine ⟨?_, HS3.out.trans h4⟩
  unfold sealOf restOf bodyOf
  rw [HNN.out, HF.out, HB.out, HR.out, HT2.out]
  rfl
theorem neq_list {a b : ByteArray} (h : ¬ a = b) : (a.toList == b.toList) = false := by
  rw [ByteArray.toList_eq, ByteArray.toList_eq]
  rw [beq_eq_false_iff_ne]
  exact fun e => h (ByteArray.ext (Array.toList_inj.1 e))
def tagOf (key : ByteArray) (cell : Int) (s : ByteArray) : ByteArray := mk 103 key cell (s.extract 16 109)
def cutB (b : ByteArray) : ByteArray := b.extract 1 (1 + min (sb b 0).toNat 80)
def textOf (key s : ByteArray) : ByteArray := cutB (strOfNums (xorOf key (s.extract 16 28) (s.extract 28 109)))
set_option maxHeartbeats 1000000 in
theorem open_bad (key : ByteArray) (cell : Int) (s : ByteArray) (w : World) (h : key.size = 32) (hs : 109 ≤ s.size) (hz : s.size ≤ 900) (hb : s.extract 0 16 ≠ tagOf key cell s) (hT : Tab w) :
    Calls Tryz.prog 129 #[.string key, .int .i64 cell, .string s] w fun e w' => e = .returned (.tuple #[.string ⟨#[]⟩, .string ⟨#[]⟩, .iface 45 (.int .i64 15)]) ∧ Since w w' := by
  have e1 : (key.size : Int) = 32 := by omega
  have e2 : ¬ (s.size : Int) < 109 := by omega
  have e3 : (109 : Int) ≤ s.size := by omega
  have e4 : (16 : Int) ≤ s.size := by omega
  have z1 : (s.extract 16 109).size = 93 := by rw [ByteArray.size_extract]; omega
  have HB : Hid (s.extract 0 16 ≠ tagOf key cell s) := hb
  clear hb
  go_enter Tryz.func129, Tryz.ntmps129
  go_wp2_with fail
  have hm := mark_seal 103 key cell (s.extract 16 109) w (by omega) (by omega) hT
  rw [show ((103 : UInt8).toNat : Int) = 103 from rfl] at hm
  refine hm.mono ?_
  clear hm
  rintro e w1 ⟨rfl, h1⟩
  have hb2 : ¬ s.extract 0 16 = mk 103 key cell (s.extract 16 109) := HB.out
  have hb3 := neq_list hb2
  clear hb2
  generalize mk 103 key cell (s.extract 16 109) = T at *
  go_wp2_with fail
  go_ret3
  exact ⟨rfl, h1⟩
set_option maxHeartbeats 1000000 in
theorem open_ok (key : ByteArray) (cell : Int) (s : ByteArray) (w : World) (h : key.size = 32) (hs : 109 ≤ s.size) (hz : s.size ≤ 900) (hb : s.extract 0 16 = tagOf key cell s) (hT : Tab w) :
    Calls Tryz.prog 129 #[.string key, .int .i64 cell, .string s] w fun e w' => e = .returned (.tuple #[.string (s.extract 0 16), .string (textOf key s), .nilIface]) ∧ Since w w' := by
  have e1 : (key.size : Int) = 32 := by omega
  have e2 : ¬ (s.size : Int) < 109 := by omega
  have e3 : (109 : Int) ≤ s.size := by omega
  have e4 : (16 : Int) ≤ s.size := by omega
  have z1 : (s.extract 16 109).size = 93 := by rw [ByteArray.size_extract]; omega
  have z2 : (s.extract 16 28).size = 12 := by rw [ByteArray.size_extract]; omega
  have z3 : (s.extract 28 109).size = 81 := by rw [ByteArray.size_extract]; omega
  have HB : Hid (s.extract 0 16 = tagOf key cell s) := hb
  clear hb
  go_enter Tryz.func129, Tryz.ntmps129
  go_wp2_with fail
  have hm := mark_seal 103 key cell (s.extract 16 109) w (by omega) (by omega) hT
  rw [show ((103 : UInt8).toNat : Int) = 103 from rfl] at hm
  refine hm.mono ?_
  clear hm
  rintro e w1 ⟨rfl, h1⟩
  have hb2 : mk 103 key cell (s.extract 16 109) = s.extract 0 16 := HB.out.symm
  rw [hb2]
  clear hb2
  have x1 : (strOfNums (xorOf key (s.extract 16 28) (s.extract 28 109))).size = 81 := by rw [xor_size, z3]
  have hx := fun w => xor_any key (s.extract 16 28) (s.extract 28 109) w h z2 (by omega)
  have HX : Hid (cutB (strOfNums (xorOf key (s.extract 16 28) (s.extract 28 109))) = textOf key s) := by
    show cutB _ = textOf key s
    unfold textOf
    rfl
  generalize hB : strOfNums (xorOf key (s.extract 16 28) (s.extract 28 109)) = B at *
  clear hB
  generalize hq : textOf key s = q at *
  have HQ : Hid (textOf key s = q) := hq
  clear hq
  have HXc : Hid (∀ w, Calls Tryz.prog 91 #[.string key, .string (s.extract 16 28), .string (s.extract 28 109)] w fun e w' => e = .returned (.tuple #[.string B, .nilIface]) ∧ Since w w') := hx
  clear hx
  go_wp2_with fail
  go_region_with (go_at_call 91; refine (HXc.out _).mono ?_; rintro e w2 ⟨rfl, h2⟩; dsimp only)
  all_goals
    have HS2 : Hid (Since w w2) := h1.trans ((Since.refl _).drew.trans h2)
    clear h1 h2 HXc
    go_wp2_with fail
    refine (emptied_any B _ x1).mono ?_
    rintro e w3 ⟨rfl, rfl⟩
    have hX : B.extract 1 (1 + min (sb B 0).toNat 80) = q := HX.out
    rw [hX]
    clear hX HX
    go_wp2_with fail
    go_ret3
    exact ⟨by rw [HQ.out]; rfl, HS2.out⟩
end Sl
end Go.Proofs.YtifnhnfjelfddaaGreatDoor
end
section
namespace Go.Proofs.YtifnhnfjelfddaaGreatDoor
namespace Sm
namespace Sr
open Go.RowKit
theorem byteOf_nat (f : Nat → BitVec 32) (i : Nat) : ∃ y : Nat, y < 256 ∧ byteOf f i = (y : Int) := ⟨_, Nat.mod_lt _ (by decide), rfl⟩
def kb (key nonce : ByteArray) (i : Nat) : Nat := (byteOf (mixd (laidF key nonce (BitVec.ofNat 32 (1 + i / 64)))) (i % 64)).toNat
theorem kb_lt (key nonce : ByteArray) (i : Nat) : kb key nonce i < 256 := by
  unfold kb
  obtain ⟨y, h1, h2⟩ := byteOf_nat (mixd (laidF key nonce (BitVec.ofNat 32 (1 + i / 64)))) (i % 64)
  rw [h2]; simpa using h1
theorem xorAt_eq (key nonce s : ByteArray) (i : Nat) : xorAt key nonce s i = (((byteAt s i).toNat ^^^ kb key nonce i : Nat) : Int) := by
  have h3 := kb_lt key nonce i
  unfold kb at h3 ⊢
  unfold xorAt xorb
  obtain ⟨y, h1, h2⟩ := byteOf_nat (mixd (laidF key nonce (BitVec.ofNat 32 (1 + i / 64)))) (i % 64)
  rw [h2, u8_xor_nat _ _ (byteAt s i).toNat_lt h1]
  simp
theorem xor_size (key nonce s : ByteArray) : (strOfNums (xorOf key nonce s)).size = s.size := by rw [strOfNums_size]; simp [xorOf]
theorem xor_byte (key nonce s : ByteArray) (i : Nat) (hi : i < s.size) : (byteAt (strOfNums (xorOf key nonce s)) i).toNat = (byteAt s i).toNat ^^^ kb key nonce i := by
  have h : byteAt (strOfNums (xorOf key nonce s)) i = UInt8.ofNat ((byteAt s i).toNat ^^^ kb key nonce i) := by
    show (strOfNums (xorOf key nonce s)).data.toList.getD i 0 = _
    rw [strOfNums_data, List.getD_eq_getElem?_getD]
    simp [xorOf, hi, xorAt_eq]
  rw [h, UInt8.toNat_ofNat']
  exact Nat.mod_eq_of_lt (Nat.xor_lt_two_pow (n := 8) (byteAt s i).toNat_lt (kb_lt key nonce i))
theorem getElem_byteAt (s : ByteArray) (i : Nat) (hi : i < s.size) : s[i] = byteAt s i := by
  unfold byteAt
  rw [List.getD_eq_getElem?_getD, List.getElem?_eq_getElem (by simpa using hi)]
  rfl
theorem bytes_ext {a b : ByteArray} (hs : a.size = b.size) (h : ∀ i, i < a.size → (byteAt a i).toNat = (byteAt b i).toNat) : a = b := by
  apply ByteArray.ext
  apply Array.ext
  · exact hs
  · intro i h1 h2
    have h1' : i < a.size := h1
    have h2' : i < b.size := h2
    have e := UInt8.toNat_inj.1 (h i h1')
    rw [← getElem_byteAt a i h1', ← getElem_byteAt b i h2'] at e
    exact e
theorem xor_twice (key nonce s : ByteArray) : strOfNums (xorOf key nonce (strOfNums (xorOf key nonce s))) = s := by
  have e1 := xor_size key nonce s
  have e2 := xor_size key nonce (strOfNums (xorOf key nonce s))
  refine bytes_ext (by omega) (fun i hi => ?_)
  rw [xor_byte key nonce _ i (by omega), xor_byte key nonce s i (by omega), Nat.xor_assoc, Nat.xor_self, Nat.xor_zero]
end Sr
end Sm
namespace Sl
open Go.RowKit
open Sm.Sr (xorOf xor_twice)
theorem app_left (a b : ByteArray) (n : Nat) (h : a.size = n) : (a ++ b).extract 0 n = a := by
  have hsz : a.data.size = n := h
  apply ByteArray.ext
  rw [ByteArray.data_extract, ByteArray.data_append]
  apply Array.ext_getElem?
  intro i
  rw [Array.getElem?_extract]
  by_cases hi : i < n
  · rw [if_pos (by rw [Array.size_append]; omega), Nat.zero_add, Array.getElem?_append_left (by omega)]
  · rw [if_neg (by omega), Array.getElem?_eq_none (by omega)]
theorem app_right (a b : ByteArray) (n m k : Nat) (h : a.size = n) (hk : m ≤ k) : (a ++ b).extract (n + m) (n + k) = b.extract m k := by
  have hsz : a.data.size = n := h
  apply ByteArray.ext
  rw [ByteArray.data_extract, ByteArray.data_append, ByteArray.data_extract]
  apply Array.ext_getElem?
  intro i
  rw [Array.getElem?_extract, Array.getElem?_extract, Array.size_append]
  by_cases hi : i < min k b.data.size - m
  · rw [if_pos (by omega), if_pos hi, Array.getElem?_append_right (by omega), show n + m + i - a.data.size = m + i by omega]
  · rw [if_neg (by omega), if_neg hi]
theorem ext_all (b : ByteArray) (n : Nat) (h : b.size = n) : b.extract 0 n = b := by
  have hsz : b.data.size = n := h
  apply ByteArray.ext
  rw [ByteArray.data_extract, ← hsz, Array.extract_size]
theorem cut_fill (t : ByteArray) (h : t.size ≤ 80) : cutB (fill t) = t := by
  have h0 : sb (fill t) 0 = UInt8.ofNat t.size := sb_txt 81 _ 0 (by omega)
  have hn : (UInt8.ofNat t.size).toNat = t.size := by rw [UInt8.toNat_ofNat']; omega
  have hts : t.data.size = t.size := rfl
  unfold cutB
  rw [h0, hn, Nat.min_eq_left h]
  apply ByteArray.ext
  apply Array.ext_getElem?
  intro i
  have hfs : (fill t).data.size = 81 := fill_size t
  rw [ByteArray.data_extract, Array.getElem?_extract]
  by_cases hi : i < t.size
  · rw [if_pos (by omega)]
    have e1 : (fill t).data[1 + i]? = ((List.range 81).map (fillF t))[1 + i]? := by unfold fill txt; exact List.getElem?_toArray ..
    rw [e1, List.getElem?_map, List.getElem?_range (by omega)]
    simp only [Option.map_some, fillF]
    rw [if_neg (by omega), show 1 + i - 1 = i by omega]
    unfold sb
    rw [Array.getElem?_eq_getElem (by omega)]
    rfl
  · rw [if_neg (by omega), Array.getElem?_eq_none (by omega)]
theorem seal_tag (key : ByteArray) (cell : Int) (t : ByteArray) : (sealOf key cell t).extract 0 16 = mk 103 key cell (restOf key cell t) := by
  unfold sealOf
  exact app_left _ _ 16 (mk_size _ _ _ _)
theorem seal_rest (key : ByteArray) (cell : Int) (t : ByteArray) : (sealOf key cell t).extract 16 109 = restOf key cell t := by
  unfold sealOf
  have h := app_right (mk 103 key cell (restOf key cell t)) (restOf key cell t) 16 0 93 (mk_size _ _ _ _) (by omega)
  rw [ext_all _ 93 (rest_size key cell t)] at h
  exact h
theorem seal_nonce (key : ByteArray) (cell : Int) (t : ByteArray) : (sealOf key cell t).extract 16 28 = nonceOf key cell t := by
  unfold sealOf
  have h := app_right (mk 103 key cell (restOf key cell t)) (restOf key cell t) 16 0 12 (mk_size _ _ _ _) (by omega)
  have h2 : (restOf key cell t).extract 0 12 = nonceOf key cell t := by unfold restOf; exact app_left _ _ 12 (nonce_size key cell t)
  rw [h2] at h
  exact h
theorem seal_body (key : ByteArray) (cell : Int) (t : ByteArray) : (sealOf key cell t).extract 28 109 = bodyOf key cell t := by
  unfold sealOf
  have h := app_right (mk 103 key cell (restOf key cell t)) (restOf key cell t) 16 12 93 (mk_size _ _ _ _) (by omega)
  have h2 : (restOf key cell t).extract 12 93 = bodyOf key cell t := by
    unfold restOf
    have h3 := app_right (nonceOf key cell t) (bodyOf key cell t) 12 0 81 (nonce_size key cell t) (by omega)
    rw [ext_all _ 81 (body_size key cell t)] at h3
    exact h3
  rw [h2] at h
  exact h
theorem seal_back (key : ByteArray) (cell : Int) (t : ByteArray) (h : t.size ≤ 80) : (sealOf key cell t).extract 0 16 = tagOf key cell (sealOf key cell t) ∧ textOf key (sealOf key cell t) = t := by
  constructor
  · unfold tagOf
    rw [seal_tag, seal_rest]
  · unfold textOf
    rw [seal_nonce, seal_body]
    unfold bodyOf
    rw [xor_twice]
    exact cut_fill t h
end Sl
end Go.Proofs.YtifnhnfjelfddaaGreatDoor
end
