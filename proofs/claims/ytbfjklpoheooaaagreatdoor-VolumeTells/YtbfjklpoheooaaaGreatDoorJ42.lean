import Derived.Lib.ConvBytes
import Derived.Test.YtbfjklpoheooaaaGreatDoorJ41
set_option linter.unusedSimpArgs false
set_option linter.unusedVariables false
namespace Go.Proofs.YtbfjklpoheooaaaGreatDoor
set_option maxRecDepth 100000
namespace Sm.Sr
open Go.RowKit
attribute [local go_sem ↓] son_append
theorem cel_conv (w : World) (s : ByteArray) : Cel (Lib.bytesWorld w 5 s) w.heap.size s.size (fun j => .int .u8 ((byteAt s j).toNat : Int)) where
  cell j hj := Lib.bytesWorld_cell w 5 s j hj
  frozen j hj := by
    have hge := grownCap_ge w s.size 0 5
    have hsz : (Lib.bytesCells w 5 s).size = grownCap w s.size 0 5 := by
      have : s.data.size = s.size := rfl
      simp [Lib.bytesCells]; omega
    simp only [World.frozen?, Lib.bytesWorld_at_new]
    simp; omega
theorem since_conv (w : World) (s : ByteArray) : Since w (Lib.bytesWorld w 5 s) :=
  ⟨rfl, rfl, rfl, by rw [Lib.bytesWorld_size]; omega, fun k hk => Lib.bytesWorld_at_old w 5 s k hk⟩
theorem run_conv (w : World) (s : ByteArray) : (convert 9 122 (.string s)).run Tryz.prog w = .ok (.slice (some ⟨w.heap.size, 0, none⟩) s.size (grownCap w s.size 0 5)) (Lib.bytesWorld w 5 s) :=
  Lib.run_convert_string_bytes w 9 122 5 s Tryz.underlying9 Tryz.underlying122 Tryz.underlying5
def blkAt (key nonce : ByteArray) (i : Nat) : Int := byteOf (mixd (laidF key nonce (BitVec.ofNat 32 (1 + i / 64)))) (i % 64)
def allTo (key nonce : ByteArray) (t : Nat) : List Int := (List.range (64 * t)).map (blkAt key nonce)
theorem all_length (key nonce : ByteArray) (t : Nat) : (allTo key nonce t).length = 64 * t := by simp [allTo]
theorem all_step (key nonce : ByteArray) (t : Nat) : allTo key nonce (t + 1) = allTo key nonce t ++ blockOf key (BitVec.ofInt 32 (1 + (t : Int))) nonce := by
  have e : BitVec.ofInt 32 (1 + (t : Int)) = BitVec.ofNat 32 (1 + t) := by
    rw [show (1 + (t : Int)) = ((1 + t : Nat) : Int) by omega, BitVec.ofInt_natCast]
  unfold allTo blockOf bytesOf
  rw [e, show 64 * (t + 1) = 64 * t + 64 by omega, List.range_add, List.map_append, List.map_map]
  have h2 : (List.range 64).map (blkAt key nonce ∘ fun x => 64 * t + x) = (List.range 64).map (byteOf (mixd (laidF key nonce (BitVec.ofNat 32 (1 + t))))) := by
    refine List.map_congr_left (fun i hi => ?_)
    have hi' : i < 64 := List.mem_range.1 hi
    show blkAt key nonce (64 * t + i) = _
    unfold blkAt
    rw [show (64 * t + i) / 64 = t by omega, show (64 * t + i) % 64 = i by omega]
  rw [h2]
theorem all_at (key nonce : ByteArray) (t i : Nat) (hi : i < 64 * t) (h : i < (strOfNums (allTo key nonce t)).size) : ((strOfNums (allTo key nonce t))[i].toNat : Int) = blkAt key nonce i := by
  have e : (strOfNums (allTo key nonce t))[i] = UInt8.ofNat (blkAt key nonce i).toNat := by
    show (strOfNums (allTo key nonce t)).data[i] = _
    simp [strOfNums, allTo]
  rw [e, UInt8.toNat_ofNat']
  have hb : ∃ y : Nat, y < 256 ∧ blkAt key nonce i = (y : Int) := ⟨_, Nat.mod_lt _ (by decide), rfl⟩
  obtain ⟨y, h1, h2⟩ := hb
  rw [h2]
  simp
  omega
def mxTo (key nonce s : ByteArray) (m : Nat) : Nat → Value := fun j => .int .u8 (if j < m then xorAt key nonce s j else ((byteAt s j).toNat : Int))
theorem mxTo_step (key nonce s : ByteArray) (m j : Nat) : updv (mxTo key nonce s m) m (.int .u8 (xorAt key nonce s m)) j = mxTo key nonce s (m + 1) j := by
  unfold updv mxTo
  by_cases e : j = m
  · subst e; rw [if_pos rfl, if_pos (by omega)]
  · rw [if_neg e]
    by_cases h : j < m
    · rw [if_pos h, if_pos (by omega)]
    · rw [if_neg h, if_neg (by omega)]
set_option maxHeartbeats 1000000 in
set_option maxRecDepth 100000 in
theorem refXor_any (key nonce s : ByteArray) (w : World) (hk : key.size = 32) (hn : nonce.size = 12) (hz : s.size ≤ 1000) :
    Calls Tryz.prog 120 #[.string key, .string nonce, .string s] w fun e w' => e = .returned (.tuple #[.string (strOfNums (xorOf key nonce s)), .int .i64 0]) ∧ Since w w' := by
  go_enter Tryz.func120, Tryz.ntmps120
  go_wp2_with fail
  go_loopw [9, 8] (fun i a wr => ∃ t : Nat, t ≤ s.size / 64 + 1 ∧ i = .int .i64 (1 + t) ∧ a = .string (strOfNums (allTo key nonce t)) ∧ Since w wr) (fun i _ _ => s.size + 10 - (intOf i).toNat)
  case atStart => exact ⟨0, by omega, rfl, rfl, Since.refl w⟩
  case round =>
    obtain ⟨t, ht, rfl, rfl, hS⟩ := hrel
    have hla : (strOfNums (allTo key nonce t)).size = 64 * t := by rw [strOfNums_size, all_length]
    by_cases hgo : 64 * t < s.size ∨ t = 0
    · have HO := (show Hid _ from all_step key nonce t)
      have hlb : (strOfNums (blockOf key (BitVec.ofInt 32 (1 + (t : Int))) nonce)).size = 64 := by rw [strOfNums_size, blockOf_length]
      have q1 : IntKind.i64.wrap (1 + (t : Int) + 1) = 1 + t + 1 := by simp [IntKind.wrap, IntKind.bits, IntKind.signed]; omega
      by_cases hlt : 64 * t < s.size
      · have z1 : (64 * (t : Int)) < s.size := by omega
        generalize allTo key nonce t = l at *
        go_wp2_with fail
        refine (refBlock_any key nonce _ _ hk hn (by omega) (by omega)).mono ?_
        rintro e w1 ⟨rfl, h1⟩
        generalize blockOf key (BitVec.ofInt 32 (1 + (t : Int))) nonce = B at *
        go_wp2_with fail
        refine ⟨⟨t + 1, by omega, by congr 1 <;> omega, by rw [HO.out], hS.trans h1⟩, by simp [intOf]; omega⟩
      · have ht0 : t = 0 := by omega
        subst ht0
        have hs0 : s.size = 0 := by omega
        have hl0 : (strOfNums (allTo key nonce 0)).size = 0 := hla
        have e01 : (1 + ((0 : Nat) : Int)) = 1 := rfl
        rw [e01] at hlb
        have HO2 := (show Hid (allTo key nonce 1 = allTo key nonce 0 ++ blockOf key (BitVec.ofInt 32 1) nonce) from all_step key nonce 0)
        clear HO e01
        generalize allTo key nonce 0 = l at *
        go_wp2_with fail
        refine (refBlock_any key nonce _ _ hk hn (by omega) (by omega)).mono ?_
        rintro e w1 ⟨rfl, h1⟩
        generalize blockOf key (BitVec.ofInt 32 1) nonce = B at *
        go_wp2_with fail
        refine ⟨⟨1, by omega, by rfl, by rw [HO2.out], hS.trans h1⟩, by simp [intOf]⟩
    · have hlt : ¬ 64 * t < s.size := fun h => hgo (Or.inl h)
      have ht1 : ¬ t = 0 := fun h => hgo (Or.inr h)
      have z1 : ¬ (64 * (t : Int)) < s.size := by omega
      have z2 : ¬ (1 + (t : Int)) = 1 := by omega
      have z3 : ((1 + (t : Int)) == 1) = false := by simp; omega
      have HAt := (show Hid (∀ i, i < 64 * t → ∀ h : i < (strOfNums (allTo key nonce t)).size, ((strOfNums (allTo key nonce t))[i].toNat : Int) = blkAt key nonce i) from fun i hi h => all_at key nonce t i hi h)
      generalize strOfNums (allTo key nonce t) = A at *
      have hcv := run_conv wr s
      go_wp2_with fail
      clear hcv
      generalize hcap : grownCap wr s.size 0 5 = cap at *
      have hC0 : Cel (Lib.bytesWorld wr 5 s) wr.heap.size s.size (mxTo key nonce s 0) := (cel_conv wr s).congr (fun j _ => by unfold mxTo; rw [if_neg (by omega)])
      have hS0 : Since w (Lib.bytesWorld wr 5 s) := hS.trans (since_conv wr s)
      have hwB := hS.size
      generalize wr.heap.size = b at *
      go_loopw [42] (fun i wr => ∃ m : Nat, m ≤ s.size ∧ i = .int .i64 m ∧ Cel wr b s.size (mxTo key nonce s m) ∧ Since w wr) (fun i _ => s.size - (intOf i).toNat)
      case atStart => exact ⟨0, by omega, rfl, hC0, hS0⟩
      case round =>
        clear hC0 hS0
        obtain ⟨m, hm, rfl, hC, hSr⟩ := hrel
        by_cases hml : m < s.size
        · have c1 := hC.cell m hml
          have f1 := hC.frozen m hml
          have e1 : mxTo key nonce s m m = .int .u8 ((byteAt s m).toNat : Int) := by unfold mxTo; rw [if_neg (by omega)]
          rw [e1] at c1
          clear e1
          have y1 : (m : Int) < s.size := by omega
          have y2 : (m : Int) < A.size := by omega
          have y3 : m < A.size := by omega
          have y4 : (m : Int) < 64 * t := by omega
          have HX := (show Hid (xorAt key nonce s m = bits BinOp.xor IntKind.u8 ((byteAt s m).toNat : Int) (A[m].toNat : Int)) from by
            show xorAt key nonce s m = _
            rw [HAt.out m (by omega) y3]; rfl)
          have HC := (show Hid (Cel wr b s.size (mxTo key nonce s m)) from hC)
          have HS := (show Hid (Since w wr) from hSr)
          clear hC hSr
          go_wp2_with fail
          go_region
          all_goals
            have h3 := (HC.out.set m hml (.int .u8 (xorAt key nonce s m))).congr (fun j _ => mxTo_step key nonce s m j)
            rw [HX.out] at h3
            clear c1 f1
            go_wp2_with fail
            go_roundw
            case rel => first | exact ⟨m + 1, by omega, by go_num, h3.since (Since.refl _).drew, (HS.out.setCell hwB _).drew⟩ | ((repeat apply Exists.intro); exact ⟨⟨m + 1, by omega, by go_num, h3.since (Since.refl _).drew, (HS.out.setCell hwB _).drew⟩, rfl⟩)
            case measure => simp [intOf]; omega
        · have hme : m = s.size := by omega
          subst hme
          have hcv := conv_cells wr (xorOf key nonce s) b s.size cap (by simp [xorOf]) (fun i hi => by
            have hi' : i < s.size := by simpa [xorOf] using hi
            rw [hC.cell i hi']; simp [mxTo, xorOf, hi'])
          go_wp2_with fail
          go_ret2
          exact ⟨rfl, hSr⟩
end Sm.Sr
end Go.Proofs.YtbfjklpoheooaaaGreatDoor
