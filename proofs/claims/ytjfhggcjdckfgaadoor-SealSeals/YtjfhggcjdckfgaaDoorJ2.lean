/- Package seal: Seal and Open. -/
import Derived.Test.YtjfhggcjdckfgaaDoorJ1
import Derived.Test.YtjfhggcjdckfgaaDoorC7
import Derived.OwnWalk
namespace Go.Proofs.YtjfhggcjdckfgaaDoor
set_option linter.unusedSimpArgs false
set_option linter.unusedVariables false
set_option maxRecDepth 100000
namespace Sl
open Go.RowKit
open Sm (Tab)
open Sm.Sr (xor_any xorOf)

/-- a block's nonce, body and all behind the tag; the block -/
def nonceOf (key : ByteArray) (cell : Int) (t : ByteArray) : ByteArray := (mk 110 key cell t).extract 0 12
def bodyOf (key : ByteArray) (cell : Int) (t : ByteArray) : ByteArray := strOfNums (xorOf key (nonceOf key cell t) (fill t))
def restOf (key : ByteArray) (cell : Int) (t : ByteArray) : ByteArray := nonceOf key cell t ++ bodyOf key cell t
def sealOf (key : ByteArray) (cell : Int) (t : ByteArray) : ByteArray := mk 103 key cell (restOf key cell t) ++ restOf key cell t
theorem nonce_size (key : ByteArray) (cell : Int) (t : ByteArray) : (nonceOf key cell t).size = 12 := by
  unfold nonceOf
  rw [ByteArray.size_extract, mk_size]
  rfl
theorem xor_size (key nonce s : ByteArray) : (strOfNums (xorOf key nonce s)).size = s.size := by
  rw [strOfNums_size]
  simp [xorOf]
theorem body_size (key : ByteArray) (cell : Int) (t : ByteArray) : (bodyOf key cell t).size = 81 := by
  unfold bodyOf
  rw [xor_size, fill_size]
theorem rest_size (key : ByteArray) (cell : Int) (t : ByteArray) : (restOf key cell t).size = 93 := by
  unfold restOf
  rw [ByteArray.size_append, nonce_size, body_size]
theorem seal_size (key : ByteArray) (cell : Int) (t : ByteArray) : (sealOf key cell t).size = 109 := by
  unfold sealOf
  rw [ByteArray.size_append, mk_size, rest_size]

theorem seal_arg (key : ByteArray) (cell : Int) (t : ByteArray) (w : World) (h : key.size ≠ 32 ∨ cell < 0 ∨ 24 ≤ cell) :
    Calls Tryd.prog 66 #[.string key, .int .i64 cell, .string t] w fun e w' => e = .returned (.tuple #[.string ⟨#[]⟩, .iface 30 (.int .i64 1)]) ∧ w' = w := by
  by_cases h1 : key.size = 32
  · have e1 : (key.size : Int) = 32 := by omega
    by_cases h2 : cell < 0
    · go_enter Tryd.func66, Tryd.ntmps66
      go_wp2_with fail
      go_ret2
      exact ⟨rfl, rfl⟩
    · have h3 : 24 ≤ cell := by omega
      go_enter Tryd.func66, Tryd.ntmps66
      go_wp2_with fail
      go_ret2
      exact ⟨rfl, rfl⟩
  · have e1 : ¬ (key.size : Int) = 32 := by omega
    go_enter Tryd.func66, Tryd.ntmps66
    go_wp2_with fail
    go_ret2
    exact ⟨rfl, rfl⟩
theorem seal_limit (key : ByteArray) (cell : Int) (t : ByteArray) (w : World) (h : key.size = 32) (h0 : 0 ≤ cell) (h1 : cell < 24) (ht : 80 < t.size) :
    Calls Tryd.prog 66 #[.string key, .int .i64 cell, .string t] w fun e w' => e = .returned (.tuple #[.string ⟨#[]⟩, .iface 30 (.int .i64 4)]) ∧ w' = w := by
  have e1 : (key.size : Int) = 32 := by omega
  have e2 : ¬ cell < 0 := by omega
  have e3 : ¬ 24 ≤ cell := by omega
  have e4 : (80 : Int) < t.size := by omega
  go_enter Tryd.func66, Tryd.ntmps66
  go_wp2_with fail
  go_ret2
  exact ⟨rfl, rfl⟩
set_option maxHeartbeats 1000000 in
theorem seal_ok (key : ByteArray) (cell : Int) (t : ByteArray) (w : World) (h : key.size = 32) (h0 : 0 ≤ cell) (h1 : cell < 24) (ht : t.size ≤ 80) (hT : Tab w) :
    Calls Tryd.prog 66 #[.string key, .int .i64 cell, .string t] w fun e w' => e = .returned (.tuple #[.string (sealOf key cell t), .nilIface]) ∧ Since w w' := by
  have e1 : (key.size : Int) = 32 := by omega
  have e2 : ¬ cell < 0 := by omega
  have e3 : ¬ 24 ≤ cell := by omega
  have e4 : ¬ (80 : Int) < t.size := by omega
  go_enter Tryd.func66, Tryd.ntmps66
  go_wp2_with fail
  have hm := mark_seal 110 key cell t w (by omega) (by omega) hT
  rw [show ((110 : UInt8).toNat : Int) = 110 from rfl] at hm
  refine hm.mono ?_
  clear hm
  rintro e w1 ⟨rfl, h1⟩
  have m1 := mk_size 110 key cell t
  have HN : Hid ((mk 110 key cell t).extract 0 12 = nonceOf key cell t) := show _ = nonceOf key cell t from rfl
  have n1 := nonce_size key cell t
  generalize hmk : mk 110 key cell t = M at *
  clear hmk
  go_wp2_with fail
  rw [HN.out]
  generalize hn : nonceOf key cell t = nn at *
  have HNN : Hid (nonceOf key cell t = nn) := hn
  clear hn HN
  refine (filled_any t _ ht).mono ?_
  rintro e w2 ⟨rfl, h2⟩
  have f1 := fill_size t
  generalize hf : fill t = F at *
  have HF : Hid (fill t = F) := hf
  clear hf
  go_wp2_with fail
  refine (xor_any key nn F _ h n1 (by omega)).mono ?_
  rintro e w3 ⟨rfl, h3⟩
  have x1 : (strOfNums (xorOf key nn F)).size = 81 := by rw [xor_size, f1]
  generalize hB : strOfNums (xorOf key nn F) = B at *
  have HB : Hid (strOfNums (xorOf key nn F) = B) := hB
  clear hB
  go_wp2_with fail
  have HS3 : Hid (Since w w3) := h1.trans (h2.trans h3)
  clear h1 h2 h3
  have r1 : (nn ++ B).size = 93 := by rw [ByteArray.size_append]; omega
  generalize hR : nn ++ B = R at *
  have HR : Hid (nn ++ B = R) := hR
  clear hR
  have hm := mark_seal 103 key cell R w3 (by omega) (by omega) (hT.since HS3.out)
  rw [show ((103 : UInt8).toNat : Int) = 103 from rfl] at hm
  refine hm.mono ?_
  clear hm
  rintro e w4 ⟨rfl, h4⟩
  have m2 := mk_size 103 key cell R
  generalize hT2 : mk 103 key cell R = T at *
  have HT2 : Hid (mk 103 key cell R = T) := hT2
  clear hT2
  go_wp2_with fail
  go_ret2
  refine ⟨?_, HS3.out.trans h4⟩
  unfold sealOf restOf bodyOf
  rw [HNN.out, HF.out, HB.out, HR.out, HT2.out]
  rfl

theorem neq_list {a b : ByteArray} (h : ¬ a = b) : (a.toList == b.toList) = false := by
  rw [ByteArray.toList_eq, ByteArray.toList_eq]
  rw [beq_eq_false_iff_ne]
  exact fun e => h (ByteArray.ext (Array.toList_inj.1 e))
/-- a block's tag, and its text -/
def tagOf (key : ByteArray) (cell : Int) (s : ByteArray) : ByteArray := mk 103 key cell (s.extract 16 109)
def cutB (b : ByteArray) : ByteArray := b.extract 1 (1 + min (sb b 0).toNat 80)
def textOf (key s : ByteArray) : ByteArray := cutB (strOfNums (xorOf key (s.extract 16 28) (s.extract 28 109)))
theorem open_arg (key : ByteArray) (cell : Int) (s : ByteArray) (w : World) (h : key.size ≠ 32) :
    Calls Tryd.prog 68 #[.string key, .int .i64 cell, .string s] w fun e w' => e = .returned (.tuple #[.string ⟨#[]⟩, .string ⟨#[]⟩, .iface 30 (.int .i64 1)]) ∧ w' = w := by
  have e1 : ¬ (key.size : Int) = 32 := by omega
  go_enter Tryd.func68, Tryd.ntmps68
  go_wp2_with fail
  go_ret3
  exact ⟨rfl, rfl⟩
theorem open_short (key : ByteArray) (cell : Int) (s : ByteArray) (w : World) (h : key.size = 32) (hs : s.size < 109) :
    Calls Tryd.prog 68 #[.string key, .int .i64 cell, .string s] w fun e w' => e = .returned (.tuple #[.string ⟨#[]⟩, .string ⟨#[]⟩, .iface 30 (.int .i64 15)]) ∧ w' = w := by
  have e1 : (key.size : Int) = 32 := by omega
  have e2 : (s.size : Int) < 109 := by omega
  go_enter Tryd.func68, Tryd.ntmps68
  go_wp2_with fail
  go_ret3
  exact ⟨rfl, rfl⟩
set_option maxHeartbeats 1000000 in
theorem open_bad (key : ByteArray) (cell : Int) (s : ByteArray) (w : World) (h : key.size = 32) (hs : 109 ≤ s.size) (hz : s.size ≤ 900) (hb : s.extract 0 16 ≠ tagOf key cell s) (hT : Tab w) :
    Calls Tryd.prog 68 #[.string key, .int .i64 cell, .string s] w fun e w' => e = .returned (.tuple #[.string ⟨#[]⟩, .string ⟨#[]⟩, .iface 30 (.int .i64 15)]) ∧ Since w w' := by
  have e1 : (key.size : Int) = 32 := by omega
  have e2 : ¬ (s.size : Int) < 109 := by omega
  have e3 : (109 : Int) ≤ s.size := by omega
  have e4 : (16 : Int) ≤ s.size := by omega
  have z1 : (s.extract 16 109).size = 93 := by rw [ByteArray.size_extract]; omega
  have HB : Hid (s.extract 0 16 ≠ tagOf key cell s) := hb
  clear hb
  go_enter Tryd.func68, Tryd.ntmps68
  go_wp2_with fail
  have hm := mark_seal 103 key cell (s.extract 16 109) w (by omega) (by omega) hT
  rw [show ((103 : UInt8).toNat : Int) = 103 from rfl] at hm
  refine hm.mono ?_
  clear hm
  rintro e w1 ⟨rfl, h1⟩
  have hb2 : ¬ s.extract 0 16 = mk 103 key cell (s.extract 16 109) := HB.out
  have hb3 := neq_list hb2
  clear hb2
  generalize mk 103 key cell (s.extract 16 109) = T at *
  go_wp2_with fail
  go_ret3
  exact ⟨rfl, h1⟩
set_option maxHeartbeats 1000000 in
theorem open_ok (key : ByteArray) (cell : Int) (s : ByteArray) (w : World) (h : key.size = 32) (hs : 109 ≤ s.size) (hz : s.size ≤ 900) (hb : s.extract 0 16 = tagOf key cell s) (hT : Tab w) :
    Calls Tryd.prog 68 #[.string key, .int .i64 cell, .string s] w fun e w' => e = .returned (.tuple #[.string (s.extract 0 16), .string (textOf key s), .nilIface]) ∧ Since w w' := by
  have e1 : (key.size : Int) = 32 := by omega
  have e2 : ¬ (s.size : Int) < 109 := by omega
  have e3 : (109 : Int) ≤ s.size := by omega
  have e4 : (16 : Int) ≤ s.size := by omega
  have z1 : (s.extract 16 109).size = 93 := by rw [ByteArray.size_extract]; omega
  have z2 : (s.extract 16 28).size = 12 := by rw [ByteArray.size_extract]; omega
  have z3 : (s.extract 28 109).size = 81 := by rw [ByteArray.size_extract]; omega
  have HB : Hid (s.extract 0 16 = tagOf key cell s) := hb
  clear hb
  go_enter Tryd.func68, Tryd.ntmps68
  go_wp2_with fail
  have hm := mark_seal 103 key cell (s.extract 16 109) w (by omega) (by omega) hT
  rw [show ((103 : UInt8).toNat : Int) = 103 from rfl] at hm
  refine hm.mono ?_
  clear hm
  rintro e w1 ⟨rfl, h1⟩
  have hb2 : mk 103 key cell (s.extract 16 109) = s.extract 0 16 := HB.out.symm
  rw [hb2]
  clear hb2
  have x1 : (strOfNums (xorOf key (s.extract 16 28) (s.extract 28 109))).size = 81 := by rw [xor_size, z3]
  have hx := fun w => xor_any key (s.extract 16 28) (s.extract 28 109) w h z2 (by omega)
  have HX : Hid (cutB (strOfNums (xorOf key (s.extract 16 28) (s.extract 28 109))) = textOf key s) := by
    show cutB _ = textOf key s
    unfold textOf
    rfl
  generalize hB : strOfNums (xorOf key (s.extract 16 28) (s.extract 28 109)) = B at *
  clear hB
  generalize hq : textOf key s = q at *
  have HQ : Hid (textOf key s = q) := hq
  clear hq
  have HXc : Hid (∀ w, Calls Tryd.prog 25 #[.string key, .string (s.extract 16 28), .string (s.extract 28 109)] w fun e w' => e = .returned (.tuple #[.string B, .nilIface]) ∧ Since w w') := hx
  clear hx
  go_wp2_with fail
  go_region_with (go_at_call 25; refine (HXc.out _).mono ?_; rintro e w2 ⟨rfl, h2⟩; dsimp only)
  all_goals
    have HS2 : Hid (Since w w2) := h1.trans ((Since.refl _).drew.trans h2)
    clear h1 h2 HXc
    go_wp2_with fail
    refine (emptied_any B _ x1).mono ?_
    rintro e w3 ⟨rfl, rfl⟩
    have hX : B.extract 1 (1 + min (sb B 0).toNat 80) = q := HX.out
    rw [hX]
    clear hX HX
    go_wp2_with fail
    go_ret3
    exact ⟨by rw [HQ.out]; rfl, HS2.out⟩
end Sl
end Go.Proofs.YtjfhggcjdckfgaaDoor
