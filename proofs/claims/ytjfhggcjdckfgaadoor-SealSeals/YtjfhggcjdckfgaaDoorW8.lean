import Derived.Test.YtjfhggcjdckfgaaDoorW6
import Derived.Test.YtjfhggcjdckfgaaDoorW7
namespace Go.Proofs.YtjfhggcjdckfgaaDoor
set_option linter.unusedSimpArgs false
set_option linter.unusedVariables false
set_option maxRecDepth 100000
namespace Sm
open Go.RowKit
attribute [local go_sem] U_add U_mulc U_xor U_and U_or U_shr U_shl U_not U_conv U_byte U_cells U_match U_oneCell U_store U_store1

def H0 : St := ⟨1779033703, 3144134277, 1013904242, 2773480762, 1359893119, 2600822924, 528734635, 1541459225⟩
/-- whole blocks of a text -/
def headOf (s : ByteArray) : ByteArray := s.extract 0 (s.size - s.size % 64)
def tailOf (s : ByteArray) : ByteArray := s.extract (s.size - s.size % 64) s.size ++ strOfNums (pad s.size)
def sumHead (s : ByteArray) : St := mixTo H0 (headOf s) ((headOf s).size / 64)
def sumSt (s : ByteArray) : St := mixTo (sumHead s) (tailOf s) ((tailOf s).size / 64)

structure Arr8 (w : World) (b : Nat) (t : St) : Prop where
  arr : Arr w b 0 8 t.fn
  c0 : w.cell? ⟨b, 0, none⟩ = some (U t.a)
  c1 : w.cell? ⟨b, 1, none⟩ = some (U t.b)
  c2 : w.cell? ⟨b, 2, none⟩ = some (U t.c)
  c3 : w.cell? ⟨b, 3, none⟩ = some (U t.d)
  c4 : w.cell? ⟨b, 4, none⟩ = some (U t.e)
  c5 : w.cell? ⟨b, 5, none⟩ = some (U t.f)
  c6 : w.cell? ⟨b, 6, none⟩ = some (U t.g)
  c7 : w.cell? ⟨b, 7, none⟩ = some (U t.h)
  f0 : w.frozen? ⟨b, 0, none⟩ = false
  f1 : w.frozen? ⟨b, 1, none⟩ = false
  f2 : w.frozen? ⟨b, 2, none⟩ = false
  f3 : w.frozen? ⟨b, 3, none⟩ = false
  f4 : w.frozen? ⟨b, 4, none⟩ = false
  f5 : w.frozen? ⟨b, 5, none⟩ = false
  f6 : w.frozen? ⟨b, 6, none⟩ = false
  f7 : w.frozen? ⟨b, 7, none⟩ = false
theorem Arr8.of {w : World} {b : Nat} {t : St} (h : Arr w b 0 8 t.fn) : Arr8 w b t :=
  ⟨h, h.cell 0 (by omega), h.cell 1 (by omega), h.cell 2 (by omega), h.cell 3 (by omega), h.cell 4 (by omega), h.cell 5 (by omega), h.cell 6 (by omega), h.cell 7 (by omega),
    h.frozen 0 (by omega), h.frozen 1 (by omega), h.frozen 2 (by omega), h.frozen 3 (by omega), h.frozen 4 (by omega), h.frozen 5 (by omega), h.frozen 6 (by omega), h.frozen 7 (by omega)⟩
theorem Arr8.since {w w' : World} {b : Nat} {t : St} (h : Arr8 w b t) (hs : Since w w') : Arr8 w' b t := .of (h.arr.since hs)

set_option maxHeartbeats 2000000 in
set_option maxRecDepth 100000 in
theorem sum_any (s : ByteArray) (w : World) (hs : s.size ≤ 100000) (hT : Tab w) :
    Calls Tryd.prog 13 #[.string s] w fun e w' => e = .returned (.string (strOfNums (sumSt s).bytes)) ∧ Since w w' := by
  go_enter Tryd.func13, Tryd.ntmps13
  go_wp2_with fail
  have hA : Arr8 (w.alloc (.cells #[.int .u32 1779033703, .int .u32 3144134277, .int .u32 1013904242, .int .u32 2773480762, .int .u32 1359893119, .int .u32 2600822924, .int .u32 528734635, .int .u32 1541459225] 110)) w.heap.size H0 := .of (Arr.new w 8 H0.fn _ _ (by rfl) _ rfl)
  have hS : Since w (w.alloc (.cells #[.int .u32 1779033703, .int .u32 3144134277, .int .u32 1013904242, .int .u32 2773480762, .int .u32 1359893119, .int .u32 2600822924, .int .u32 528734635, .int .u32 1541459225] 110)) := (Since.refl w).alloc _
  generalize w.alloc _ = w1 at hA hS ⊢
  have hT1 := hT.since hS
  obtain ⟨hArr, c0, c1, c2, c3, c4, c5, c6, c7, _, _, _, _, _, _, _, _⟩ := hA
  obtain ⟨W, hW⟩ : ∃ W : Nat, (s.size : Int) - s.size % 64 = W := ⟨s.size - s.size % 64, by omega⟩
  have W1 : (0 : Int) ≤ W := by omega
  have W2 : (W : Int) ≤ s.size := by omega
  have W3 : W ≤ s.size := by omega
  have hWe : W = s.size - s.size % 64 := by omega
  rw [hW]
  have HW : Hid (W = s.size - s.size % 64) := hWe
  clear hW hWe
  have hh : s.extract 0 W = headOf s := by unfold headOf; rw [← HW.out]
  have Hh : Hid (s.extract 0 W = headOf s) := hh
  have hsz : (s.extract 0 W).size ≤ 1000000 := by simp [ByteArray.size_extract]; omega
  clear hh
  go_region_with (first | (go_at_call 78; refine (mixAll_any H0 (s.extract 0 W) _ hsz ?_).mono ?_; (exact hT1.since (Since.refl _).drew); rintro e w' ⟨rfl, hS'⟩; generalize hm : mixTo _ _ _ = q; have Hm : Hid (mixTo H0 (s.extract 0 W) ((s.extract 0 W).size / 64) = q) := hm; clear hm; simp only [St.val]; obtain ⟨hArr', d0, d1, d2, d3, d4, d5, d6, d7, _, _, _, _, _, _, _, _⟩ := (Arr8.of hArr).since ((Since.refl _).drew.trans hS')))
  all_goals
    generalize hw3 : World.setCell _ _ _ = w3
    have hA3 : Arr8 w3 w.heap.size q := .of (by rw [← hw3]; exact hArr'.set8 q)
    have hS3 : Since w w3 := by rw [← hw3]; exact (hS.trans ((Since.refl _).drew.trans hS')).set8 (by omega) q
    have hT3 := hT.since hS3
    clear hw3 d0 d1 d2 d3 d4 d5 d6 d7 c0 c1 c2 c3 c4 c5 c6 c7 hT1 hS hArr hArr' hS'
    obtain ⟨hArr, c0, c1, c2, c3, c4, c5, c6, c7, _, _, _, _, _, _, _, _⟩ := hA3
  have hcat : s.size - W + (strOfNums (pad s.size)).size ≤ 9223372036854775807 := by rw [strOfNums_size, pad_length]; omega
  have hsz2 : (s.extract W s.size ++ strOfNums (pad s.size)).size ≤ 1000000 := by
    rw [ByteArray.size_append, strOfNums_size, pad_length]; simp [ByteArray.size_extract]; omega
  go_wp2_with fail
  go_region_with (first | (go_at_call 79; refine (ending_any s.size _ (by omega)).mono ?_; rintro e w4 ⟨rfl, h4⟩; obtain ⟨hArr4, e0, e1, e2, e3, e4, e5, e6, e7, _, _, _, _, _, _, _, _⟩ := (Arr8.of hArr).since ((Since.refl _).drew.trans h4)) | (go_at_call 78; refine (mixAll_any q (s.extract W s.size ++ strOfNums (pad s.size)) _ hsz2 ?_).mono ?_; (exact hT3.since ((Since.refl _).drew.trans h4)); rintro e w5 ⟨rfl, h5⟩; generalize hm2 : mixTo _ _ _ = q2; have Hm2 : Hid (mixTo q (s.extract W s.size ++ strOfNums (pad s.size)) ((s.extract W s.size ++ strOfNums (pad s.size)).size / 64) = q2) := hm2; clear hm2; simp only [St.val]; obtain ⟨hArr5, d0, d1, d2, d3, d4, d5, d6, d7, _, _, _, _, _, _, _, _⟩ := (Arr8.of hArr4).since h5))
  all_goals
    generalize hw3 : World.setCell _ _ _ = w6
    have hA6 : Arr8 w6 w.heap.size q2 := .of (by rw [← hw3]; exact hArr5.set8 q2)
    have hS6 : Since w w6 := by rw [← hw3]; exact ((hS3.trans ((Since.refl _).drew.trans h4)).trans h5).set8 (by omega) q2
    clear hw3 d0 d1 d2 d3 d4 d5 d6 d7 c0 c1 c2 c3 c4 c5 c6 c7 hT3 hArr hArr4 hArr5
    obtain ⟨hArr, c0, c1, c2, c3, c4, c5, c6, c7, _, _, _, _, _, _, _, _⟩ := hA6
    go_wp2_with fail
    refine (join_any q2 _).mono ?_
    rintro e w7 ⟨rfl, h7⟩
    go_wp2_with fail
    go_ret
    refine ⟨?_, hS6.trans h7⟩
    have e1 : q2 = sumSt s := by
      rw [← Hm2.out, ← Hm.out, Hh.out]
      unfold sumSt sumHead tailOf
      rw [← HW.out]
    rw [e1]; rfl
end Sm
end Go.Proofs.YtjfhggcjdckfgaaDoor
