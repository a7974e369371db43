import Derived.Test.YtifnhnfjelfddaaGreatDoorJ15
import Derived.Test.YtifnhnfjelfddaaGreatDoorJ16
import Derived.Test.YtifnhnfjelfddaaGreatDoorJ19
set_option linter.unusedSimpArgs false
set_option linter.unusedVariables false
section
namespace Go.Proofs.YtifnhnfjelfddaaGreatDoor
set_option maxRecDepth 100000
namespace Sm
open Go.RowKit
attribute [local go_sem] U_add U_mulc U_xor U_and U_or U_shr U_shl U_not U_conv U_byte U_cells U_match U_oneCell U_store U_store1
def H0 : St := ⟨1779033703, 3144134277, 1013904242, 2773480762, 1359893119, 2600822924, 528734635, 1541459225⟩
def headOf (s : ByteArray) : ByteArray := s.extract 0 (s.size - s.size % 64)
def tailOf (s : ByteArray) : ByteArray := s.extract (s.size - s.size % 64) s.size ++ strOfNums (pad s.size)
def sumHead (s : ByteArray) : St := mixTo H0 (headOf s) ((headOf s).size / 64)
def sumSt (s : ByteArray) : St := mixTo (sumHead s) (tailOf s) ((tailOf s).size / 64)
structure Arr8 (w : World) (b : Nat) (t : St) : Prop where
  arr : Arr w b 0 8 t.fn
  c0 : w.cell? ⟨b, 0, none⟩ = some (U t.a)
  c1 : w.cell? ⟨b, 1, none⟩ = some (U t.b)
  c2 : w.cell? ⟨b, 2, none⟩ = some (U t.c)
  c3 : w.cell? ⟨b, 3, none⟩ = some (U t.d)
  c4 : w.cell? ⟨b, 4, none⟩ = some (U t.e)
  c5 : w.cell? ⟨b, 5, none⟩ = some (U t.f)
  c6 : w.cell? ⟨b, 6, none⟩ = some (U t.g)
  c7 : w.cell? ⟨b, 7, none⟩ = some (U t.h)
  f0 : w.frozen? ⟨b, 0, none⟩ = false
  f1 : w.frozen? ⟨b, 1, none⟩ = false
  f2 : w.frozen? ⟨b, 2, none⟩ = false
  f3 : w.frozen? ⟨b, 3, none⟩ = false
  f4 : w.frozen? ⟨b, 4, none⟩ = false
  f5 : w.frozen? ⟨b, 5, none⟩ = false
  f6 : w.frozen? ⟨b, 6, none⟩ = false
  f7 : w.frozen? ⟨b, 7, none⟩ = false
theorem Arr8.of {w : World} {b : Nat} {t : St} (h : Arr w b 0 8 t.fn) : Arr8 w b t :=
  ⟨h, h.cell 0 (by omega), h.cell 1 (by omega), h.cell 2 (by omega), h.cell 3 (by omega), h.cell 4 (by omega), h.cell 5 (by omega), h.cell 6 (by omega), h.cell 7 (by omega),
    h.frozen 0 (by omega), h.frozen 1 (by omega), h.frozen 2 (by omega), h.frozen 3 (by omega), h.frozen 4 (by omega), h.frozen 5 (by omega), h.frozen 6 (by omega), h.frozen 7 (by omega)⟩
theorem Arr8.since {w w' : World} {b : Nat} {t : St} (h : Arr8 w b t) (hs : Since w w') : Arr8 w' b t := .of (h.arr.since hs)
set_option maxHeartbeats 2000000 in
set_option maxRecDepth 100000 in
theorem sum_any (s : ByteArray) (w : World) (hs : s.size ≤ 100000) (hT : Tab w) :
    Calls Tryz.prog 106 #[.string s] w fun e w' => e = .returned (.string (strOfNums (sumSt s).bytes)) ∧ Since w w' := by
  go_enter Tryz.func106, Tryz.ntmps106
  go_wp2_with fail
  have hA : Arr8 (w.alloc (.cells #[.int .u32 1779033703, .int .u32 3144134277, .int .u32 1013904242, .int .u32 2773480762, .int .u32 1359893119, .int .u32 2600822924, .int .u32 528734635, .int .u32 1541459225] 212)) w.heap.size H0 := .of (Arr.new w 8 H0.fn _ _ (by rfl) _ rfl)
  have hS : Since w (w.alloc (.cells #[.int .u32 1779033703, .int .u32 3144134277, .int .u32 1013904242, .int .u32 2773480762, .int .u32 1359893119, .int .u32 2600822924, .int .u32 528734635, .int .u32 1541459225] 212)) := (Since.refl w).alloc _
  generalize w.alloc _ = w1 at hA hS ⊢
  have hT1 := hT.since hS
  obtain ⟨hArr, c0, c1, c2, c3, c4, c5, c6, c7, _, _, _, _, _, _, _, _⟩ := hA
  obtain ⟨W, hW⟩ : ∃ W : Nat, (s.size : Int) - s.size % 64 = W := ⟨s.size - s.size % 64, by omega⟩
  have W1 : (0 : Int) ≤ W := by omega
  have W2 : (W : Int) ≤ s.size := by omega
  have W3 : W ≤ s.size := by omega
  have hWe : W = s.size - s.size % 64 := by omega
  rw [hW]
  have HW : Hid (W = s.size - s.size % 64) := hWe
  clear hW hWe
  have hh : s.extract 0 W = headOf s := by unfold headOf; rw [← HW.out]
  have Hh : Hid (s.extract 0 W = headOf s) := hh
  have hsz : (s.extract 0 W).size ≤ 1000000 := by simp [ByteArray.size_extract]; omega
  clear hh
  go_region_with (first | (go_at_call 123; refine (mixAll_any H0 (s.extract 0 W) _ hsz ?_).mono ?_; (exact hT1.since (Since.refl _).drew); rintro e w' ⟨rfl, hS'⟩; generalize hm : mixTo _ _ _ = q; have Hm : Hid (mixTo H0 (s.extract 0 W) ((s.extract 0 W).size / 64) = q) := hm; clear hm; simp only [St.val]; obtain ⟨hArr', d0, d1, d2, d3, d4, d5, d6, d7, _, _, _, _, _, _, _, _⟩ := (Arr8.of hArr).since ((Since.refl _).drew.trans hS')))
  all_goals
    generalize hw3 : World.setCell _ _ _ = w3
    have hA3 : Arr8 w3 w.heap.size q := .of (by rw [← hw3]; exact hArr'.set8 q)
    have hS3 : Since w w3 := by rw [← hw3]; exact (hS.trans ((Since.refl _).drew.trans hS')).set8 (by omega) q
    have hT3 := hT.since hS3
    clear hw3 d0 d1 d2 d3 d4 d5 d6 d7 c0 c1 c2 c3 c4 c5 c6 c7 hT1 hS hArr hArr' hS'
    obtain ⟨hArr, c0, c1, c2, c3, c4, c5, c6, c7, _, _, _, _, _, _, _, _⟩ := hA3
  have hcat : s.size - W + (strOfNums (pad s.size)).size ≤ 9223372036854775807 := by rw [strOfNums_size, pad_length]; omega
  have hsz2 : (s.extract W s.size ++ strOfNums (pad s.size)).size ≤ 1000000 := by
    rw [ByteArray.size_append, strOfNums_size, pad_length]; simp [ByteArray.size_extract]; omega
  go_wp2_with fail
  go_region_with (first | (go_at_call 124; refine (ending_any s.size _ (by omega)).mono ?_; rintro e w4 ⟨rfl, h4⟩; obtain ⟨hArr4, e0, e1, e2, e3, e4, e5, e6, e7, _, _, _, _, _, _, _, _⟩ := (Arr8.of hArr).since ((Since.refl _).drew.trans h4)) | (go_at_call 123; refine (mixAll_any q (s.extract W s.size ++ strOfNums (pad s.size)) _ hsz2 ?_).mono ?_; (exact hT3.since ((Since.refl _).drew.trans h4)); rintro e w5 ⟨rfl, h5⟩; generalize hm2 : mixTo _ _ _ = q2; have Hm2 : Hid (mixTo q (s.extract W s.size ++ strOfNums (pad s.size)) ((s.extract W s.size ++ strOfNums (pad s.size)).size / 64) = q2) := hm2; clear hm2; simp only [St.val]; obtain ⟨hArr5, d0, d1, d2, d3, d4, d5, d6, d7, _, _, _, _, _, _, _, _⟩ := (Arr8.of hArr4).since h5))
  all_goals
    generalize hw3 : World.setCell _ _ _ = w6
    have hA6 : Arr8 w6 w.heap.size q2 := .of (by rw [← hw3]; exact hArr5.set8 q2)
    have hS6 : Since w w6 := by rw [← hw3]; exact ((hS3.trans ((Since.refl _).drew.trans h4)).trans h5).set8 (by omega) q2
    clear hw3 d0 d1 d2 d3 d4 d5 d6 d7 c0 c1 c2 c3 c4 c5 c6 c7 hT3 hArr hArr4 hArr5
    obtain ⟨hArr, c0, c1, c2, c3, c4, c5, c6, c7, _, _, _, _, _, _, _, _⟩ := hA6
    go_wp2_with fail
    refine (join_any q2 _).mono ?_
    rintro e w7 ⟨rfl, h7⟩
    go_wp2_with fail
    go_ret
    refine ⟨?_, hS6.trans h7⟩
    have e1 : q2 = sumSt s := by
      rw [← Hm2.out, ← Hm.out, Hh.out]
      unfold sumSt sumHead tailOf
      rw [← HW.out]
    rw [e1]; rfl
end Sm
end Go.Proofs.YtifnhnfjelfddaaGreatDoor
end
section
namespace Go.Proofs.YtifnhnfjelfddaaGreatDoor
set_option maxRecDepth 100000
namespace Sm
open Go.RowKit
theorem heap_lt {w : World} {k : Nat} {o : Obj} (h : w.heap[k]? = some o) : k < w.heap.size := by
  rcases Nat.lt_or_ge k w.heap.size with h1 | h1
  · exact h1
  · rw [Array.getElem?_eq_none h1] at h; cases h
theorem builderAt_since {B b : Nat} {p : Value} {bs : List Value} {w w' : World} (h : Lib.BuilderAtF 155 5 B b p bs w) (hs : Since w w') : Lib.BuilderAtF 155 5 B b p bs w' := by
  obtain ⟨h1, v, hb, hown, hne⟩ := h
  refine ⟨h1, v, by rw [Below.block hs b (heap_lt hb)]; exact hb, ?_, hne⟩
  obtain ⟨o1, o2⟩ := hown
  refine ⟨o1, ?_⟩
  rcases o2 with o2 | ⟨g, cap, cur, o2⟩
  · exact Or.inl o2
  · obtain ⟨fz, hv, hg, hh, r⟩ := o2
    exact Or.inr ⟨g, cap, cur, fz, hv, hg, by rw [Below.block hs g (heap_lt hh)]; exact hh, r⟩
theorem builder_since {B b : Nat} {bs : List Value} {w w' : World} (h : Lib.IsBuilderF 155 5 B b bs w) (hs : Since w w') : Lib.IsBuilderF 155 5 B b bs w' := by
  rcases h with h | h
  · exact Or.inl (builderAt_since h hs)
  · exact Or.inr (builderAt_since h hs)
def accTo (kd : UInt8) (ps : Nat → ByteArray) : Nat → List UInt8
  | 0 => [kd]
  | n + 1 => accTo kd ps n ++ (strOfNums (be8 (ps n).size)).data.toList ++ (ps n).data.toList
theorem acc_len (kd : UInt8) (ps : Nat → ByteArray) (m : Nat) (hp : ∀ j, j < m → (ps j).size ≤ 900) : ∀ n, n ≤ m → (accTo kd ps n).length ≤ 1 + 908 * n := by
  intro n
  induction n with
  | zero => intro _; simp [accTo]
  | succ n ih =>
    intro hn
    have h1 := ih (by omega)
    have h2 := hp n (by omega)
    have h3 : (ps n).data.size ≤ 900 := h2
    simp [accTo, strOfNums_data, be8]
    omega
def markOf (s : ByteArray) : ByteArray := (strOfNums (sumSt s).bytes).extract 0 16
set_option maxHeartbeats 1000000 in
theorem mark_any (kd : UInt8) (pb po m cap : Nat) (ps : Nat → ByteArray) (w : World) (hm : m ≤ 10) (hp : ∀ j, j < m → (ps j).size ≤ 900) (hT : Tab w)
    (hc : ∀ j, j < m → w.cell? ⟨pb, po + j, none⟩ = some (.string (ps j))) :
    Calls Tryz.prog 99 #[.int .u8 kd.toNat, .slice (some ⟨pb, po, none⟩) m cap] w fun e w' => e = .returned (.string (markOf ⟨(accTo kd ps m).toArray⟩)) ∧ Since w w' := by
  have h0 : Lib.IsBuilderF 155 5 w.heap.size w.heap.size [] (w.alloc (.cells #[.pointer none, .slice none 0 0] 155)) := Lib.IsBuilderF.of (Lib.fresh_isBuilder 155 5 w)
  have b0 : Since w (w.alloc (.cells #[.pointer none, .slice none 0 0] 155)) := (Since.refl w).alloc _
  go_enter Tryz.func99, Tryz.ntmps99
  go_wp2_with fail
  refine (writeByte_any w.heap.size w.heap.size [] kd.toNat _ h0 (by decide) b0.size).mono ?_
  rintro e w1 ⟨rfl, h1, b1, _⟩
  have s1 : Since w w1 := Below.trans b0 b1
  clear h0 b0 b1
  go_wp2_with fail
  go_loopw [12] (fun i wr => ∃ k : Nat, k ≤ m ∧ i = .int .i64 k ∧ Lib.IsBuilderF 155 5 w.heap.size w.heap.size (Lib.byteCells (accTo kd ps k)) wr ∧ Since w wr) (fun i _ => m - (intOf i).toNat)
  case atStart => exact ⟨0, by omega, rfl, Or.inr h1, s1⟩
  case round =>
    obtain ⟨k, hk, rfl, hB, hS⟩ := hrel
    by_cases hlt : k < m
    · have hck : wr.cell? ⟨pb, po + k, none⟩ = some (.string (ps k)) := by
        have h := hc k hlt
        rw [hS.cell (p := ⟨pb, po + k, none⟩) (World.block_lt_of_cell? w _ h)]; exact h
      have hpk := hp k hlt
      have hl := acc_len kd ps m hp k (by omega)
      go_wp2_with fail
      refine (num_any _ _).mono ?_
      rintro e w2 ⟨rfl, h2⟩
      rw [Int.emod_eq_of_lt (by omega) (by omega)]
      have hB2 := builder_since hB h2
      have hS2 := hS.trans h2
      go_wp2_with fail
      refine (writeString_any w.heap.size w.heap.size _ (strOfNums (be8 (ps k).size)) _ hB2 (by rw [Lib.byteCells_length, strOfNums_size]; simp [be8]; omega) hS2.size).mono ?_
      rintro e w3 ⟨rfl, h3, b3, _⟩
      have hS3 : Since w w3 := Below.trans hS2 b3
      go_wp2_with fail
      refine (writeString_any w.heap.size w.heap.size _ (ps k) _ (Or.inr h3) (by rw [List.length_append, Lib.strCells_length, Lib.byteCells_length, strOfNums_size]; simp [be8]; omega) hS3.size).mono ?_
      rintro e w4 ⟨rfl, h4, b4, _⟩
      have hS4 : Since w w4 := Below.trans hS3 b4
      have hB4 : Lib.IsBuilderF 155 5 w.heap.size w.heap.size (Lib.byteCells (accTo kd ps (k + 1))) w4 := by
        refine Or.inr ?_
        rw [Lib.strCells_eq, Lib.strCells_eq] at h4
        simpa [Lib.byteCells, accTo] using h4
      clear h3 h4 hB hB2 hl
      go_wp2_with fail
      go_roundw
      case rel => exact ⟨k + 1, by omega, by go_num, hB4, hS4⟩
      case measure => simp [intOf]; omega
    · have hkm : k = m := by omega
      subst hkm
      have hl := acc_len kd ps k hp k (Nat.le_refl _)
      go_wp2_with fail
      refine (string_any w.heap.size w.heap.size _ _ hB hS.size).mono ?_
      rintro e w2 ⟨rfl, _, b2, _⟩
      have hS2 : Since w w2 := Below.trans hS b2
      clear hB b2
      go_wp2_with fail
      refine (sum_any _ _ (by rw [show (⟨(accTo kd ps k).toArray⟩ : ByteArray).size = (accTo kd ps k).length by simp [ByteArray.size]]; omega) (hT.since hS2)).mono ?_
      rintro e w3 ⟨rfl, h3⟩
      generalize hS : sumSt _ = q
      have HS : Hid (sumSt ⟨(accTo kd ps k).toArray⟩ = q) := hS
      clear hS
      have hsz : (strOfNums q.bytes).size = 32 := by rw [strOfNums_size]; rfl
      go_wp2_with fail
      go_ret
      exact ⟨by unfold markOf; rw [HS.out]; rfl, hS2.trans h3⟩
end Sm
end Go.Proofs.YtifnhnfjelfddaaGreatDoor
end
section
namespace Go.Proofs.YtifnhnfjelfddaaGreatDoor
set_option maxRecDepth 100000
namespace Tw
open Go.RowKit
open Sm (Tab mark_any num_any markOf accTo be8 sumSt builder_since)
def two (a b : ByteArray) : Nat → ByteArray := fun j => if j = 0 then a else b
theorem mark_size (s : ByteArray) : (markOf s).size = 16 := by
  unfold markOf
  have h : (strOfNums (sumSt s).bytes).size = 32 := by rw [strOfNums_size]; rfl
  simp [ByteArray.size_extract, h]
theorem two_cells (w : World) (a b : ByteArray) (t : TypeId) (j : Nat) (hj : j < 2) : (w.alloc (.cells #[.string a, .string b] t)).cell? ⟨w.heap.size, 0 + j, none⟩ = some (.string (two a b j)) := by
  rw [Nat.zero_add, World.cell?_alloc_new]
  match j, hj with
  | 0, _ => rfl
  | 1, _ => rfl
theorem two_size (a b : ByteArray) (ha : a.size ≤ 900) (hb : b.size ≤ 900) (j : Nat) : (two a b j).size ≤ 900 := by
  unfold two; split <;> assumption
def hd (T : Tb) : ByteArray := strOfNums (be8 (T.count % 18446744073709551616))
theorem hd_size (T : Tb) : (hd T).size = 8 := by unfold hd; rw [strOfNums_size]; rfl
def bodyL (T : Tb) (k : Nat) : List UInt8 := (hd T).data.toList ++ cellsL T k
theorem bodyL_len {T : Tb} {n : Nat} (h : fine T n) (k : Nat) (hk : k ≤ n) : (bodyL T k).length = 8 + 18 * k := by
  have h8 : (hd T).data.size = 8 := hd_size T
  unfold bodyL
  rw [List.length_append, cellsL_len h k hk, Array.length_toList, h8]
theorem bodyL_succ (T : Tb) (k : Nat) : bodyL T (k + 1) = bodyL T k ++ cellL T k := by
  unfold bodyL
  rw [cellsL_succ, List.append_assoc]
def body (T : Tb) : ByteArray := ⟨(bodyL T 24).toArray⟩
theorem body_size {T : Tb} (h : fine T 24) : (body T).size = 440 := by
  show (bodyL T 24).toArray.size = 440
  rw [List.size_toArray, bodyL_len h 24 (Nat.le_refl _)]
def mk2 (key b : ByteArray) : ByteArray := markOf ⟨(accTo 116 (two key b) 2).toArray⟩
theorem mk2_size (key b : ByteArray) : (mk2 key b).size = 16 := mark_size _
def text (key : ByteArray) (T : Tb) : ByteArray := mk2 key (body T) ++ body T
theorem text_size {key : ByteArray} {T : Tb} (h : fine T 24) : (text key T).size = 456 := by
  unfold text
  rw [ByteArray.size_append, mk2_size, body_size h]
set_option maxHeartbeats 1000000 in
theorem write_not (key : ByteArray) (T : Tb) (w : World) (h : key.size = 32) (hr : rtB T = false) :
    Calls Tryz.prog 72 #[.string key, tval T] w fun e w' => e = .returned (.tuple #[.string ⟨#[]⟩, .iface 45 (.int .i64 1)]) ∧ Since w w' := by
  have e1 : (key.size : Int) = 32 := by omega
  have hR := tab_all (tab_cel T w)
  have hri := fun W => right_any T W
  rw [hr] at hri
  have HRI : Hid (∀ W, Calls Tryz.prog 95 #[tval T] W fun e w' => e = .returned (.bool false) ∧ Since W w') := hri
  clear hri hr
  have hL : (brow 73 (tcell T)).length = 73 := brow_length _ _
  unfold tval at *
  generalize brow 73 (tcell T) = cs at *
  have HS : Hid (Since w (w.alloc (.cells cs.toArray 92))) := (Since.refl w).alloc _
  go_enter Tryz.func72, Tryz.ntmps72
  go_wp2_with fail
  refine wp_load_mid 92 _ (by rfl) w.heap.size 0 (by rfl) _ _ hR Tryz.underlying92 (by rfl) (by rw [hL]; kernel_rfl) ?_
  clear hR hL
  go_wp2_with fail
  refine (HRI.out _).mono ?_
  rintro e w1 ⟨rfl, h1⟩
  go_wp2_with fail
  go_ret2
  exact ⟨rfl, HS.out.trans h1⟩
end Tw
end Go.Proofs.YtifnhnfjelfddaaGreatDoor
end
