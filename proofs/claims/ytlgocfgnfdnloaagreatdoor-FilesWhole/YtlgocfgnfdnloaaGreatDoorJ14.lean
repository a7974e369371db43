import Derived.OwnWalk
import Derived.Laws.BitsAllLaws
import Derived.Test.YtlgocfgnfdnloaaGreatDoorJ04
import Derived.Test.YtlgocfgnfdnloaaGreatDoorJ07
import Derived.Test.YtlgocfgnfdnloaaGreatDoorJ08
import Derived.Test.YtlgocfgnfdnloaaGreatDoorJ11
import Derived.Test.YtlgocfgnfdnloaaGreatDoorJ13
set_option linter.unusedSimpArgs false
set_option linter.unusedVariables false
section
namespace Go.Proofs.YtlgocfgnfdnloaaGreatDoor
set_option maxRecDepth 100000
namespace Sm
open Go.RowKit
attribute [local go_sem] U_add U_mulc U_xor U_and U_or U_shr U_shl U_not U_conv U_byte U_cells U_match U_oneCell U_store U_store1
def H0 : St := ⟨1779033703, 3144134277, 1013904242, 2773480762, 1359893119, 2600822924, 528734635, 1541459225⟩
def headOf (s : ByteArray) : ByteArray := s.extract 0 (s.size - s.size % 64)
def tailOf (s : ByteArray) : ByteArray := s.extract (s.size - s.size % 64) s.size ++ strOfNums (pad s.size)
def sumHead (s : ByteArray) : St := mixTo H0 (headOf s) ((headOf s).size / 64)
def sumSt (s : ByteArray) : St := mixTo (sumHead s) (tailOf s) ((tailOf s).size / 64)
structure Arr8 (w : World) (b : Nat) (t : St) : Prop where
  arr : Arr w b 0 8 t.fn
  c0 : w.cell? ⟨b, 0, none⟩ = some (U t.a)
  c1 : w.cell? ⟨b, 1, none⟩ = some (U t.b)
  c2 : w.cell? ⟨b, 2, none⟩ = some (U t.c)
  c3 : w.cell? ⟨b, 3, none⟩ = some (U t.d)
  c4 : w.cell? ⟨b, 4, none⟩ = some (U t.e)
  c5 : w.cell? ⟨b, 5, none⟩ = some (U t.f)
  c6 : w.cell? ⟨b, 6, none⟩ = some (U t.g)
  c7 : w.cell? ⟨b, 7, none⟩ = some (U t.h)
  f0 : w.frozen? ⟨b, 0, none⟩ = false
  f1 : w.frozen? ⟨b, 1, none⟩ = false
  f2 : w.frozen? ⟨b, 2, none⟩ = false
  f3 : w.frozen? ⟨b, 3, none⟩ = false
  f4 : w.frozen? ⟨b, 4, none⟩ = false
  f5 : w.frozen? ⟨b, 5, none⟩ = false
  f6 : w.frozen? ⟨b, 6, none⟩ = false
  f7 : w.frozen? ⟨b, 7, none⟩ = false
theorem Arr8.of {w : World} {b : Nat} {t : St} (h : Arr w b 0 8 t.fn) : Arr8 w b t :=
  ⟨h, h.cell 0 (by omega), h.cell 1 (by omega), h.cell 2 (by omega), h.cell 3 (by omega), h.cell 4 (by omega), h.cell 5 (by omega), h.cell 6 (by omega), h.cell 7 (by omega),
    h.frozen 0 (by omega), h.frozen 1 (by omega), h.frozen 2 (by omega), h.frozen 3 (by omega), h.frozen 4 (by omega), h.frozen 5 (by omega), h.frozen 6 (by omega), h.frozen 7 (by omega)⟩
theorem Arr8.since {w w' : World} {b : Nat} {t : St} (h : Arr8 w b t) (hs : Since w w') : Arr8 w' b t := .of (h.arr.since hs)
set_option maxHeartbeats 2000000 in
set_option maxRecDepth 100000 in
theorem sum_any (s : ByteArray) (w : World) (hs : s.size ≤ 100000) (hT : Tab w) :
    Calls Tryz.prog 251 #[.string s] w fun e w' => e = .returned (.string (strOfNums (sumSt s).bytes)) ∧ Since w w' := by
  go_enter Tryz.func251, Tryz.ntmps251
  go_wp2_with fail
  have hA : Arr8 (w.alloc (.cells #[.int .u32 1779033703, .int .u32 3144134277, .int .u32 1013904242, .int .u32 2773480762, .int .u32 1359893119, .int .u32 2600822924, .int .u32 528734635, .int .u32 1541459225] 107)) w.heap.size H0 := .of (Arr.new w 8 H0.fn _ _ (by rfl) _ rfl)
  have hS : Since w (w.alloc (.cells #[.int .u32 1779033703, .int .u32 3144134277, .int .u32 1013904242, .int .u32 2773480762, .int .u32 1359893119, .int .u32 2600822924, .int .u32 528734635, .int .u32 1541459225] 107)) := (Since.refl w).alloc _
  generalize w.alloc _ = w1 at hA hS ⊢
  have hT1 := hT.since hS
  obtain ⟨hArr, c0, c1, c2, c3, c4, c5, c6, c7, _, _, _, _, _, _, _, _⟩ := hA
  obtain ⟨W, hW⟩ : ∃ W : Nat, (s.size : Int) - s.size % 64 = W := ⟨s.size - s.size % 64, by omega⟩
  have W1 : (0 : Int) ≤ W := by omega
  have W2 : (W : Int) ≤ s.size := by omega
  have W3 : W ≤ s.size := by omega
  have hWe : W = s.size - s.size % 64 := by omega
  rw [hW]
  have HW : Hid (W = s.size - s.size % 64) := hWe
  clear hW hWe
  have hh : s.extract 0 W = headOf s := by unfold headOf; rw [← HW.out]
  have Hh : Hid (s.extract 0 W = headOf s) := hh
  have hsz : (s.extract 0 W).size ≤ 1000000 := by simp [ByteArray.size_extract]; omega
  clear hh
  go_region_with (first | (go_at_call 292; refine (mixAll_any H0 (s.extract 0 W) _ hsz ?_).mono ?_; (exact hT1.since (Since.refl _).drew); rintro e w' ⟨rfl, hS'⟩; generalize hm : mixTo _ _ _ = q; have Hm : Hid (mixTo H0 (s.extract 0 W) ((s.extract 0 W).size / 64) = q) := hm; clear hm; simp only [St.val]; obtain ⟨hArr', d0, d1, d2, d3, d4, d5, d6, d7, _, _, _, _, _, _, _, _⟩ := (Arr8.of hArr).since ((Since.refl _).drew.trans hS')))
  all_goals
    generalize hw3 : World.setCell _ _ _ = w3
    have hA3 : Arr8 w3 w.heap.size q := .of (by rw [← hw3]; exact hArr'.set8 q)
    have hS3 : Since w w3 := by rw [← hw3]; exact (hS.trans ((Since.refl _).drew.trans hS')).set8 (by omega) q
    have hT3 := hT.since hS3
    clear hw3 d0 d1 d2 d3 d4 d5 d6 d7 c0 c1 c2 c3 c4 c5 c6 c7 hT1 hS hArr hArr' hS'
    obtain ⟨hArr, c0, c1, c2, c3, c4, c5, c6, c7, _, _, _, _, _, _, _, _⟩ := hA3
  have hcat : s.size - W + (strOfNums (pad s.size)).size ≤ 9223372036854775807 := by rw [strOfNums_size, pad_length]; omega
  have hsz2 : (s.extract W s.size ++ strOfNums (pad s.size)).size ≤ 1000000 := by
    rw [ByteArray.size_append, strOfNums_size, pad_length]; simp [ByteArray.size_extract]; omega
  go_wp2_with fail
  go_region_with (first | (go_at_call 293; refine (ending_any s.size _ (by omega)).mono ?_; rintro e w4 ⟨rfl, h4⟩; obtain ⟨hArr4, e0, e1, e2, e3, e4, e5, e6, e7, _, _, _, _, _, _, _, _⟩ := (Arr8.of hArr).since ((Since.refl _).drew.trans h4)) | (go_at_call 292; refine (mixAll_any q (s.extract W s.size ++ strOfNums (pad s.size)) _ hsz2 ?_).mono ?_; (exact hT3.since ((Since.refl _).drew.trans h4)); rintro e w5 ⟨rfl, h5⟩; generalize hm2 : mixTo _ _ _ = q2; have Hm2 : Hid (mixTo q (s.extract W s.size ++ strOfNums (pad s.size)) ((s.extract W s.size ++ strOfNums (pad s.size)).size / 64) = q2) := hm2; clear hm2; simp only [St.val]; obtain ⟨hArr5, d0, d1, d2, d3, d4, d5, d6, d7, _, _, _, _, _, _, _, _⟩ := (Arr8.of hArr4).since h5))
  all_goals
    generalize hw3 : World.setCell _ _ _ = w6
    have hA6 : Arr8 w6 w.heap.size q2 := .of (by rw [← hw3]; exact hArr5.set8 q2)
    have hS6 : Since w w6 := by rw [← hw3]; exact ((hS3.trans ((Since.refl _).drew.trans h4)).trans h5).set8 (by omega) q2
    clear hw3 d0 d1 d2 d3 d4 d5 d6 d7 c0 c1 c2 c3 c4 c5 c6 c7 hT3 hArr hArr4 hArr5
    obtain ⟨hArr, c0, c1, c2, c3, c4, c5, c6, c7, _, _, _, _, _, _, _, _⟩ := hA6
    go_wp2_with fail
    refine (join_any q2 _).mono ?_
    rintro e w7 ⟨rfl, h7⟩
    go_wp2_with fail
    go_ret
    refine ⟨?_, hS6.trans h7⟩
    have e1 : q2 = sumSt s := by
      rw [← Hm2.out, ← Hm.out, Hh.out]
      unfold sumSt sumHead tailOf
      rw [← HW.out]
    rw [e1]; rfl
end Sm
end Go.Proofs.YtlgocfgnfdnloaaGreatDoor
end
section
namespace Go.Proofs.YtlgocfgnfdnloaaGreatDoor
set_option maxRecDepth 100000
namespace Sm
open Go.RowKit
theorem heap_lt {w : World} {k : Nat} {o : Obj} (h : w.heap[k]? = some o) : k < w.heap.size := by
  rcases Nat.lt_or_ge k w.heap.size with h1 | h1
  · exact h1
  · rw [Array.getElem?_eq_none h1] at h; cases h
theorem builderAt_since {B b : Nat} {p : Value} {bs : List Value} {w w' : World} (h : Lib.BuilderAtF 189 5 B b p bs w) (hs : Since w w') : Lib.BuilderAtF 189 5 B b p bs w' := by
  obtain ⟨h1, v, hb, hown, hne⟩ := h
  refine ⟨h1, v, by rw [Below.block hs b (heap_lt hb)]; exact hb, ?_, hne⟩
  obtain ⟨o1, o2⟩ := hown
  refine ⟨o1, ?_⟩
  rcases o2 with o2 | ⟨g, cap, cur, o2⟩
  · exact Or.inl o2
  · obtain ⟨fz, hv, hg, hh, r⟩ := o2
    exact Or.inr ⟨g, cap, cur, fz, hv, hg, by rw [Below.block hs g (heap_lt hh)]; exact hh, r⟩
theorem builder_since {B b : Nat} {bs : List Value} {w w' : World} (h : Lib.IsBuilderF 189 5 B b bs w) (hs : Since w w') : Lib.IsBuilderF 189 5 B b bs w' := by
  rcases h with h | h
  · exact Or.inl (builderAt_since h hs)
  · exact Or.inr (builderAt_since h hs)
def accTo (kd : UInt8) (ps : Nat → ByteArray) : Nat → List UInt8
  | 0 => [kd]
  | n + 1 => accTo kd ps n ++ (strOfNums (be8 (ps n).size)).data.toList ++ (ps n).data.toList
theorem acc_len (kd : UInt8) (ps : Nat → ByteArray) (m : Nat) (hp : ∀ j, j < m → (ps j).size ≤ 900) : ∀ n, n ≤ m → (accTo kd ps n).length ≤ 1 + 908 * n := by
  intro n
  induction n with
  | zero => intro _; simp [accTo]
  | succ n ih =>
    intro hn
    have h1 := ih (by omega)
    have h2 := hp n (by omega)
    have h3 : (ps n).data.size ≤ 900 := h2
    simp [accTo, strOfNums_data, be8]
    omega
def markOf (s : ByteArray) : ByteArray := (strOfNums (sumSt s).bytes).extract 0 16
set_option maxHeartbeats 1000000 in
theorem mark_any (kd : UInt8) (pb po m cap : Nat) (ps : Nat → ByteArray) (w : World) (hm : m ≤ 10) (hp : ∀ j, j < m → (ps j).size ≤ 900) (hT : Tab w)
    (hc : ∀ j, j < m → w.cell? ⟨pb, po + j, none⟩ = some (.string (ps j))) :
    Calls Tryz.prog 252 #[.int .u8 kd.toNat, .slice (some ⟨pb, po, none⟩) m cap] w fun e w' => e = .returned (.string (markOf ⟨(accTo kd ps m).toArray⟩)) ∧ Since w w' := by
  have h0 : Lib.IsBuilderF 189 5 w.heap.size w.heap.size [] (w.alloc (.cells #[.pointer none, .slice none 0 0] 189)) := Lib.IsBuilderF.of (Lib.fresh_isBuilder 189 5 w)
  have b0 : Since w (w.alloc (.cells #[.pointer none, .slice none 0 0] 189)) := (Since.refl w).alloc _
  go_enter Tryz.func252, Tryz.ntmps252
  go_wp2_with fail
  refine (writeByte_any w.heap.size w.heap.size [] kd.toNat _ h0 (by decide) b0.size).mono ?_
  rintro e w1 ⟨rfl, h1, b1, _⟩
  have s1 : Since w w1 := Below.trans b0 b1
  clear h0 b0 b1
  go_wp2_with fail
  go_loopw [12] (fun i wr => ∃ k : Nat, k ≤ m ∧ i = .int .i64 k ∧ Lib.IsBuilderF 189 5 w.heap.size w.heap.size (Lib.byteCells (accTo kd ps k)) wr ∧ Since w wr) (fun i _ => m - (intOf i).toNat)
  case atStart => exact ⟨0, by omega, rfl, Or.inr h1, s1⟩
  case round =>
    obtain ⟨k, hk, rfl, hB, hS⟩ := hrel
    by_cases hlt : k < m
    · have hck : wr.cell? ⟨pb, po + k, none⟩ = some (.string (ps k)) := by
        have h := hc k hlt
        rw [hS.cell (p := ⟨pb, po + k, none⟩) (World.block_lt_of_cell? w _ h)]; exact h
      have hpk := hp k hlt
      have hl := acc_len kd ps m hp k (by omega)
      go_wp2_with fail
      refine (num_any _ _).mono ?_
      rintro e w2 ⟨rfl, h2⟩
      rw [Int.emod_eq_of_lt (by omega) (by omega)]
      have hB2 := builder_since hB h2
      have hS2 := hS.trans h2
      go_wp2_with fail
      refine (writeString_any w.heap.size w.heap.size _ (strOfNums (be8 (ps k).size)) _ hB2 (by rw [Lib.byteCells_length, strOfNums_size]; simp [be8]; omega) hS2.size).mono ?_
      rintro e w3 ⟨rfl, h3, b3, _⟩
      have hS3 : Since w w3 := Below.trans hS2 b3
      go_wp2_with fail
      refine (writeString_any w.heap.size w.heap.size _ (ps k) _ (Or.inr h3) (by rw [List.length_append, Lib.strCells_length, Lib.byteCells_length, strOfNums_size]; simp [be8]; omega) hS3.size).mono ?_
      rintro e w4 ⟨rfl, h4, b4, _⟩
      have hS4 : Since w w4 := Below.trans hS3 b4
      have hB4 : Lib.IsBuilderF 189 5 w.heap.size w.heap.size (Lib.byteCells (accTo kd ps (k + 1))) w4 := by
        refine Or.inr ?_
        rw [Lib.strCells_eq, Lib.strCells_eq] at h4
        simpa [Lib.byteCells, accTo] using h4
      clear h3 h4 hB hB2 hl
      go_wp2_with fail
      go_roundw
      case rel => exact ⟨k + 1, by omega, by go_num, hB4, hS4⟩
      case measure => simp [intOf]; omega
    · have hkm : k = m := by omega
      subst hkm
      have hl := acc_len kd ps k hp k (Nat.le_refl _)
      go_wp2_with fail
      refine (string_any w.heap.size w.heap.size _ _ hB hS.size).mono ?_
      rintro e w2 ⟨rfl, _, b2, _⟩
      have hS2 : Since w w2 := Below.trans hS b2
      clear hB b2
      go_wp2_with fail
      refine (sum_any _ _ (by rw [show (⟨(accTo kd ps k).toArray⟩ : ByteArray).size = (accTo kd ps k).length by simp [ByteArray.size]]; omega) (hT.since hS2)).mono ?_
      rintro e w3 ⟨rfl, h3⟩
      generalize hS : sumSt _ = q
      have HS : Hid (sumSt ⟨(accTo kd ps k).toArray⟩ = q) := hS
      clear hS
      have hsz : (strOfNums q.bytes).size = 32 := by rw [strOfNums_size]; rfl
      go_wp2_with fail
      go_ret
      exact ⟨by unfold markOf; rw [HS.out]; rfl, hS2.trans h3⟩
end Sm
end Go.Proofs.YtlgocfgnfdnloaaGreatDoor
end
section
namespace Go.Proofs.YtlgocfgnfdnloaaGreatDoor
set_option maxRecDepth 100000
namespace Sl
open Go.RowKit
open Sm (Tab mark_any num_any markOf accTo be8 sumSt)
def three (a b c : ByteArray) : Nat → ByteArray := fun j => if j = 0 then a else if j = 1 then b else c
def numT (n : Int) : ByteArray := strOfNums (be8 (n % 18446744073709551616))
theorem numT_size (n : Int) : (numT n).size = 8 := by unfold numT; rw [strOfNums_size]; rfl
def mk (kd : UInt8) (key : ByteArray) (cell : Int) (t : ByteArray) : ByteArray := markOf ⟨(accTo kd (three key (numT cell) t) 3).toArray⟩
theorem mk_size (kd : UInt8) (key : ByteArray) (cell : Int) (t : ByteArray) : (mk kd key cell t).size = 16 := by
  unfold mk markOf
  generalize (⟨(accTo kd (three key (numT cell) t) 3).toArray⟩ : ByteArray) = s
  have h : (strOfNums (sumSt s).bytes).size = 32 := by rw [strOfNums_size]; rfl
  simp [ByteArray.size_extract, h]
theorem three_cells (w : World) (a b c : ByteArray) (t : TypeId) (j : Nat) (hj : j < 3) : (w.alloc (.cells #[.string a, .string b, .string c] t)).cell? ⟨w.heap.size, 0 + j, none⟩ = some (.string (three a b c j)) := by
  rw [Nat.zero_add, World.cell?_alloc_new]
  match j, hj with
  | 0, _ => rfl
  | 1, _ => rfl
  | 2, _ => rfl
theorem three_size (a b c : ByteArray) (ha : a.size ≤ 900) (hb : b.size ≤ 900) (hc : c.size ≤ 900) (j : Nat) : (three a b c j).size ≤ 900 := by
  unfold three; split
  · assumption
  · split <;> assumption
set_option maxHeartbeats 1000000 in
theorem mark_seal (kd : UInt8) (key : ByteArray) (cell : Int) (t : ByteArray) (w : World) (hk : key.size ≤ 900) (ht : t.size ≤ 900) (hT : Tab w) :
    Calls Tryz.prog 280 #[.int .u8 kd.toNat, .string key, .int .i64 cell, .string t] w fun e w' => e = .returned (.string (mk kd key cell t)) ∧ Since w w' := by
  go_enter Tryz.func280, Tryz.ntmps280
  go_wp2_with fail
  refine (num_any cell _).mono ?_
  rintro e w1 ⟨rfl, h1⟩
  have hn8 := numT_size cell
  have HN : strOfNums (be8 (cell % 18446744073709551616)) = numT cell := rfl
  rw [HN]
  clear HN
  have HM : Hid (markOf ⟨(accTo kd (three key (numT cell) t) 3).toArray⟩ = mk kd key cell t) := by
    show markOf _ = mk kd key cell t
    unfold mk
    rfl
  generalize hN : numT cell = N at *
  go_wp2_with fail
  have hm := mark_any kd w1.heap.size 0 3 3 (three key N t) (w1.alloc (.cells #[.string key, .string N, .string t] 390)) (by omega) (fun j _ => three_size key N t hk (by omega) ht j) (hT.since (h1.alloc _)) (fun j hj => three_cells w1 key N t 390 j hj)
  refine hm.mono ?_
  clear hm
  rintro e w2 ⟨rfl, h2⟩
  rw [HM.out]
  generalize hq : mk kd key cell t = q at *
  have HQ : Hid (mk kd key cell t = q) := hq
  clear hq
  go_wp2_with fail
  go_ret
  exact ⟨by rw [HQ.out]; rfl, (h1.alloc _).trans h2⟩
set_option maxHeartbeats 1000000 in
theorem filled_any (s : ByteArray) (w : World) (hs : s.size ≤ 80) :
    Calls Tryz.prog 282 #[.string s] w fun e w' => e = .returned (.string (fill s)) ∧ Since w w' := by
  have hz : ∀ j, j < 81 → (Tryz.zeroCells396.setIfInBounds 0 (Value.int IntKind.u8 (s.size : Int)))[j]? = some (if j = 0 then .int .u8 (s.size : Int) else bv 0) := by
    intro j hj
    have hsz : Tryz.zeroCells396.size = 81 := by kernel_rfl
    have he : Tryz.zeroCells396 = (List.replicate 81 (Value.int .u8 0)).toArray := by kernel_rfl
    by_cases e : j = 0
    · subst e
      rw [if_pos rfl, Array.getElem?_setIfInBounds_self_of_lt (by rw [hsz]; omega)]
    · rw [if_neg e, Array.getElem?_setIfInBounds_ne (fun h => e h.symm), he]
      rw [List.getElem?_toArray, List.getElem?_replicate, if_pos hj]; rfl
  have hC : Cel (w.alloc (.cells (Tryz.zeroCells396.setIfInBounds 0 (Value.int IntKind.u8 (s.size : Int))) 396)) w.heap.size 81 (fun j => if j = 0 then .int .u8 (s.size : Int) else bv 0) := Cel.new w 81 _ _ _ hz _ rfl
  have hcp := copy_str _ 3 w.heap.size 1 80 80 81 _ s hC (by omega)
  rw [show min s.size 80 = s.size by omega] at hcp
  have hC2 := hC.setRow 1 s.size (by omega) (fun i => bv (sb s i))
  have hS2 : Since w ((w.alloc (.cells (Tryz.zeroCells396.setIfInBounds 0 (Value.int IntKind.u8 (s.size : Int))) 396)).setCells w.heap.size 1 (brow s.size (fun i => bv (sb s i)))) := ((Since.refl w).alloc _).setCells (Nat.le_refl _) _ _
  have hC3 : Cel ((w.alloc (.cells (Tryz.zeroCells396.setIfInBounds 0 (Value.int IntKind.u8 (s.size : Int))) 396)).setCells w.heap.size 1 (brow s.size (fun i => bv (sb s i)))) w.heap.size 81 (fun j => bv (fillF s j)) := by
    refine hC2.congr (fun j hj => ?_)
    unfold updl fillF
    by_cases e : j = 0
    · subst e
      rw [if_neg (by omega)]
      dsimp only
      rw [if_pos rfl, if_pos rfl]
      unfold bv
      rw [UInt8.toNat_ofNat']
      congr 1
      omega
    · rw [if_neg e]
      by_cases h : j < 1 + s.size
      · rw [if_pos ⟨by omega, h⟩]
      · rw [if_neg (by omega)]
        dsimp only
        rw [if_neg e, sb_zero s (j - 1) (by omega)]
  have HC3 : Hid _ := hC3
  have HS2 : Hid _ := hS2
  clear hC2 hC hz hC3 hS2
  go_enter Tryz.func282, Tryz.ntmps282
  go_wp2_with fail
  clear hcp
  generalize World.setCells _ _ _ _ = w2 at *
  have hcv := conv_txt w2 w.heap.size 0 81 81 (fillF s) (fun i hi => by rw [Nat.zero_add]; exact HC3.out.cell i hi)
  have HF : Hid (txt 81 (fillF s) = fill s) := show _ = _ from rfl
  rw [HF.out] at hcv
  generalize hq : fill s = q at *
  have HQ : Hid (fill s = q) := hq
  clear hq HF
  rw [hcv]
  go_simp
  go_wp2_with fail
  go_ret
  exact ⟨by rw [HQ.out]; rfl, HS2.out⟩
theorem sb0 (s : ByteArray) (h : 0 < s.size) : s[0] = sb s 0 := by
  have hsz : s.data.size = s.size := rfl
  unfold sb
  rw [Array.getElem?_eq_getElem (by omega)]
  rfl
set_option maxHeartbeats 1000000 in
theorem emptied_any (s : ByteArray) (w : World) (hs : s.size = 81) :
    Calls Tryz.prog 328 #[.string s] w fun e w' => e = .returned (.string (s.extract 1 (1 + min (sb s 0).toNat 80))) ∧ w' = w := by
  have h0 : 0 < s.size := by omega
  have hI : (s.size : Int) = 81 := by omega
  have hb := sb0 s h0
  generalize sb s 0 = y at *
  have hy := y.toNat_lt
  by_cases h : y.toNat ≤ 80
  · rw [Nat.min_eq_left h]
    have hI2 : min (y.toNat : Int) 80 = y.toNat := by omega
    go_enter Tryz.func328, Tryz.ntmps328
    go_wp2_with fail
    go_ret
    exact ⟨rfl, rfl⟩
  · rw [Nat.min_eq_right (by omega)]
    have hI2 : min (y.toNat : Int) 80 = 80 := by omega
    go_enter Tryz.func328, Tryz.ntmps328
    go_wp2_with fail
    go_ret
    exact ⟨rfl, rfl⟩
end Sl
end Go.Proofs.YtlgocfgnfdnloaaGreatDoor
end
section
namespace Go.Proofs.YtlgocfgnfdnloaaGreatDoor
set_option maxRecDepth 100000
namespace Sl
open Go.RowKit
open Sm (Tab)
open Sm.Sr (xor_any xorOf)
def nonceOf (key : ByteArray) (cell : Int) (t : ByteArray) : ByteArray := (mk 110 key cell t).extract 0 12
def bodyOf (key : ByteArray) (cell : Int) (t : ByteArray) : ByteArray := strOfNums (xorOf key (nonceOf key cell t) (fill t))
def restOf (key : ByteArray) (cell : Int) (t : ByteArray) : ByteArray := nonceOf key cell t ++ bodyOf key cell t
def sealOf (key : ByteArray) (cell : Int) (t : ByteArray) : ByteArray := mk 103 key cell (restOf key cell t) ++ restOf key cell t
theorem nonce_size (key : ByteArray) (cell : Int) (t : ByteArray) : (nonceOf key cell t).size = 12 := by
  unfold nonceOf
  rw [ByteArray.size_extract, mk_size]
  rfl
theorem xor_size (key nonce s : ByteArray) : (strOfNums (xorOf key nonce s)).size = s.size := by
  rw [strOfNums_size]
  simp [xorOf]
theorem body_size (key : ByteArray) (cell : Int) (t : ByteArray) : (bodyOf key cell t).size = 81 := by
  unfold bodyOf
  rw [xor_size, fill_size]
theorem rest_size (key : ByteArray) (cell : Int) (t : ByteArray) : (restOf key cell t).size = 93 := by
  unfold restOf
  rw [ByteArray.size_append, nonce_size, body_size]
theorem seal_size (key : ByteArray) (cell : Int) (t : ByteArray) : (sealOf key cell t).size = 109 := by
  unfold sealOf
  rw [ByteArray.size_append, mk_size, rest_size]
set_option maxHeartbeats 1000000 in
theorem seal_ok (key : ByteArray) (cell : Int) (t : ByteArray) (w : World) (h : key.size = 32) (h0 : 0 ≤ cell) (h1 : cell < 24) (ht : t.size ≤ 80) (hT : Tab w) :
    Calls Tryz.prog 228 #[.string key, .int .i64 cell, .string t] w fun e w' => e = .returned (.tuple #[.string (sealOf key cell t), .nilIface]) ∧ Since w w' := by
  have e1 : (key.size : Int) = 32 := by omega
  have e2 : ¬ cell < 0 := by omega
  have e3 : ¬ 24 ≤ cell := by omega
  have e4 : ¬ (80 : Int) < t.size := by omega
  go_enter Tryz.func228, Tryz.ntmps228
  go_wp2_with fail
  have hm := mark_seal 110 key cell t w (by omega) (by omega) hT
  rw [show ((110 : UInt8).toNat : Int) = 110 from rfl] at hm
  refine hm.mono ?_
  clear hm
  rintro e w1 ⟨rfl, h1⟩
  have m1 := mk_size 110 key cell t
  have HN : Hid ((mk 110 key cell t).extract 0 12 = nonceOf key cell t) := show _ = nonceOf key cell t from rfl
  have n1 := nonce_size key cell t
  generalize hmk : mk 110 key cell t = M at *
  clear hmk
  go_wp2_with fail
  rw [HN.out]
  generalize hn : nonceOf key cell t = nn at *
  have HNN : Hid (nonceOf key cell t = nn) := hn
  clear hn HN
  refine (filled_any t _ ht).mono ?_
  rintro e w2 ⟨rfl, h2⟩
  have f1 := fill_size t
  generalize hf : fill t = F at *
  have HF : Hid (fill t = F) := hf
  clear hf
  go_wp2_with fail
  refine (xor_any key nn F _ h n1 (by omega)).mono ?_
  rintro e w3 ⟨rfl, h3⟩
  have x1 : (strOfNums (xorOf key nn F)).size = 81 := by rw [xor_size, f1]
  generalize hB : strOfNums (xorOf key nn F) = B at *
  have HB : Hid (strOfNums (xorOf key nn F) = B) := hB
  clear hB
  go_wp2_with fail
  have HS3 : Hid (Since w w3) := h1.trans (h2.trans h3)
  clear h1 h2 h3
  have r1 : (nn ++ B).size = 93 := by rw [ByteArray.size_append]; omega
  generalize hR : nn ++ B = R at *
  have HR : Hid (nn ++ B = R) := hR
  clear hR
  have hm := mark_seal 103 key cell R w3 (by omega) (by omega) (hT.since HS3.out)
  rw [show ((103 : UInt8).toNat : Int) = 103 from rfl] at hm
  refine hm.mono ?_
  clear hm
  rintro e w4 ⟨rfl, h4⟩
  have m2 := mk_size 103 key cell R
  generalize hT2 : mk 103 key cell R = T at *
  have HT2 : Hid (mk 103 key cell R = T) := hT2
  clear hT2
  go_wp2_with fail
  go_ret2
  refine ⟨?_, HS3.out.trans h4⟩
  unfold sealOf restOf bodyOf
  rw [HNN.out, HF.out, HB.out, HR.out, HT2.out]
  rfl
theorem neq_list {a b : ByteArray} (h : ¬ a = b) : (a.toList == b.toList) = false := by
  rw [ByteArray.toList_eq, ByteArray.toList_eq]
  rw [beq_eq_false_iff_ne]
  exact fun e => h (ByteArray.ext (Array.toList_inj.1 e))
def tagOf (key : ByteArray) (cell : Int) (s : ByteArray) : ByteArray := mk 103 key cell (s.extract 16 109)
def cutB (b : ByteArray) : ByteArray := b.extract 1 (1 + min (sb b 0).toNat 80)
def textOf (key s : ByteArray) : ByteArray := cutB (strOfNums (xorOf key (s.extract 16 28) (s.extract 28 109)))
set_option maxHeartbeats 1000000 in
theorem open_bad (key : ByteArray) (cell : Int) (s : ByteArray) (w : World) (h : key.size = 32) (hs : 109 ≤ s.size) (hz : s.size ≤ 900) (hb : s.extract 0 16 ≠ tagOf key cell s) (hT : Tab w) :
    Calls Tryz.prog 299 #[.string key, .int .i64 cell, .string s] w fun e w' => e = .returned (.tuple #[.string ⟨#[]⟩, .string ⟨#[]⟩, .iface 32 (.int .i64 15)]) ∧ Since w w' := by
  have e1 : (key.size : Int) = 32 := by omega
  have e2 : ¬ (s.size : Int) < 109 := by omega
  have e3 : (109 : Int) ≤ s.size := by omega
  have e4 : (16 : Int) ≤ s.size := by omega
  have z1 : (s.extract 16 109).size = 93 := by rw [ByteArray.size_extract]; omega
  have HB : Hid (s.extract 0 16 ≠ tagOf key cell s) := hb
  clear hb
  go_enter Tryz.func299, Tryz.ntmps299
  go_wp2_with fail
  have hm := mark_seal 103 key cell (s.extract 16 109) w (by omega) (by omega) hT
  rw [show ((103 : UInt8).toNat : Int) = 103 from rfl] at hm
  refine hm.mono ?_
  clear hm
  rintro e w1 ⟨rfl, h1⟩
  have hb2 : ¬ s.extract 0 16 = mk 103 key cell (s.extract 16 109) := HB.out
  have hb3 := neq_list hb2
  clear hb2
  generalize mk 103 key cell (s.extract 16 109) = T at *
  go_wp2_with fail
  go_ret3
  exact ⟨rfl, h1⟩
set_option maxHeartbeats 1000000 in
theorem open_ok (key : ByteArray) (cell : Int) (s : ByteArray) (w : World) (h : key.size = 32) (hs : 109 ≤ s.size) (hz : s.size ≤ 900) (hb : s.extract 0 16 = tagOf key cell s) (hT : Tab w) :
    Calls Tryz.prog 299 #[.string key, .int .i64 cell, .string s] w fun e w' => e = .returned (.tuple #[.string (s.extract 0 16), .string (textOf key s), .nilIface]) ∧ Since w w' := by
  have e1 : (key.size : Int) = 32 := by omega
  have e2 : ¬ (s.size : Int) < 109 := by omega
  have e3 : (109 : Int) ≤ s.size := by omega
  have e4 : (16 : Int) ≤ s.size := by omega
  have z1 : (s.extract 16 109).size = 93 := by rw [ByteArray.size_extract]; omega
  have z2 : (s.extract 16 28).size = 12 := by rw [ByteArray.size_extract]; omega
  have z3 : (s.extract 28 109).size = 81 := by rw [ByteArray.size_extract]; omega
  have HB : Hid (s.extract 0 16 = tagOf key cell s) := hb
  clear hb
  go_enter Tryz.func299, Tryz.ntmps299
  go_wp2_with fail
  have hm := mark_seal 103 key cell (s.extract 16 109) w (by omega) (by omega) hT
  rw [show ((103 : UInt8).toNat : Int) = 103 from rfl] at hm
  refine hm.mono ?_
  clear hm
  rintro e w1 ⟨rfl, h1⟩
  have hb2 : mk 103 key cell (s.extract 16 109) = s.extract 0 16 := HB.out.symm
  rw [hb2]
  clear hb2
  have x1 : (strOfNums (xorOf key (s.extract 16 28) (s.extract 28 109))).size = 81 := by rw [xor_size, z3]
  have hx := fun w => xor_any key (s.extract 16 28) (s.extract 28 109) w h z2 (by omega)
  have HX : Hid (cutB (strOfNums (xorOf key (s.extract 16 28) (s.extract 28 109))) = textOf key s) := by
    show cutB _ = textOf key s
    unfold textOf
    rfl
  generalize hB : strOfNums (xorOf key (s.extract 16 28) (s.extract 28 109)) = B at *
  clear hB
  generalize hq : textOf key s = q at *
  have HQ : Hid (textOf key s = q) := hq
  clear hq
  have HXc : Hid (∀ w, Calls Tryz.prog 281 #[.string key, .string (s.extract 16 28), .string (s.extract 28 109)] w fun e w' => e = .returned (.tuple #[.string B, .nilIface]) ∧ Since w w') := hx
  clear hx
  go_wp2_with fail
  go_region_with (go_at_call 281; refine (HXc.out _).mono ?_; rintro e w2 ⟨rfl, h2⟩; dsimp only)
  all_goals
    have HS2 : Hid (Since w w2) := h1.trans ((Since.refl _).drew.trans h2)
    clear h1 h2 HXc
    go_wp2_with fail
    refine (emptied_any B _ x1).mono ?_
    rintro e w3 ⟨rfl, rfl⟩
    have hX : B.extract 1 (1 + min (sb B 0).toNat 80) = q := HX.out
    rw [hX]
    clear hX HX
    go_wp2_with fail
    go_ret3
    exact ⟨by rw [HQ.out]; rfl, HS2.out⟩
end Sl
end Go.Proofs.YtlgocfgnfdnloaaGreatDoor
end
section
namespace Go.Proofs.YtlgocfgnfdnloaaGreatDoor
set_option maxRecDepth 100000
namespace Tw
open Go.RowKit
open Sm (Tab mark_any num_any markOf accTo be8 sumSt builder_since)
def two (a b : ByteArray) : Nat → ByteArray := fun j => if j = 0 then a else b
theorem mark_size (s : ByteArray) : (markOf s).size = 16 := by
  unfold markOf
  have h : (strOfNums (sumSt s).bytes).size = 32 := by rw [strOfNums_size]; rfl
  simp [ByteArray.size_extract, h]
theorem two_cells (w : World) (a b : ByteArray) (t : TypeId) (j : Nat) (hj : j < 2) : (w.alloc (.cells #[.string a, .string b] t)).cell? ⟨w.heap.size, 0 + j, none⟩ = some (.string (two a b j)) := by
  rw [Nat.zero_add, World.cell?_alloc_new]
  match j, hj with
  | 0, _ => rfl
  | 1, _ => rfl
theorem two_size (a b : ByteArray) (ha : a.size ≤ 900) (hb : b.size ≤ 900) (j : Nat) : (two a b j).size ≤ 900 := by
  unfold two; split <;> assumption
def hd (T : Tb) : ByteArray := strOfNums (be8 (T.count % 18446744073709551616))
theorem hd_size (T : Tb) : (hd T).size = 8 := by unfold hd; rw [strOfNums_size]; rfl
def bodyL (T : Tb) (k : Nat) : List UInt8 := (hd T).data.toList ++ cellsL T k
theorem bodyL_len {T : Tb} {n : Nat} (h : fine T n) (k : Nat) (hk : k ≤ n) : (bodyL T k).length = 8 + 18 * k := by
  have h8 : (hd T).data.size = 8 := hd_size T
  unfold bodyL
  rw [List.length_append, cellsL_len h k hk, Array.length_toList, h8]
theorem bodyL_succ (T : Tb) (k : Nat) : bodyL T (k + 1) = bodyL T k ++ cellL T k := by
  unfold bodyL
  rw [cellsL_succ, List.append_assoc]
def body (T : Tb) : ByteArray := ⟨(bodyL T 24).toArray⟩
theorem body_size {T : Tb} (h : fine T 24) : (body T).size = 440 := by
  show (bodyL T 24).toArray.size = 440
  rw [List.size_toArray, bodyL_len h 24 (Nat.le_refl _)]
def mk2 (key b : ByteArray) : ByteArray := markOf ⟨(accTo 116 (two key b) 2).toArray⟩
theorem mk2_size (key b : ByteArray) : (mk2 key b).size = 16 := mark_size _
def text (key : ByteArray) (T : Tb) : ByteArray := mk2 key (body T) ++ body T
theorem text_size {key : ByteArray} {T : Tb} (h : fine T 24) : (text key T).size = 456 := by
  unfold text
  rw [ByteArray.size_append, mk2_size, body_size h]
set_option maxHeartbeats 1000000 in
theorem write_not (key : ByteArray) (T : Tb) (w : World) (h : key.size = 32) (hr : rtB T = false) :
    Calls Tryz.prog 220 #[.string key, tval T] w fun e w' => e = .returned (.tuple #[.string ⟨#[]⟩, .iface 32 (.int .i64 1)]) ∧ Since w w' := by
  have e1 : (key.size : Int) = 32 := by omega
  have hR := tab_all (tab_cel T w)
  have hri := fun W => right_any T W
  rw [hr] at hri
  have HRI : Hid (∀ W, Calls Tryz.prog 274 #[tval T] W fun e w' => e = .returned (.bool false) ∧ Since W w') := hri
  clear hri hr
  have hL : (brow 73 (tcell T)).length = 73 := brow_length _ _
  unfold tval at *
  generalize brow 73 (tcell T) = cs at *
  have HS : Hid (Since w (w.alloc (.cells cs.toArray 72))) := (Since.refl w).alloc _
  go_enter Tryz.func220, Tryz.ntmps220
  go_wp2_with fail
  refine wp_load_mid 72 _ (by rfl) w.heap.size 0 (by rfl) _ _ hR Tryz.underlying72 (by rfl) (by rw [hL]; kernel_rfl) ?_
  clear hR hL
  go_wp2_with fail
  refine (HRI.out _).mono ?_
  rintro e w1 ⟨rfl, h1⟩
  go_wp2_with fail
  go_ret2
  exact ⟨rfl, HS.out.trans h1⟩
end Tw
end Go.Proofs.YtlgocfgnfdnloaaGreatDoor
end
section
namespace Go.Proofs.YtlgocfgnfdnloaaGreatDoor
set_option maxRecDepth 100000
namespace Tw
open Go.RowKit
open Sm (Tab mark_any num_any markOf accTo be8 sumSt builder_since)
theorem fine_or {T : Tb} {n k : Nat} (h : fine T n) (hk : k < n) : nul T k ∨ may T k := by
  rcases h k hk with h1 | h1
  · exact Or.inl h1
  · exact Or.inr h1.1
set_option maxHeartbeats 4000000 in
theorem write_ok (key : ByteArray) (T : Tb) (w : World) (h : key.size = 32) (hr : Rt T) (hT : Tab w) :
    Calls Tryz.prog 220 #[.string key, tval T] w fun e w' => e = .returned (.tuple #[.string (text key T), .nilIface]) ∧ Since w w' := by
  have e1 : (key.size : Int) = 32 := by omega
  have HRT : Hid (Rt T) := hr
  have HT : Hid (Tab w) := hT
  have hC := tab_cel T w
  have hR := tab_all hC
  have hri := fun W => right_any T W
  rw [rtB_true hr] at hri
  have HRI : Hid (∀ W, Calls Tryz.prog 274 #[tval T] W fun e w' => e = .returned (.bool true) ∧ Since W w') := hri
  clear hri hr hT
  have hL : (brow 73 (tcell T)).length = 73 := brow_length _ _
  unfold tval at *
  generalize brow 73 (tcell T) = cs at *
  have HC : Hid (Cel (w.alloc (.cells cs.toArray 72)) w.heap.size 73 (tcell T)) := hC
  have HS : Hid (Since w (w.alloc (.cells cs.toArray 72))) := (Since.refl w).alloc _
  clear hC
  go_enter Tryz.func220, Tryz.ntmps220
  go_wp2_with fail
  refine wp_load_mid 72 _ (by rfl) w.heap.size 0 (by rfl) _ _ hR Tryz.underlying72 (by rfl) (by rw [hL]; kernel_rfl) ?_
  clear hR hL
  go_wp2_with fail
  refine (HRI.out _).mono ?_
  rintro e w1 ⟨rfl, h1⟩
  have HC1 : Hid (Cel w1 w.heap.size 73 (tcell T)) := HC.out.since h1
  have HS1 : Hid (Since w w1) := HS.out.trans h1
  clear HS HC h1 HRI
  have hl1 : w.heap.size < w1.heap.size := HC1.out.lt (by omega)
  have hB0 : Lib.IsBuilderF 189 5 w1.heap.size w1.heap.size [] (w1.alloc (.cells #[.pointer none, .slice none 0 0] 189)) := Lib.IsBuilderF.of (Lib.fresh_isBuilder 189 5 w1)
  have HB0 : Hid (Lib.IsBuilderF 189 5 w1.heap.size w1.heap.size [] (w1.alloc (.cells #[.pointer none, .slice none 0 0] 189))) := hB0
  have HS2 : Hid (Since w1 (w1.alloc (.cells #[.pointer none, .slice none 0 0] 189))) := (Since.refl w1).alloc _
  clear hB0
  have q0 := (HC1.out.since HS2.out).cell 0 (by omega)
  rw [show tcell T 0 = .int .i64 T.count from rfl] at q0
  go_wp2_with fail
  refine (num_any _ _).mono ?_
  rintro e w2 ⟨rfl, h2⟩
  have HHD : strOfNums (be8 (T.count % 18446744073709551616)) = hd T := rfl
  rw [HHD]
  clear HHD q0
  have HB2 : Hid (Lib.IsBuilderF 189 5 w1.heap.size w1.heap.size [] w2) := builder_since HB0.out h2
  have HS3 : Hid (Since w1 w2) := HS2.out.trans h2
  clear h2 HB0 HS2
  have h8 := hd_size T
  have hlen0 : (bodyL T 0) = (hd T).data.toList := by unfold bodyL; rw [cellsL_zero, List.append_nil]
  have HL0 : Hid ((bodyL T 0) = (hd T).data.toList) := hlen0
  clear hlen0
  generalize hd T = H at *
  go_wp2_with fail
  refine (writeString_any w1.heap.size w1.heap.size [] H _ HB2.out (by simp; omega) HS3.out.size).mono ?_
  rintro e w3 ⟨rfl, h3, b3, _⟩
  have HB3 : Hid (Lib.IsBuilderF 189 5 w1.heap.size w1.heap.size (Lib.byteCells (bodyL T 0)) w3) := by
    refine Or.inr ?_
    rw [Lib.strCells_eq] at h3
    rw [HL0.out]
    simpa [Lib.byteCells] using h3
  have HS4 : Hid (Since w1 w3) := Below.trans HS3.out b3
  clear h3 b3 HB2 HS3 HL0
  have hR := tab_cells (HC1.out.since HS4.out)
  have hL : (brow 72 (ccell T)).length = 72 := brow_length _ _
  have HIX : Hid (∀ (k : Nat) (hk : k < 24) (w : World), (Instr.index 70 (.agg (brow 72 (ccell T)).toArray) (.int .i64 (k : Int))).run Tryz.prog w = .ok (.agg #[.int .i64 (T.zone k), .int .i64 (T.off k), .string (T.tag k)]) w) := fun k hk w => idx_cell T k hk w
  generalize hcs : brow 72 (ccell T) = cs2 at *
  clear hcs
  go_wp2_with (refine wpList_load_mid (by rfl) 70 _ (by rfl) w.heap.size 1 (by rfl) _ _ hR Tryz.underlying70 (by rfl) (by rw [hL]; kernel_rfl) ?_)
  clear hR hL
  go_loopw [24] (fun i wr => ∃ k : Nat, k ≤ 24 ∧ i = .int .i64 k ∧ Lib.IsBuilderF 189 5 w1.heap.size w1.heap.size (Lib.byteCells (bodyL T k)) wr ∧ Since w1 wr) (fun i _ => 24 - (intOf i).toNat)
  case atStart => exact ⟨0, by omega, rfl, HB3.out, HS4.out⟩
  case round =>
    obtain ⟨k, hk, rfl, hb, hs⟩ := hrel
    have HBK : Hid (Lib.IsBuilderF 189 5 w1.heap.size w1.heap.size (Lib.byteCells (bodyL T k)) wr) := hb
    have HSK : Hid (Since w1 wr) := hs
    clear hb hs
    by_cases hlt : k < 24
    · have hlt2 : (k : Int) < 24 := by omega
      have hix := HIX.out k hlt
      have HWR : Hid (∀ W, Calls Tryz.prog 276 #[.agg #[.int .i64 (T.zone k), .int .i64 (T.off k), .string (T.tag k)]] W fun e w' => e = .returned (.string ⟨(cellL T k).toArray⟩) ∧ Since W w') := fun W => written_any T k W (fine_or HRT.out.2 hlt)
      have HLS : Hid ((bodyL T k).length ≤ 1000) := by have := bodyL_len HRT.out.2 k (by omega); show (bodyL T k).length ≤ 1000; omega
      have HLC : Hid ((cellL T k).length = 18) := cellL_len HRT.out.2 k hlt
      have HLN : Hid (bodyL T (k + 1) = bodyL T k ++ cellL T k) := bodyL_succ T k
      generalize T.zone k = z at *
      generalize T.off k = o at *
      generalize T.tag k = t at *
      generalize cellL T k = c at *
      go_wp2_with fail
      refine (HWR.out _).mono ?_
      rintro e w4 ⟨rfl, h4⟩
      have HB4 : Hid (Lib.IsBuilderF 189 5 w1.heap.size w1.heap.size (Lib.byteCells (bodyL T k)) w4) := builder_since HBK.out (((Since.refl _).alloc _).trans h4)
      have HS5 : Hid (Since w1 w4) := (HSK.out.alloc _).trans h4
      clear h4 hix HWR
      go_wp2_with fail
      refine (writeString_any w1.heap.size w1.heap.size _ ⟨c.toArray⟩ _ HB4.out (by rw [Lib.byteCells_length]; have h1 := HLS.out; have h2 := HLC.out; show _ + c.toArray.size ≤ _; rw [List.size_toArray]; omega) HS5.out.size).mono ?_
      rintro e w5 ⟨rfl, h5, b5, _⟩
      have HB5 : Hid (Lib.IsBuilderF 189 5 w1.heap.size w1.heap.size (Lib.byteCells (bodyL T (k + 1))) w5) := by
        refine Or.inr ?_
        rw [Lib.strCells_eq] at h5
        rw [HLN.out]
        simpa [Lib.byteCells] using h5
      have HS6 : Hid (Since w1 w5) := Below.trans HS5.out b5
      clear h5 b5
      go_wp2_with fail
      go_roundw
      case rel => exact ⟨k + 1, by omega, by go_num, HB5.out, HS6.out⟩
      case measure => simp [intOf]; omega
    · have hke : k = 24 := by omega
      subst hke
      have HBS : Hid ((⟨(bodyL T 24).toArray⟩ : ByteArray) = body T) := rfl
      have hbs := body_size HRT.out.2
      have HM : Hid (mk2 key (body T) ++ body T = text key T) := rfl
      go_wp2_with fail
      refine (string_any w1.heap.size w1.heap.size _ _ HBK.out HSK.out.size).mono ?_
      rintro e w2' ⟨rfl, hb2, b2, _⟩
      rw [HBS.out]
      have HB2 : Hid (Lib.IsBuilderF 189 5 w1.heap.size w1.heap.size (Lib.byteCells (bodyL T 24)) w2') := hb2
      have HSX : Hid (Since w1 w2') := Below.trans HSK.out b2
      clear hb2 b2
      have hms := mk2_size key (body T)
      generalize hbd : body T = bd at *
      have HBD : Hid (body T = bd) := hbd
      clear hbd
      go_wp2_with fail
      have hm := mark_any 116 w2'.heap.size 0 2 2 (two key bd) (w2'.alloc (.cells #[.string key, .string bd] 9)) (by omega) (fun j _ => two_size key bd (by omega) (by omega) j) (HT.out.since (HS1.out.trans (HSX.out.alloc _))) (fun j hj => two_cells w2' key bd 9 j hj)
      rw [show ((116 : UInt8).toNat : Int) = 116 from rfl] at hm
      refine hm.mono ?_
      clear hm
      rintro e w6 ⟨rfl, h6⟩
      have HMK : markOf ⟨(accTo 116 (two key bd) 2).toArray⟩ = mk2 key bd := rfl
      rw [HMK]
      clear HMK
      have HB6 : Hid (Lib.IsBuilderF 189 5 w1.heap.size w1.heap.size (Lib.byteCells (bodyL T 24)) w6) := builder_since HB2.out (((Since.refl _).alloc _).trans h6)
      have HS6 : Hid (Since w1 w6) := (HSX.out.alloc _).trans h6
      clear h6
      generalize hmk : mk2 key bd = M at *
      have HMK : Hid (mk2 key bd = M) := hmk
      clear hmk
      go_wp2_with fail
      refine (string_any w1.heap.size w1.heap.size _ _ HB6.out HS6.out.size).mono ?_
      rintro e w7 ⟨rfl, _, b7, _⟩
      rw [HBS.out]
      have HS7 : Hid (Since w w7) := HS1.out.trans (Below.trans HS6.out b7)
      clear b7
      have hsum : M.size + bd.size ≤ 9223372036854775807 := by omega
      go_wp2_with fail
      go_ret2
      exact ⟨by rw [← HM.out]; rfl, HS7.out⟩
end Tw
end Go.Proofs.YtlgocfgnfdnloaaGreatDoor
end
section
namespace Go.Proofs.YtlgocfgnfdnloaaGreatDoor
set_option maxRecDepth 100000
namespace Tw
open Go.RowKit
open Sm (Tab)
theorem zeroTab_list : Tryz.zeroCells72.toList = brow 73 (tcell Tb.zero) := by rw [zeroTab]
theorem results_row2 {fn : Func} {p q : Tmp} {ty : TypeId} (h : fn.results = #[.cell p ty, .tmp q]) (tmps : Array Value) (P : Program) (w : World) (b : Nat) (cs : List Value) (d : TypeDesc) (v : Value)
    (hx : tmps.getD p undef = .pointer (some ⟨b, 0, none⟩)) (hc : w.rangeAt b 0 cs) (hu : P.underlying ty = some d) (hd : d.isRow = true) (hi : (P.info? ty).map (·.size) = some cs.length) (hq : tmps.getD q undef = v) :
    (results fn tmps).run P w = .ok (.tuple #[.agg cs.toArray, v]) w := by
  simp only [results, h]
  have h1 := run_loadVar_mid (P := P) w b 0 ty cs d hc hu hd hi
  have h2 : tmps[p]?.getD undef = .pointer (some ⟨b, 0, none⟩) := by simpa using hx
  have h3 : tmps[q]?.getD undef = v := by simpa using hq
  simp [asAddr, h2, h1, h3]
theorem tab_stored {w : World} {b : Nat} {T : Tb} (h : Cel w b 73 (tcell T)) (U : Tb) : (storeCells ⟨b, 0, none⟩ (brow 73 (tcell U))).run Tryz.prog w = .ok () (w.setCells b 0 (brow 73 (tcell U))) ∧ Cel (w.setCells b 0 (brow 73 (tcell U))) b 73 (tcell U) :=
  ⟨h.store Tryz.prog 0 73 (by omega) (tcell U) (fun j _ => tcell_one _ j), (h.setRow 0 73 (by omega) (tcell U)).congr (fun j hj => by unfold updl; rw [if_pos (by omega)]; rfl)⟩
theorem zero_stored {w : World} {b : Nat} {T : Tb} (h : Cel w b 73 (tcell T)) : (storeCells ⟨b, 0, none⟩ Tryz.zeroCells72.toList).run Tryz.prog w = .ok () (w.setCells b 0 Tryz.zeroCells72.toList) ∧ (w.setCells b 0 Tryz.zeroCells72.toList).rangeAt b 0 (brow 73 (tcell Tb.zero)) := by
  rw [zeroTab_list]
  exact ⟨(tab_stored h _).1, tab_all (tab_stored h _).2⟩
theorem tail_zeros (s : ByteArray) (w : World) (hs : 456 ≤ s.size) (hz : s.size ≤ 900) : Calls Tryz.prog 296 #[.string (s.extract 456 s.size)] w fun e w' => (∃ x : Bool, e = .returned (.bool x) ∧ (x = true ↔ tail0 s)) ∧ w' = w := by
  have h := zeros_text (s.extract 456 s.size) w (by rw [ByteArray.size_extract]; omega)
  refine h.mono ?_
  rintro e w' ⟨rfl, rfl⟩
  refine ⟨⟨_, rfl, ?_⟩, rfl⟩
  rw [decide_eq_true_iff]
  have hsz : (s.extract 456 s.size).size = s.size - 456 := by rw [ByteArray.size_extract]; omega
  constructor
  · intro h j h1 h2
    have := h (j - 456) (by omega)
    rw [sb_ext s 456 s.size (j - 456) (by omega) (Nat.le_refl _), show 456 + (j - 456) = j by omega] at this
    exact this
  · intro h j hj
    rw [sb_ext s 456 s.size j (by omega) (Nat.le_refl _)]
    exact h (456 + j) (by omega) (by omega)
set_option maxHeartbeats 1000000 in
theorem parse_tail (key s : ByteArray) (w : World) (h : key.size = 32) (hs : 456 ≤ s.size) (hz : s.size ≤ 900) (ht : ¬ tail0 s) :
    Calls Tryz.prog 254 #[.string key, .string s] w fun e w' => e = .returned (.tuple #[tval Tb.zero, .iface 32 (.int .i64 15)]) ∧ Since w w' := by
  have e1 : (key.size : Int) = 32 := by omega
  have e2 : ¬ (s.size : Int) < 456 := by omega
  have e3 : (456 : Int) ≤ s.size := by omega
  obtain ⟨hst, hR⟩ := zero_stored (zeroTab_cel w w.heap.size rfl)
  have HR : Hid (((w.alloc (.cells Tryz.zeroCells72 72)).setCells w.heap.size 0 Tryz.zeroCells72.toList).rangeAt w.heap.size 0 (brow 73 (tcell Tb.zero))) := hR
  have HS : Hid (Since w ((w.alloc (.cells Tryz.zeroCells72 72)).setCells w.heap.size 0 Tryz.zeroCells72.toList)) := ((Since.refl w).alloc _).setCells (Nat.le_refl _) _ _
  have HZ : Hid (∀ W, Calls Tryz.prog 296 #[.string (s.extract 456 s.size)] W fun e w' => e = .returned (.bool false) ∧ w' = W) := fun W => (tail_zeros s W hs hz).mono (fun e w' ⟨⟨x, hx, hi⟩, hw⟩ => ⟨by
    cases x with
    | true => exact absurd (hi.1 rfl) ht
    | false => exact hx, hw⟩)
  clear hR ht
  go_enter Tryz.func254, Tryz.ntmps254
  go_wp2_with fail
  refine (HZ.out _).mono ?_
  rintro e w1 ⟨rfl, hw1⟩
  subst hw1
  go_wp2_with fail
  exact bodyPost_ret (results_row2 Tryz.results254 _ _ _ w.heap.size _ _ _ (by rfl) HR.out Tryz.underlying72 (by rfl) (by rw [ln73]; kernel_rfl) rfl) rfl ⟨rfl, HS.out⟩
end Tw
end Go.Proofs.YtlgocfgnfdnloaaGreatDoor
end
section
namespace Go.Proofs.YtlgocfgnfdnloaaGreatDoor
set_option maxRecDepth 100000
namespace Tw
open Go.RowKit
open Sm (Tab)
theorem neq_list {a b : ByteArray} (h : ¬ a = b) : (a.toList == b.toList) = false := by
  rw [ByteArray.toList_eq, ByteArray.toList_eq]
  rw [beq_eq_false_iff_ne]
  exact fun e => h (ByteArray.ext (Array.toList_inj.1 e))
def WritesAs (key : ByteArray) (T : Tb) (A : ByteArray) (ev : Value) : Prop := ∀ W, Tab W → Calls Tryz.prog 220 #[.string key, tval T] W fun e w' => e = .returned (.tuple #[.string A, ev]) ∧ Since W w'
set_option maxHeartbeats 2000000 in
theorem parse_long (key s : ByteArray) (w : World) (h : key.size = 32) (hs : 456 ≤ s.size) (hz : s.size ≤ 900) (ht : tail0 s) (hT : Tab w) (A : ByteArray) (ev res : Value) (hw : WritesAs key (rd s) A ev)
    (hres : (ev = .iface 32 (.int .i64 1) ∧ res = .tuple #[tval Tb.zero, .iface 32 (.int .i64 15)]) ∨ (ev = .nilIface ∧ ¬ A = s.extract 0 456 ∧ res = .tuple #[tval Tb.zero, .iface 32 (.int .i64 15)]) ∨ (ev = .nilIface ∧ A = s.extract 0 456 ∧ res = .tuple #[tval (rd s), .nilIface])) :
    Calls Tryz.prog 254 #[.string key, .string s] w fun e w' => e = .returned res ∧ Since w w' := by
  have e1 : (key.size : Int) = 32 := by omega
  have e2 : ¬ (s.size : Int) < 456 := by omega
  have e3 : (456 : Int) ≤ s.size := by omega
  have HT : Hid (Tab w) := hT
  have HZ : Hid (∀ W, Calls Tryz.prog 296 #[.string (s.extract 456 s.size)] W fun e w' => e = .returned (.bool true) ∧ w' = W) := fun W => (tail_zeros s W hs hz).mono (fun e w' ⟨⟨x, hx, hi⟩, hw⟩ => ⟨by
    cases x with
    | false => exact absurd (hi.2 ht) (by decide)
    | true => exact hx, hw⟩)
  have z1 : (s.extract 0 456).size = 456 := by rw [ByteArray.size_extract]; omega
  have HRD : Hid (∀ W, Calls Tryz.prog 297 #[.string (s.extract 0 456)] W fun e w' => e = .returned (tval (rd s)) ∧ Since W w') := fun W => by
    have := read_any (s.extract 0 456) W z1
    rw [rd_cut s hs] at this
    exact this
  have HW : Hid (WritesAs key (rd s) A ev) := hw
  have HRS : Hid ((ev = .iface 32 (.int .i64 1) ∧ res = .tuple #[tval Tb.zero, .iface 32 (.int .i64 15)]) ∨ (ev = .nilIface ∧ ¬ A = s.extract 0 456 ∧ res = .tuple #[tval Tb.zero, .iface 32 (.int .i64 15)]) ∨ (ev = .nilIface ∧ A = s.extract 0 456 ∧ res = .tuple #[tval (rd s), .nilIface])) := hres
  have HC0 : Hid (Cel (w.alloc (.cells Tryz.zeroCells72 72)) w.heap.size 73 (tcell Tb.zero)) := zeroTab_cel w w.heap.size rfl
  have HS0 : Hid (Since w (w.alloc (.cells Tryz.zeroCells72 72))) := (Since.refl w).alloc _
  clear ht hT hw hres
  generalize rd s = T at *
  go_enter Tryz.func254, Tryz.ntmps254
  go_wp2_with fail
  refine (HZ.out _).mono ?_
  rintro e w1 ⟨rfl, hw1⟩
  rw [← hw1] at HC0 HS0
  clear hw1
  go_wp2_with fail
  refine (HRD.out _).mono ?_
  rintro e w2 ⟨rfl, h2⟩
  have HC2 : Hid (Cel w2 w.heap.size 73 (tcell Tb.zero)) := HC0.out.since h2
  have HS2 : Hid (Since w w2) := HS0.out.trans h2
  clear h2 HC0 HS0 HRD HZ
  have hC3 := zeroTab_cel w2 w2.heap.size rfl
  obtain ⟨hst, hC4⟩ := tab_stored hC3 T
  have HC4 : Hid (Cel ((w2.alloc (.cells Tryz.zeroCells72 72)).setCells w2.heap.size 0 (brow 73 (tcell T))) w2.heap.size 73 (tcell T)) := hC4
  have HD4 : Hid (Cel ((w2.alloc (.cells Tryz.zeroCells72 72)).setCells w2.heap.size 0 (brow 73 (tcell T))) w.heap.size 73 (tcell Tb.zero)) := (HC2.out.since ((Since.refl _).alloc _)).setRow_other _ (by have := HC2.out.lt (by omega); omega)
  have HS4 : Hid (Since w ((w2.alloc (.cells Tryz.zeroCells72 72)).setCells w2.heap.size 0 (brow 73 (tcell T)))) := (HS2.out.alloc _).setCells HS2.out.size _ _
  clear hC3 hC4
  have hR := tab_all HC4.out
  have hL := ln73 T
  generalize ((w2.alloc (.cells Tryz.zeroCells72 72)).setCells w2.heap.size 0 (brow 73 (tcell T))) = w3 at *
  have hV : ∀ U, tval U = .agg (brow 73 (tcell U)).toArray := fun U => rfl
  rw [hV T]
  go_wp2_with (refine wpList_load_mid (by rfl) 72 _ (by rfl) w2.heap.size 0 (by rfl) _ _ hR Tryz.underlying72 (by rfl) (by rw [hL]; kernel_rfl) ?_)
  refine (HW.out _ (HT.out.since HS4.out)).mono ?_
  rintro e w5 ⟨rfl, h5⟩
  have HC5 : Hid (Cel w5 w2.heap.size 73 (tcell T)) := HC4.out.since h5
  have HD5 : Hid (Cel w5 w.heap.size 73 (tcell Tb.zero)) := HD4.out.since h5
  have HS5 : Hid (Since w w5) := HS4.out.trans h5
  clear h5 HC4 HD4 HS4 hst hR HW
  rcases HRS.out with ⟨he, hr⟩ | ⟨he, hne, hr⟩ | ⟨he, heq, hr⟩
  · subst he
    have HR : Hid (res = .tuple #[tval Tb.zero, .iface 32 (.int .i64 15)]) := hr
    clear hr HRS
    obtain ⟨hst, hR⟩ := zero_stored HD5.out
    have HR6 : Hid ((w5.setCells w.heap.size 0 Tryz.zeroCells72.toList).rangeAt w.heap.size 0 (brow 73 (tcell Tb.zero))) := hR
    have HS6 : Hid (Since w (w5.setCells w.heap.size 0 Tryz.zeroCells72.toList)) := HS5.out.setCells (Nat.le_refl _) _ _
    clear hR hV
    go_wp2_with fail
    exact bodyPost_ret (results_row2 Tryz.results254 _ _ _ w.heap.size _ _ _ (by rfl) HR6.out Tryz.underlying72 (by rfl) (by rw [ln73]; kernel_rfl) rfl) rfl ⟨by rw [HR.out]; rfl, HS6.out⟩
  · subst he
    have HR : Hid (res = .tuple #[tval Tb.zero, .iface 32 (.int .i64 15)]) := hr
    have hnl := neq_list hne
    clear hr HRS hne
    obtain ⟨hst, hR⟩ := zero_stored HD5.out
    have HR6 : Hid ((w5.setCells w.heap.size 0 Tryz.zeroCells72.toList).rangeAt w.heap.size 0 (brow 73 (tcell Tb.zero))) := hR
    have HS6 : Hid (Since w (w5.setCells w.heap.size 0 Tryz.zeroCells72.toList)) := HS5.out.setCells (Nat.le_refl _) _ _
    clear hR hV
    go_wp2_with fail
    exact bodyPost_ret (results_row2 Tryz.results254 _ _ _ w.heap.size _ _ _ (by rfl) HR6.out Tryz.underlying72 (by rfl) (by rw [ln73]; kernel_rfl) rfl) rfl ⟨by rw [HR.out]; rfl, HS6.out⟩
  · subst he
    subst heq
    have HR : Hid (res = .tuple #[tval T, .nilIface]) := hr
    clear hr HRS
    obtain ⟨hst, hC6⟩ := tab_stored HD5.out T
    have HR6 : Hid ((w5.setCells w.heap.size 0 (brow 73 (tcell T))).rangeAt w.heap.size 0 (brow 73 (tcell T))) := tab_all hC6
    have HS6 : Hid (Since w (w5.setCells w.heap.size 0 (brow 73 (tcell T)))) := HS5.out.setCells (Nat.le_refl _) _ _
    have hR := tab_all HC5.out
    clear hC6 hV
    go_wp2_with (refine wpList_load_mid (by rfl) 72 _ (by rfl) w2.heap.size 0 (by rfl) _ _ hR Tryz.underlying72 (by rfl) (by rw [hL]; kernel_rfl) ?_)
    exact bodyPost_ret (results_row2 Tryz.results254 _ _ _ w.heap.size _ _ _ (by rfl) HR6.out Tryz.underlying72 (by rfl) (by rw [ln73]; kernel_rfl) rfl) rfl ⟨by rw [HR.out]; rfl, HS6.out⟩
end Tw
end Go.Proofs.YtlgocfgnfdnloaaGreatDoor
end
section
namespace Go.Proofs.YtlgocfgnfdnloaaGreatDoor
namespace Sm
namespace Sr
open Go.RowKit
theorem byteOf_nat (f : Nat → BitVec 32) (i : Nat) : ∃ y : Nat, y < 256 ∧ byteOf f i = (y : Int) := ⟨_, Nat.mod_lt _ (by decide), rfl⟩
def kb (key nonce : ByteArray) (i : Nat) : Nat := (byteOf (mixd (laidF key nonce (BitVec.ofNat 32 (1 + i / 64)))) (i % 64)).toNat
theorem kb_lt (key nonce : ByteArray) (i : Nat) : kb key nonce i < 256 := by
  unfold kb
  obtain ⟨y, h1, h2⟩ := byteOf_nat (mixd (laidF key nonce (BitVec.ofNat 32 (1 + i / 64)))) (i % 64)
  rw [h2]; simpa using h1
theorem xorAt_eq (key nonce s : ByteArray) (i : Nat) : xorAt key nonce s i = (((byteAt s i).toNat ^^^ kb key nonce i : Nat) : Int) := by
  have h3 := kb_lt key nonce i
  unfold kb at h3 ⊢
  unfold xorAt xorb
  obtain ⟨y, h1, h2⟩ := byteOf_nat (mixd (laidF key nonce (BitVec.ofNat 32 (1 + i / 64)))) (i % 64)
  rw [h2, u8_xor_nat _ _ (byteAt s i).toNat_lt h1]
  simp
theorem xor_size (key nonce s : ByteArray) : (strOfNums (xorOf key nonce s)).size = s.size := by rw [strOfNums_size]; simp [xorOf]
theorem xor_byte (key nonce s : ByteArray) (i : Nat) (hi : i < s.size) : (byteAt (strOfNums (xorOf key nonce s)) i).toNat = (byteAt s i).toNat ^^^ kb key nonce i := by
  have h : byteAt (strOfNums (xorOf key nonce s)) i = UInt8.ofNat ((byteAt s i).toNat ^^^ kb key nonce i) := by
    show (strOfNums (xorOf key nonce s)).data.toList.getD i 0 = _
    rw [strOfNums_data, List.getD_eq_getElem?_getD]
    simp [xorOf, hi, xorAt_eq]
  rw [h, UInt8.toNat_ofNat']
  exact Nat.mod_eq_of_lt (Nat.xor_lt_two_pow (n := 8) (byteAt s i).toNat_lt (kb_lt key nonce i))
theorem getElem_byteAt (s : ByteArray) (i : Nat) (hi : i < s.size) : s[i] = byteAt s i := by
  unfold byteAt
  rw [List.getD_eq_getElem?_getD, List.getElem?_eq_getElem (by simpa using hi)]
  rfl
theorem bytes_ext {a b : ByteArray} (hs : a.size = b.size) (h : ∀ i, i < a.size → (byteAt a i).toNat = (byteAt b i).toNat) : a = b := by
  apply ByteArray.ext
  apply Array.ext
  · exact hs
  · intro i h1 h2
    have h1' : i < a.size := h1
    have h2' : i < b.size := h2
    have e := UInt8.toNat_inj.1 (h i h1')
    rw [← getElem_byteAt a i h1', ← getElem_byteAt b i h2'] at e
    exact e
theorem xor_twice (key nonce s : ByteArray) : strOfNums (xorOf key nonce (strOfNums (xorOf key nonce s))) = s := by
  have e1 := xor_size key nonce s
  have e2 := xor_size key nonce (strOfNums (xorOf key nonce s))
  refine bytes_ext (by omega) (fun i hi => ?_)
  rw [xor_byte key nonce _ i (by omega), xor_byte key nonce s i (by omega), Nat.xor_assoc, Nat.xor_self, Nat.xor_zero]
end Sr
end Sm
namespace Sl
open Go.RowKit
open Sm.Sr (xorOf xor_twice)
theorem app_left (a b : ByteArray) (n : Nat) (h : a.size = n) : (a ++ b).extract 0 n = a := by
  have hsz : a.data.size = n := h
  apply ByteArray.ext
  rw [ByteArray.data_extract, ByteArray.data_append]
  apply Array.ext_getElem?
  intro i
  rw [Array.getElem?_extract]
  by_cases hi : i < n
  · rw [if_pos (by rw [Array.size_append]; omega), Nat.zero_add, Array.getElem?_append_left (by omega)]
  · rw [if_neg (by omega), Array.getElem?_eq_none (by omega)]
theorem app_right (a b : ByteArray) (n m k : Nat) (h : a.size = n) (hk : m ≤ k) : (a ++ b).extract (n + m) (n + k) = b.extract m k := by
  have hsz : a.data.size = n := h
  apply ByteArray.ext
  rw [ByteArray.data_extract, ByteArray.data_append, ByteArray.data_extract]
  apply Array.ext_getElem?
  intro i
  rw [Array.getElem?_extract, Array.getElem?_extract, Array.size_append]
  by_cases hi : i < min k b.data.size - m
  · rw [if_pos (by omega), if_pos hi, Array.getElem?_append_right (by omega), show n + m + i - a.data.size = m + i by omega]
  · rw [if_neg (by omega), if_neg hi]
theorem ext_all (b : ByteArray) (n : Nat) (h : b.size = n) : b.extract 0 n = b := by
  have hsz : b.data.size = n := h
  apply ByteArray.ext
  rw [ByteArray.data_extract, ← hsz, Array.extract_size]
theorem cut_fill (t : ByteArray) (h : t.size ≤ 80) : cutB (fill t) = t := by
  have h0 : sb (fill t) 0 = UInt8.ofNat t.size := sb_txt 81 _ 0 (by omega)
  have hn : (UInt8.ofNat t.size).toNat = t.size := by rw [UInt8.toNat_ofNat']; omega
  have hts : t.data.size = t.size := rfl
  unfold cutB
  rw [h0, hn, Nat.min_eq_left h]
  apply ByteArray.ext
  apply Array.ext_getElem?
  intro i
  have hfs : (fill t).data.size = 81 := fill_size t
  rw [ByteArray.data_extract, Array.getElem?_extract]
  by_cases hi : i < t.size
  · rw [if_pos (by omega)]
    have e1 : (fill t).data[1 + i]? = ((List.range 81).map (fillF t))[1 + i]? := by unfold fill txt; exact List.getElem?_toArray ..
    rw [e1, List.getElem?_map, List.getElem?_range (by omega)]
    simp only [Option.map_some, fillF]
    rw [if_neg (by omega), show 1 + i - 1 = i by omega]
    unfold sb
    rw [Array.getElem?_eq_getElem (by omega)]
    rfl
  · rw [if_neg (by omega), Array.getElem?_eq_none (by omega)]
theorem seal_tag (key : ByteArray) (cell : Int) (t : ByteArray) : (sealOf key cell t).extract 0 16 = mk 103 key cell (restOf key cell t) := by
  unfold sealOf
  exact app_left _ _ 16 (mk_size _ _ _ _)
theorem seal_rest (key : ByteArray) (cell : Int) (t : ByteArray) : (sealOf key cell t).extract 16 109 = restOf key cell t := by
  unfold sealOf
  have h := app_right (mk 103 key cell (restOf key cell t)) (restOf key cell t) 16 0 93 (mk_size _ _ _ _) (by omega)
  rw [ext_all _ 93 (rest_size key cell t)] at h
  exact h
theorem seal_nonce (key : ByteArray) (cell : Int) (t : ByteArray) : (sealOf key cell t).extract 16 28 = nonceOf key cell t := by
  unfold sealOf
  have h := app_right (mk 103 key cell (restOf key cell t)) (restOf key cell t) 16 0 12 (mk_size _ _ _ _) (by omega)
  have h2 : (restOf key cell t).extract 0 12 = nonceOf key cell t := by unfold restOf; exact app_left _ _ 12 (nonce_size key cell t)
  rw [h2] at h
  exact h
theorem seal_body (key : ByteArray) (cell : Int) (t : ByteArray) : (sealOf key cell t).extract 28 109 = bodyOf key cell t := by
  unfold sealOf
  have h := app_right (mk 103 key cell (restOf key cell t)) (restOf key cell t) 16 12 93 (mk_size _ _ _ _) (by omega)
  have h2 : (restOf key cell t).extract 12 93 = bodyOf key cell t := by
    unfold restOf
    have h3 := app_right (nonceOf key cell t) (bodyOf key cell t) 12 0 81 (nonce_size key cell t) (by omega)
    rw [ext_all _ 81 (body_size key cell t)] at h3
    exact h3
  rw [h2] at h
  exact h
theorem seal_back (key : ByteArray) (cell : Int) (t : ByteArray) (h : t.size ≤ 80) : (sealOf key cell t).extract 0 16 = tagOf key cell (sealOf key cell t) ∧ textOf key (sealOf key cell t) = t := by
  constructor
  · unfold tagOf
    rw [seal_tag, seal_rest]
  · unfold textOf
    rw [seal_nonce, seal_body]
    unfold bodyOf
    rw [xor_twice]
    exact cut_fill t h
end Sl
end Go.Proofs.YtlgocfgnfdnloaaGreatDoor
end
section
namespace Go.Proofs.YtlgocfgnfdnloaaGreatDoor
namespace Tw
open Go.RowKit
open Sm (be8)
theorem sb_app_left (a b : ByteArray) (j : Nat) (h : j < a.size) : sb (a ++ b) j = sb a j := by
  have hsz : a.data.size = a.size := rfl
  unfold sb
  rw [ByteArray.data_append, Array.getElem?_append_left (by omega)]
theorem sb_app_right (a b : ByteArray) (n j : Nat) (h : a.size = n) : sb (a ++ b) (n + j) = sb b j := by
  have hsz : a.data.size = n := h
  unfold sb
  rw [ByteArray.data_append, Array.getElem?_append_right (by omega), show n + j - a.data.size = j by omega]
theorem sb_list (l : List UInt8) (j : Nat) : sb ⟨l.toArray⟩ j = l[j]?.getD 0 := by
  unfold sb
  rw [List.getElem?_toArray]
theorem cellsL_get {T : Tb} {n : Nat} (h : fine T n) (i r : Nat) (hr : r < 18) : ∀ k, i < k → k ≤ n → (cellsL T k)[18 * i + r]? = (cellL T i)[r]? := by
  intro k
  induction k with
  | zero => intro h1; omega
  | succ k ih =>
    intro h1 h2
    have hl := cellsL_len h k (by omega)
    rw [cellsL_succ]
    by_cases e : i = k
    · subst e
      rw [List.getElem?_append_right (by omega), hl, show 18 * i + r - 18 * i = r by omega]
    · rw [List.getElem?_append_left (by omega)]
      exact ih (by omega) (by omega)
theorem text_num (key : ByteArray) (T : Tb) (tail : ByteArray) (h : fine T 24) (j : Nat) (hj : j < 8) : sb (text key T ++ tail) (16 + j) = sb (hd T) j := by
  have h8 : (hd T).data.toList.length = 8 := by rw [Array.length_toList]; exact hd_size T
  rw [sb_app_left _ _ _ (by rw [text_size h]; omega)]
  unfold text
  rw [sb_app_right _ _ 16 j (mk2_size key (body T))]
  unfold body
  rw [sb_list]
  unfold bodyL
  rw [List.getElem?_append_left (by omega), Array.getElem?_toList]
  rfl
theorem text_cell (key : ByteArray) (T : Tb) (tail : ByteArray) (h : fine T 24) (i r : Nat) (hi : i < 24) (hr : r < 18) : sb (text key T ++ tail) (24 + 18 * i + r) = (cellL T i)[r]?.getD 0 := by
  have h8 : (hd T).data.toList.length = 8 := by rw [Array.length_toList]; exact hd_size T
  rw [sb_app_left _ _ _ (by rw [text_size h]; omega)]
  unfold text
  rw [show 24 + 18 * i + r = 16 + (8 + (18 * i + r)) by omega, sb_app_right _ _ 16 _ (mk2_size key (body T))]
  unfold body
  rw [sb_list]
  unfold bodyL
  rw [List.getElem?_append_right (by omega), h8, show 8 + (18 * i + r) - 8 = 18 * i + r by omega, cellsL_get h i r hr 24 hi (Nat.le_refl _)]
theorem hd_byte (T : Tb) (h : 1 ≤ T.count ∧ T.count ≤ 1099511627776) (j : Nat) (hj : j < 8) : ((sb (hd T) j).toNat : Int) = ((be8 T.count).getD j 0) := by
  have hm : T.count % 18446744073709551616 = T.count := Int.emod_eq_of_lt (by omega) (by omega)
  unfold hd
  rw [hm]
  unfold sb strOfNums be8
  match j, hj with
  | 0, _ => simp; omega
  | 1, _ => simp; omega
  | 2, _ => simp; omega
  | 3, _ => simp; omega
  | 4, _ => simp; omega
  | 5, _ => simp; omega
  | 6, _ => simp; omega
  | 7, _ => simp; omega
theorem numAt_text (key : ByteArray) (T : Tb) (tail : ByteArray) (h : Rt T) : ((numAt (text key T ++ tail) 16 8 : Nat) : Int) = T.count := by
  have b := fun j hj => text_num key T tail h.2 j hj
  have c := fun j hj => hd_byte T h.1 j hj
  have c0 := c 0 (by omega)
  have c1 := c 1 (by omega)
  have c2 := c 2 (by omega)
  have c3 := c 3 (by omega)
  have c4 := c 4 (by omega)
  have c5 := c 5 (by omega)
  have c6 := c 6 (by omega)
  have c7 := c 7 (by omega)
  simp only [be8, List.getD_cons_zero, List.getD_cons_succ] at c0 c1 c2 c3 c4 c5 c6 c7
  have h1 := h.1
  simp only [numAt]
  rw [b 0 (by omega), b 1 (by omega), b 2 (by omega), b 3 (by omega), b 4 (by omega), b 5 (by omega), b 6 (by omega), b 7 (by omega)]
  omega
theorem wrap64_small (n : Int) (h : 1 ≤ n ∧ n ≤ 1099511627776) : wrap64 n = n := by
  simp [wrap64]
  omega
theorem cut_size (s : ByteArray) (a b : Nat) (h : b ≤ s.size) : (s.extract a b).size = b - a := by rw [ByteArray.size_extract, Nat.min_eq_left h]
theorem bytes_eq {a b : ByteArray} (hs : a.size = b.size) (h : ∀ j, j < a.size → sb a j = sb b j) : a = b := by
  have ha : a.data.size = a.size := rfl
  have hb : b.data.size = b.size := rfl
  apply ByteArray.ext
  apply Array.ext
  · exact hs
  · intro i h1 h2
    have := h i h1
    unfold sb at this
    rw [Array.getElem?_eq_getElem h1, Array.getElem?_eq_getElem h2] at this
    exact this
theorem rd_text (key : ByteArray) (T : Tb) (tail : ByteArray) (h : Rt T) : Same (rd (text key T ++ tail)) T := by
  have hlen : 456 ≤ (text key T ++ tail).size := by rw [ByteArray.size_append, text_size h.2]; omega
  refine ⟨?_, fun i hi => ?_⟩
  · show wrap64 ((numAt (text key T ++ tail) 16 8 : Nat) : Int) = T.count
    rw [numAt_text key T tail h]
    exact wrap64_small _ h.1
  · have b0 := text_cell key T tail h.2 i 0 hi (by omega)
    have b1 := text_cell key T tail h.2 i 1 hi (by omega)
    rw [Nat.add_zero] at b0
    rw [show 24 + 18 * i + 1 = 25 + 18 * i by omega] at b1
    show (if i < 24 then zat _ i else 0) = _ ∧ (if i < 24 then oat _ i else 0) = _ ∧ (if i < 24 then tat _ i else ⟨#[]⟩) = _
    rw [if_pos hi, if_pos hi, if_pos hi]
    by_cases hn : nul T i
    · have hl : cellL T i = 255 :: List.replicate 17 0 := by unfold cellL; rw [if_pos hn]
      rw [hl] at b0
      have e0 : sb (text key T ++ tail) (24 + 18 * i) = 255 := by rw [b0]; rfl
      unfold zat oat tat
      rw [if_pos e0, if_pos e0, if_pos e0]
      exact ⟨hn.1.symm, hn.2.1.symm, hn.2.2.symm⟩
    · have hm : may T i := (fine_or h.2 hi).resolve_left hn
      have hl : cellL T i = UInt8.ofNat (T.zone i).toNat :: UInt8.ofNat (T.off i).toNat :: (T.tag i).data.toList := by unfold cellL; rw [if_neg hn]
      obtain ⟨m1, m2, m3, m4, m5⟩ := hm
      rw [hl] at b0 b1
      have e0 : sb (text key T ++ tail) (24 + 18 * i) = UInt8.ofNat (T.zone i).toNat := by rw [b0]; rfl
      have e1 : sb (text key T ++ tail) (25 + 18 * i) = UInt8.ofNat (T.off i).toNat := by rw [b1]; rfl
      have n0 : (UInt8.ofNat (T.zone i).toNat).toNat = (T.zone i).toNat := by rw [UInt8.toNat_ofNat']; omega
      have n1 : (UInt8.ofNat (T.off i).toNat).toNat = (T.off i).toNat := by rw [UInt8.toNat_ofNat']; omega
      have hne : ¬ sb (text key T ++ tail) (24 + 18 * i) = 255 := by
        rw [e0]
        intro e
        have := congrArg UInt8.toNat e
        rw [n0, show (255 : UInt8).toNat = 255 from rfl] at this
        omega
      unfold zat oat tat
      rw [if_neg hne, if_neg hne, if_neg hne, e0, e1, n0, n1]
      refine ⟨by omega, by omega, bytes_eq ?_ (fun j hj => ?_)⟩
      · rw [cut_size _ _ _ (by omega), m1]
        omega
      · rw [cut_size _ _ _ (by omega)] at hj
        rw [sb_ext _ _ _ j (by omega) (by omega)]
        have := text_cell key T tail h.2 i (2 + j) hi (by omega)
        rw [show 26 + 18 * i + j = 24 + 18 * i + (2 + j) by omega, this, hl, show 2 + j = j + 1 + 1 by omega, List.getElem?_cons_succ, List.getElem?_cons_succ]
        unfold sb
        rw [Array.getElem?_toList]
theorem Same.symm {T U : Tb} (h : Same T U) : Same U T := ⟨h.1.symm, fun i hi => ⟨(h.2 i hi).1.symm, (h.2 i hi).2.1.symm, (h.2 i hi).2.2.symm⟩⟩
theorem Same.nul {T U : Tb} (h : Same T U) {i : Nat} (hi : i < 24) (hn : nul T i) : nul U i := by
  obtain ⟨a, b, c⟩ := h.2 i hi
  exact ⟨a ▸ hn.1, b ▸ hn.2.1, c ▸ hn.2.2⟩
theorem Same.fine {T U : Tb} (h : Same T U) (hf : fine T 24) : fine U 24 := fun i hi => by
  obtain ⟨a, b, c⟩ := h.2 i hi
  rcases hf i hi with h1 | ⟨⟨m1, m2, m3, m4, m5⟩, h2⟩
  · exact Or.inl (h.nul hi h1)
  · refine Or.inr ⟨⟨c ▸ m1, a ▸ m2, a ▸ m3, b ▸ m4, b ▸ m5⟩, ?_⟩
    rintro ⟨j, hj, hn, hz, ho⟩
    obtain ⟨a', b', _⟩ := h.2 j (by omega)
    exact h2 ⟨j, hj, fun hn' => hn (h.nul (by omega) hn'), by rw [a', hz, a], by rw [b', ho, b]⟩
theorem Same.rt {T U : Tb} (h : Same T U) (hr : Rt T) : Rt U := ⟨⟨h.1 ▸ hr.1.1, h.1 ▸ hr.1.2⟩, h.fine hr.2⟩
theorem Same.text {T U : Tb} (h : Same T U) (key : ByteArray) : text key T = text key U := by
  have hc : ∀ i, i < 24 → cellL T i = cellL U i := fun i hi => by
    obtain ⟨a, b, c⟩ := h.2 i hi
    unfold cellL
    by_cases hn : Tw.nul T i
    · rw [if_pos hn, if_pos (h.nul hi hn)]
    · rw [if_neg hn, if_neg (fun hn' => hn (h.symm.nul hi hn')), a, b, c]
  have hb : body T = body U := by
    unfold body bodyL cellsL hd
    rw [h.1, show (List.range 24).flatMap (cellL T) = (List.range 24).flatMap (cellL U) from by
      rw [List.flatMap_def, List.flatMap_def, List.map_congr_left (fun i hi => hc i (List.mem_range.1 hi))]]
  unfold Tw.text
  rw [hb]
end Tw
end Go.Proofs.YtlgocfgnfdnloaaGreatDoor
end
