/- Lay. -/
import Derived.Test.YtjfhggcjdckfgaaDoorR1
namespace Go.Proofs.YtjfhggcjdckfgaaDoor
set_option linter.unusedSimpArgs false
set_option linter.unusedVariables false
open Go.RowKit

/-- the first k zones are an image's -/
def Dv.layTo (D : Dv) (n : Nat → Nat) (l : Nat → Nat → ByteArray) (k : Nat) : Dv :=
  { D with blk := fun z => if z < k then laidBlk (l z) (min (n z) 16) else D.blk z, cnt := fun z => if z < k then min (n z) 16 else D.cnt z, sure := fun z => if z < k then min (n z) 16 else D.sure z }
theorem layTo_zero (D : Dv) (n : Nat → Nat) (l : Nat → Nat → ByteArray) : D.layTo n l 0 = D := rfl
theorem layTo_ok (D : Dv) (n : Nat → Nat) (l : Nat → Nat → ByteArray) (k : Nat) (h : D.ok) : (D.layTo n l k).ok where
  cnt z hz := by
    show (if z < k then _ else _) ≤ 16
    split
    · omega
    · exact h.cnt z hz
  sure z hz := by
    show (if z < k then _ else _) ≤ (if z < k then _ else _)
    split
    · exact Nat.le_refl _
    · exact h.sure z hz
  zero z j i hz hk hk2 hi := by
    show (if z < k then laidBlk (l z) (min (n z) 16) else D.blk z) j i = 0
    have hk' : (if z < k then min (n z) 16 else D.cnt z) ≤ j := hk
    by_cases e : z < k
    · rw [if_pos e] at hk' ⊢
      unfold laidBlk
      rw [if_neg (by omega)]
    · rw [if_neg e] at hk' ⊢
      exact h.zero z j i hz hk' hk2 hi
  left := h.left
  ws := h.ws
  few := h.few
set_option maxRecDepth 100000 in
theorem layTo_dev (D : Dv) (v : Value) (b k : Nat) (n : Nat → Nat) (l : Nat → Nat → ByteArray) (w : World) (hd : Dev w b (D.layTo n l k) v) (hok : D.ok) (hk : k < 8) : Dev (w.setCells b (k * 2050) (brow 2050 (scell (laidBlk (l k) (min (n k) 16)) (min (n k) 16) (min (n k) 16)))) b (D.layTo n l (k + 1)) v := by
  refine hd.turn ((hd.cel.setRow (k * 2050) 2050 (by omega) _).congr (fun j hj => ?_)) (Fr.setCells _ _ _ _ _) rfl (layTo_ok D n l (k + 1) hok)
  have hne : ∀ {α : Type} (z' : Nat) (x y : α), z' ≠ k → (if z' < k + 1 then x else y) = if z' < k then x else y := fun z' x y h => by
    by_cases h1 : z' < k
    · rw [if_pos h1, if_pos (by omega)]
    · rw [if_neg h1, if_neg (by omega)]
  refine dcell_turn (D.layTo n l k) (D.layTo n l (k + 1)) v k hk _ (fun j hj => ?_) (fun j hj => ?_) (fun z' h => ?_) (fun z' h => ?_) (fun z' h => ?_) rfl rfl rfl j
  · unfold updl
    rw [if_pos (by omega), show k * 2050 + j - k * 2050 = j by omega]
    have e1 : (D.layTo n l (k + 1)).blk k = laidBlk (l k) (min (n k) 16) := by show (if k < k + 1 then _ else _) = _; rw [if_pos (by omega)]
    have e2 : (D.layTo n l (k + 1)).cnt k = min (n k) 16 := by show (if k < k + 1 then _ else _) = _; rw [if_pos (by omega)]
    have e3 : (D.layTo n l (k + 1)).sure k = min (n k) 16 := by show (if k < k + 1 then _ else _) = _; rw [if_pos (by omega)]
    rw [e1, e2, e3]
  · unfold updl
    rw [if_neg (by omega)]
  · exact hne z' _ _ h
  · exact hne z' _ _ h
  · exact hne z' _ _ h
/-- all is an image's -/
def Dv.laidBy (D : Dv) (n : Nat → Nat) (l : Nat → Nat → ByteArray) (s0 s1 : ByteArray) : Dv := (((D.layTo n l 8).slotTo 0 (sb s0)).slotTo 1 (sb s1)).none

theorem part_any (t : TypeId) (xs : Array Value) (i : Nat) (x : Value) (w : World) (ha : (isAgg t).run Tryd.prog w = .ok false w) (h : xs[i]? = some x) : (part t xs i).run Tryd.prog w = .ok x w := by
  simp [part, h, ha, Result.andThen]
theorem idx_azs (iv : Nat → Value) (k : Nat) (hk : k < 8) (w : World) : (Instr.index 42 (.agg (brow 8 iv).toArray) (.int .i64 (k : Int))).run Tryd.prog w = .ok (iv k) w := by
  have hp := part_any 22 (brow 8 iv).toArray k (iv k) w (Tryd.isAgg22 w) (by rw [List.getElem?_toArray]; exact brow_get _ _ _ hk)
  have hz : (Go.sizeOf 22).run Tryd.prog w = .ok 1 w := Tryd.sizeOf22 w
  have h2 : (0 : Int) ≤ k ∧ (k : Int) < 8 := by omega
  simp [Instr.index, go_sem, run_underlying Tryd.underlying42, hz, hk, brow_get 8 iv k hk, Result.andThen]
theorem idx_ass (sv : Nat → Value) (k : Nat) (hk : k < 2) (w : World) : (Instr.index 43 (.agg (brow 2 sv).toArray) (.int .i64 (k : Int))).run Tryd.prog w = .ok (sv k) w := by
  have hp := part_any 9 (brow 2 sv).toArray k (sv k) w (Tryd.isAgg9 w) (by rw [List.getElem?_toArray]; exact brow_get _ _ _ hk)
  have hz : (Go.sizeOf 9).run Tryd.prog w = .ok 1 w := Tryd.sizeOf9 w
  have h2 : (0 : Int) ≤ k ∧ (k : Int) < 2 := by omega
  simp [Instr.index, go_sem, run_underlying Tryd.underlying43, hz, hk, brow_get 2 sv k hk, Result.andThen]
/-- an image's value: its zones are lists -/
structure Img (w : World) (b : Nat) (iv : Nat → Value) (n : Nat → Nat) (l : Nat → Nat → ByteArray) : Prop where
  row : ∀ z, z < 8 → ∃ a c, iv z = .slice a (n z) c ∧ n z ≤ c ∧ (0 < n z → ∃ k o, a = some ⟨k, o, none⟩ ∧ k ≠ b ∧ ∀ j, j < n z → w.cell? ⟨k, o + j, none⟩ = some (.string (l z j)))
theorem Img.fr {w w' : World} {b : Nat} {iv : Nat → Value} {n : Nat → Nat} {l : Nat → Nat → ByteArray} (h : Img w b iv n l) (hf : Fr b none w w') : Img w' b iv n l where
  row z hz := by
    obtain ⟨a, c, h1, h2, h3⟩ := h.row z hz
    refine ⟨a, c, h1, h2, fun hn => ?_⟩
    obtain ⟨k, o, ha, hk, hc⟩ := h3 hn
    exact ⟨k, o, ha, hk, fun j hj => (hf.cell (p := ⟨k, o + j, none⟩) (World.block_lt_of_cell? w _ (hc j hj)) hk (by simp)).trans (hc j hj)⟩
theorem img_get (iv : Nat → Value) (s0 s1 : ByteArray) (j : Nat) (hj : j < 10) : (brow 10 (icell iv s0 s1)).toArray[j]? = some (icell iv s0 s1 j) := by
  rw [List.getElem?_toArray]; exact brow_get _ _ _ hj

set_option maxRecDepth 100000 in
set_option maxHeartbeats 2000000 in
theorem lay_any (D : Dv) (v : Value) (b : Nat) (iv : Nat → Value) (s0 s1 : ByteArray) (n : Nat → Nat) (l : Nat → Nat → ByteArray) (w : World) (hd : Dev w b D v) (hi : Img w b iv n l) :
    Calls Tryd.prog 41 #[.pointer (some ⟨b, 0, none⟩), .agg (brow 10 (icell iv s0 s1)).toArray] w fun e w' => e = .returned (.tuple #[]) ∧ Dev w' b (D.laidBy n l s0 s1) (.slice none 0 0) ∧ Fr b none w w' := by
  have HD : Hid (Dev w b D v) := hd
  have HI : Hid (Img w b iv n l) := hi
  have hbl : b ≠ w.heap.size := by have := hd.lt; omega
  clear hd hi
  go_enter Tryd.func41, Tryd.ntmps41
  go_wp2_with fail
  have hC : Cel (w.alloc (.cells (brow 10 (icell iv s0 s1)).toArray 45)) w.heap.size 10 (icell iv s0 s1) := Cel.new w _ _ _ _ (img_get iv s0 s1) _ rfl
  have hS : Since w (w.alloc (.cells (brow 10 (icell iv s0 s1)).toArray 45)) := (Since.refl w).alloc _
  generalize w.alloc (.cells (brow 10 (icell iv s0 s1)).toArray 45) = w0 at *
  have HC : Hid (Cel w0 w.heap.size 10 (icell iv s0 s1)) := hC
  have HD0 : Hid (Dev w0 b (D.layTo n l 0) v) := HD.out.since hS
  have HI0 : Hid (Img w0 b iv n l) := HI.out.fr (Fr.of_since hS)
  have HF0 : Hid (Fr b none w w0) := Fr.of_since hS
  have HOK : Hid (D.ok) := HD.out.ok
  clear hC hS HD HI
  refine (orNew_any _ _).mono ?_
  rintro e w' ⟨rfl, rfl⟩
  have hR : w'.rangeAt w.heap.size 0 (brow 8 iv) := by
    have h := HC.out.range 0 8 (by omega)
    have e : brow 8 (fun j => icell iv s0 s1 (0 + j)) = brow 8 iv := by
      unfold brow
      exact List.map_congr_left (fun j hj => by unfold icell; rw [Nat.zero_add, if_pos (List.mem_range.1 hj)])
    rw [e] at h
    exact h
  have hL : (brow 8 iv).length = 8 := brow_length _ _
  have hix := fun (k : Nat) (hk : k < 8) (w : World) => idx_azs iv k hk w
  have HIX : Hid (∀ (k : Nat) (hk : k < 8) (w : World), (Instr.index 42 (.agg (brow 8 iv).toArray) (.int .i64 (k : Int))).run Tryd.prog w = .ok (iv k) w) := hix
  clear hix
  generalize hcs : brow 8 iv = cs at *
  go_wp2_with (refine wpList_load_mid (by rfl) 42 _ (by rfl) w.heap.size 0 (by rfl) _ _ hR Tryd.underlying42 (by rfl) (by rw [hL]; kernel_rfl) ?_)
  clear hR hL
  go_loopw [12] (fun i wr => ∃ k : Nat, k ≤ 8 ∧ i = .int .i64 k ∧ Dev wr b (D.layTo n l k) v ∧ Fr b none w' wr) (fun i _ => 8 - (intOf i).toNat)
  case atStart => exact ⟨0, by omega, rfl, HD0.out, Fr.refl _ _ _⟩
  case round =>
    obtain ⟨k, hk, rfl, hd, hf⟩ := hrel
    have HDK : Hid (Dev wr b (D.layTo n l k) v) := hd
    have HFK : Hid (Fr b none w' wr) := hf
    clear hd hf
    by_cases hlt : k < 8
    · have hlt2 : (k : Int) < 8 := by omega
      have hix := HIX.out k hlt
      obtain ⟨a, c, hiv, hnc, htx⟩ := (HI0.out.fr HFK.out).row k hlt
      rw [hiv] at hix
      have HTX : Hid (0 < n k → ∃ kb o, a = some ⟨kb, o, none⟩ ∧ kb ≠ b ∧ ∀ j, j < n k → wr.cell? ⟨kb, o + j, none⟩ = some (.string (l k j))) := htx
      clear htx hiv
      go_wp2_with fail
      clear hix
      go_region_with (go_at_call 113; refine (laid_any a (n k) c (l k) _ (fun h0 => by obtain ⟨kb, o, h1, _, h3⟩ := HTX.out h0; exact ⟨kb, o, h1, h3⟩) hnc).mono ?_; rintro e w1 ⟨rfl, hS1⟩; have hd1 := (HDK.out.since (Since.refl _).drew).since hS1; have hst := hd1.cel.store Tryd.prog (k * 2050) 2050 (by omega) (scell (laidBlk (l k) (min (n k) 16)) (min (n k) 16) (min (n k) 16)) (fun _ _ => scell_one _ _ _ _); have HD1 : Hid (Dev w1 b (D.layTo n l k) v) := hd1; clear hd1; have hL : (brow 2050 (scell (laidBlk (l k) (min (n k) 16)) (min (n k) 16) (min (n k) 16))).length = 2050 := brow_length _ _)
      have hd2 := layTo_dev D v b k n l w1 HD1.out HOK.out hlt
      have hf2 : Fr b none w' (w1.setCells b (k * 2050) (brow 2050 (scell (laidBlk (l k) (min (n k) 16)) (min (n k) 16) (min (n k) 16)))) := (HFK.out.trans' (Fr.of_since (Since.trans (Since.refl _).drew hS1))).trans' (Fr.setCells _ _ _ _ _)
      generalize w1.setCells b (k * 2050) _ = w2 at *
      have HD2 : Hid (Dev w2 b (D.layTo n l (k + 1)) v) := hd2
      have HF2 : Hid (Fr b none w' w2) := hf2
      clear hd2 hf2 hst HD1 hS1 hL
      go_wp2_with fail
      go_roundw
      case rel => exact ⟨k + 1, by omega, by go_num, HD2.out, HF2.out⟩
      case measure => simp [intOf]; omega
    · have hke : 8 = k := by omega
      subst hke
      have hC3 := HC.out.fr HFK.out (by omega) (by simp)
      have hR : wr.rangeAt w.heap.size 8 (brow 2 (fun j => if j = 0 then .string s0 else .string s1)) := by
        have h := hC3.range 8 2 (by omega)
        have e : brow 2 (fun j => icell iv s0 s1 (8 + j)) = brow 2 (fun j => if j = 0 then .string s0 else .string s1) := rfl
        rw [e] at h
        exact h
      have hL : (brow 2 (fun j => if j = 0 then Value.string s0 else .string s1)).length = 2 := brow_length _ _
      have hx0 := idx_ass (fun j => if j = 0 then .string s0 else .string s1) 0 (by omega)
      have hx1 := idx_ass (fun j => if j = 0 then .string s0 else .string s1) 1 (by omega)
      simp only [if_true, Nat.one_ne_zero, if_false, Int.cast_ofNat_Int] at hx0 hx1
      generalize hcs2 : brow 2 (fun j => if j = 0 then Value.string s0 else .string s1) = cs2 at *
      clear hC3
      go_wp2_with (refine wpList_load_mid (by rfl) 43 _ (by rfl) w.heap.size 8 (by rfl) _ _ hR Tryd.underlying43 (by rfl) (by rw [hL]; kernel_rfl) ?_)
      clear hR hL
      refine wp_loop_rounds 3 ?_
      rw [rounds_succ]
      go_wp2_with fail
      go_region_with (go_at_call 114; refine (slotOf_any s0 _).mono ?_; rintro e w1 ⟨rfl, hS1⟩; have hd1 := (HDK.out.since (Since.refl _).drew).since hS1; have hst := hd1.cel.store Tryd.prog 16400 500 (by omega) (fun i => bv (sb s0 i)) (fun _ _ => rfl); have HD1 : Hid (Dev w1 b (D.layTo n l 8) v) := hd1; clear hd1; have hL : (brow 500 (fun i => bv (sb s0 i))).length = 500 := brow_length _ _)
      have hd2 := slotTo_dev _ v b 0 (sb s0) w1 HD1.out (by omega)
      have hf2 : Fr b none w' (w1.setCells b (16400 + 0 * 500) (brow 500 (fun i => bv (sb s0 i)))) := (HFK.out.trans' (Fr.of_since (Since.trans (Since.refl _).drew hS1))).trans' (Fr.setCells _ _ _ _ _)
      rw [show 16400 + 0 * 500 = 16400 from rfl] at hd2 hf2
      generalize w1.setCells b 16400 (brow 500 (fun i => bv (sb s0 i))) = w2 at *
      have HD2 : Hid (Dev w2 b ((D.layTo n l 8).slotTo 0 (sb s0)) v) := hd2
      have HF2 : Hid (Fr b none w' w2) := hf2
      clear hd2 hf2 hst HD1 hS1 hL hx0
      go_wp2_with fail
      rw [rounds_succ]
      go_wp2_with fail
      go_region_with (go_at_call 114; refine (slotOf_any s1 _).mono ?_; rintro e w3 ⟨rfl, hS3⟩; have hd3 := (HD2.out.since (Since.refl _).drew).since hS3; have hst := hd3.cel.store Tryd.prog 16900 500 (by omega) (fun i => bv (sb s1 i)) (fun _ _ => rfl); have HD3 : Hid (Dev w3 b ((D.layTo n l 8).slotTo 0 (sb s0)) v) := hd3; clear hd3; have hL : (brow 500 (fun i => bv (sb s1 i))).length = 500 := brow_length _ _)
      have hd4 := slotTo_dev _ v b 1 (sb s1) w3 HD3.out (by omega)
      have hf4 : Fr b none w' (w3.setCells b (16400 + 1 * 500) (brow 500 (fun i => bv (sb s1 i)))) := (HF2.out.trans' (Fr.of_since (Since.trans (Since.refl _).drew hS3))).trans' (Fr.setCells _ _ _ _ _)
      rw [show 16400 + 1 * 500 = 16900 from rfl] at hd4 hf4
      generalize w3.setCells b 16900 (brow 500 (fun i => bv (sb s1 i))) = w4 at *
      have c4 := hd4.cel.cell 17400 (by omega)
      have f4 := hd4.cel.frozen 17400 (by omega)
      rw [dcell_ws] at c4
      have HD4 : Hid (Dev w4 b (((D.layTo n l 8).slotTo 0 (sb s0)).slotTo 1 (sb s1)) v) := hd4
      have HF4 : Hid (Fr b none w' w4) := hf4
      clear hd4 hf4 hst HD3 hS3 hL hx1
      go_wp2_with fail
      rw [rounds_succ]
      go_wp2_with fail
      go_end0
      exact ⟨rfl, none_dev _ v b w4 HD4.out, (HF0.out.trans' HF4.out).trans' (Fr.setCell _ _ _ _ _)⟩
end Go.Proofs.YtjfhggcjdckfgaaDoor
