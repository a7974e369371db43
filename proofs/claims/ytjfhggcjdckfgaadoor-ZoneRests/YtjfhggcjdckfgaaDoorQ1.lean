/- zoned: a fact about a device. -/
import Derived.Test.YtjfhggcjdckfgaaDoorZ14
import Derived.Test.YtjfhggcjdckfgaaDoorSh
namespace Go.Proofs.YtjfhggcjdckfgaaDoor
set_option linter.unusedSimpArgs false
set_option linter.unusedVariables false
open Go.RowKit

def tA : ByteArray := ⟨#[97]⟩
def tB : ByteArray := ⟨#[98]⟩
def tC : ByteArray := ⟨#[99]⟩
def tX : ByteArray := ⟨#[120]⟩
def zd3 : Dv := ((dv0.app 2 tA).app 2 tB).app 2 tC
def zd4 : Dv := zd3.wrote 1 tX
def zks : Nat → Int := fun j => if j = 2 then 2 else 0
def zd5 : Dv := zd4.crashed 3 zks 0 (fun _ => false)
theorem zd5_cnt : zd5.cnt 2 = 2 := by decide
theorem zd5_slot (i : Nat) : zd5.slotBy 1 (fun _ => true) i = 0 := rfl
theorem zd5_blk (i : Nat) : zd5.blk 2 1 i = sb tB i := rfl
theorem repeatL0 (n : Nat) : Lib.repeatL [0] n = List.replicate n 0 := by
  induction n with
  | zero => rfl
  | succ n ih => rw [Lib.repeatL, ih]; rfl
theorem repeat0 (n : Nat) : (⟨(Lib.repeatL (⟨#[0]⟩ : ByteArray).data.toList n).toArray⟩ : ByteArray) = txt n (fun _ => 0) := by
  unfold txt
  rw [show (⟨#[0]⟩ : ByteArray).data.toList = [0] from rfl, repeatL0]
  congr 2
  simp [List.map_const']
set_option maxRecDepth 100000 in
set_option maxHeartbeats 2000000 in
theorem zoned_any (w : World) : Calls Tryd.prog 54 #[] w fun e w' => e = .returned (.bool true) ∧ Since w w' := by
  go_enter Tryd.func54, Tryd.ntmps54
  go_wp2_with fail
  refine (new_any _).mono ?_
  rintro e w1 ⟨rfl, hw1⟩
  have hd1 := dev_new w
  have hS1 := (Since.refl w).alloc (.cells Tryd.zeroCells155 155)
  rw [← hw1] at hd1 hS1
  have hsz1 : w1.heap.size = w.heap.size + 1 := by rw [hw1]; simp
  have HD1 : Hid (Dev w1 w.heap.size dv0 (.slice none 0 0)) := hd1
  have HS1 : Hid (Since w w1) := hS1
  have HZ1 : Hid (w1.heap.size = w.heap.size + 1) := hsz1
  clear hw1 hd1 hS1 hsz1
  go_wp2_with fail
  have q0 : (w1.alloc (.cells #[.string tA, .string tB, .string tC] 9)).cell? ⟨w1.heap.size, 0, none⟩ = some (.string tA) := by simp
  have q1 : (w1.alloc (.cells #[.string tA, .string tB, .string tC] 9)).cell? ⟨w1.heap.size, 1, none⟩ = some (.string tB) := by simp
  have q2 : (w1.alloc (.cells #[.string tA, .string tB, .string tC] 9)).cell? ⟨w1.heap.size, 2, none⟩ = some (.string tC) := by simp
  have hd2 := HD1.out.since ((Since.refl w1).alloc (.cells #[.string tA, .string tB, .string tC] 9))
  have hS2 := HS1.out.alloc (.cells #[.string tA, .string tB, .string tC] 9)
  have hlt2 : w1.heap.size < (w1.alloc (.cells #[.string tA, .string tB, .string tC] 9)).heap.size := by simp
  have eA : (⟨#[97]⟩ : ByteArray) = tA := rfl
  have eB : (⟨#[98]⟩ : ByteArray) = tB := rfl
  have eC : (⟨#[99]⟩ : ByteArray) = tC := rfl
  rw [eA, eB, eC]
  generalize hw2 : w1.alloc (.cells #[.string tA, .string tB, .string tC] 9) = w2 at *
  clear hw2 eA eB eC
  have HD2 : Hid (Dev w2 w.heap.size dv0 (.slice none 0 0)) := hd2
  have HS2 : Hid (Since w w2) := hS2
  clear hd2 hS2
  refine wp_loop_rounds 4 ?_
  rw [rounds_succ]
  go_wp2_with fail
  refine (append_any dv0 _ w.heap.size 2 tA _ HD2.out (by omega) (by decide) (by decide) rfl).mono ?_
  rintro e w3 ⟨rfl, hd, hf⟩
  have HD3 : Hid (Dev w3 w.heap.size (dv0.app 2 tA) (.slice none 0 0)) := hd
  have HS3 : Hid (Since w w3) := hf.since HS2.out (Nat.le_refl _) (fun k h => by cases h)
  rw [← hf.cell (p := ⟨w1.heap.size, 0, none⟩) (by exact World.block_lt_of_cell? _ _ q0) (by show w1.heap.size ≠ w.heap.size; have := HZ1.out; omega) (by simp)] at q0
  rw [← hf.cell (p := ⟨w1.heap.size, 1, none⟩) (by exact World.block_lt_of_cell? _ _ q1) (by show w1.heap.size ≠ w.heap.size; have := HZ1.out; omega) (by simp)] at q1
  rw [← hf.cell (p := ⟨w1.heap.size, 2, none⟩) (by exact World.block_lt_of_cell? _ _ q2) (by show w1.heap.size ≠ w.heap.size; have := HZ1.out; omega) (by simp)] at q2
  clear hd hf
  go_wp2_with fail
  rw [rounds_succ]
  go_wp2_with fail
  refine (append_any (dv0.app 2 tA) _ w.heap.size 2 tB _ HD3.out (by omega) (by decide) (by decide) rfl).mono ?_
  rintro e w4 ⟨rfl, hd, hf⟩
  have HD4 : Hid (Dev w4 w.heap.size ((dv0.app 2 tA).app 2 tB) (.slice none 0 0)) := hd
  have HS4 : Hid (Since w w4) := hf.since HS3.out (Nat.le_refl _) (fun k h => by cases h)
  rw [← hf.cell (p := ⟨w1.heap.size, 0, none⟩) (by exact World.block_lt_of_cell? _ _ q0) (by show w1.heap.size ≠ w.heap.size; have := HZ1.out; omega) (by simp)] at q0
  rw [← hf.cell (p := ⟨w1.heap.size, 1, none⟩) (by exact World.block_lt_of_cell? _ _ q1) (by show w1.heap.size ≠ w.heap.size; have := HZ1.out; omega) (by simp)] at q1
  rw [← hf.cell (p := ⟨w1.heap.size, 2, none⟩) (by exact World.block_lt_of_cell? _ _ q2) (by show w1.heap.size ≠ w.heap.size; have := HZ1.out; omega) (by simp)] at q2
  clear hd hf
  go_wp2_with fail
  rw [rounds_succ]
  go_wp2_with fail
  refine (append_any ((dv0.app 2 tA).app 2 tB) _ w.heap.size 2 tC _ HD4.out (by omega) (by decide) (by decide) rfl).mono ?_
  rintro e w5 ⟨rfl, hd, hf⟩
  have HD5 : Hid (Dev w5 w.heap.size zd3 (.slice none 0 0)) := hd
  have HS5 : Hid (Since w w5) := hf.since HS4.out (Nat.le_refl _) (fun k h => by cases h)
  rw [← hf.cell (p := ⟨w1.heap.size, 0, none⟩) (by exact World.block_lt_of_cell? _ _ q0) (by show w1.heap.size ≠ w.heap.size; have := HZ1.out; omega) (by simp)] at q0
  rw [← hf.cell (p := ⟨w1.heap.size, 1, none⟩) (by exact World.block_lt_of_cell? _ _ q1) (by show w1.heap.size ≠ w.heap.size; have := HZ1.out; omega) (by simp)] at q1
  rw [← hf.cell (p := ⟨w1.heap.size, 2, none⟩) (by exact World.block_lt_of_cell? _ _ q2) (by show w1.heap.size ≠ w.heap.size; have := HZ1.out; omega) (by simp)] at q2
  clear hd hf
  go_wp2_with fail
  rw [rounds_succ]
  go_wp2_with fail
  refine (put_any zd3 _ w.heap.size 1 tX _ HD5.out (by omega) (by decide) rfl (by decide)).mono ?_
  rintro e w6 ⟨rfl, v6, hd, hf, hn⟩
  have HD6 : Hid (Dev w6 w.heap.size zd4 v6) := hd
  have HS6 : Hid (Since w w6) := hf.since HS5.out (Nat.le_refl _) (fun k h => by cases h)
  clear hd hf hn q0 q1 q2
  go_wp2_with fail
  have hk7 : Sl (w6.alloc (.cells #[.int .i64 0, .int .i64 0, .int .i64 2] 3)) w.heap.size (.slice (some ⟨w6.heap.size, 0, none⟩) 3 3) 3 (fun j => .int .i64 (zks j)) := by
    refine ⟨_, _, rfl, fun _ => ⟨w6.heap.size, 0, rfl, by have := HD6.out.lt; omega, fun j hj => ?_⟩⟩
    match j, hj with
    | 0, _ => simp [zks]
    | 1, _ => simp [zks]
    | 2, _ => simp [zks]
  refine (crash_any zd4 v6 w.heap.size 3 0 _ _ zks (fun _ => false) _ (HD6.out.since ((Since.refl _).alloc _)) hk7 ⟨none, 0, rfl, fun h => by omega⟩).mono ?_
  rintro e w8 ⟨rfl, hd, hf⟩
  have HD8 : Hid (Dev w8 w.heap.size zd5 (.slice none 0 0)) := hd
  have HS8 : Hid (Since w w8) := hf.since (HS6.out.alloc _) (Nat.le_refl _) (fun k h => by cases h)
  clear hd hf hk7
  go_wp2_with fail
  refine (at_any zd5 _ w.heap.size 2 _ HD8.out (by omega)).mono ?_
  rintro e w9 ⟨rfl, rfl⟩
  rw [zd5_cnt]
  go_wp2_with fail
  refine (read_any zd5 _ w.heap.size 2 1 _ HD8.out (by omega) (by decide)).mono ?_
  rintro e w9 ⟨rfl, rfl⟩
  have e1 : (txt 128 (zd5.blk 2 1)).size = 128 := txt_size _ _
  have e2 : (txt 128 (zd5.blk 2 1)).extract 0 2 = ⟨#[98, 0]⟩ := by
    have : txt 128 (zd5.blk 2 1) = txt 128 (sb tB) := rfl
    rw [this]
    decide +kernel
  generalize txt 128 (zd5.blk 2 1) = sB at *
  have e3 : (2 : Int) ≤ sB.size := by omega
  go_wp2_with fail
  refine (get_any zd5 _ w.heap.size 1 _ HD8.out (by omega)).mono ?_
  rintro e w10 ⟨rfl, hS10⟩
  have HS10 : Hid (Since w w10) := HS8.out.trans hS10
  have e4 : txt 500 (zd5.slotBy 1 fun _ => true) = txt 500 (fun _ => 0) := rfl
  rw [e4]
  have e5 := repeat0 500
  generalize txt 500 (fun _ => 0) = s0 at *
  have E5 : Hid _ := e5
  clear hS10 e4 e5
  go_wp2_with fail
  refine (repeat_any ⟨#[0]⟩ 500 _ (by omega) (by decide)).mono ?_
  rintro e w11 ⟨rfl, hS11⟩
  rw [E5.out]
  go_wp2_with fail
  go_ret
  exact ⟨rfl, HS10.out.trans hS11⟩
end Go.Proofs.YtjfhggcjdckfgaaDoor
