/- laid: a zone of an image's blocks. -/
import Derived.Test.YtjfhggcjdckfgaaDoorZ14
import Derived.Test.YtjfhggcjdckfgaaDoorZR
namespace Go.Proofs.YtjfhggcjdckfgaaDoor
set_option linter.unusedSimpArgs false
set_option linter.unusedVariables false
open Go.RowKit

/-- the first m texts as blocks -/
def laidBlk (l : Nat → ByteArray) (m : Nat) : Nat → Nat → UInt8 := fun k i => if k < m then sb (l k) i else 0
theorem laidBlk_succ (l : Nat → ByteArray) (m : Nat) : (fun k i => if k = m then sb (l m) i else laidBlk l m k i) = laidBlk l (m + 1) := by
  funext k i
  unfold laidBlk
  by_cases h : k = m
  · subst h; rw [if_pos rfl, if_pos (by omega)]
  · rw [if_neg h]
    by_cases h2 : k < m
    · rw [if_pos h2, if_pos (by omega)]
    · rw [if_neg h2, if_neg (by omega)]
theorem scell_sure (blk : Nat → Nat → UInt8) (m s j : Nat) (hj : j < 2050) : updv (scell blk m s) 2049 (.int .i64 m) j = scell blk m m j := by
  unfold updv scell
  by_cases h : j = 2049
  · rw [if_pos h, if_neg (by omega), if_neg (by omega)]
  · rw [if_neg h]
    by_cases h1 : j < 2048
    · rw [if_pos h1, if_pos h1]
    · rw [if_neg h1, if_neg h1, if_pos (by omega), if_pos (by omega)]

/-- what stands of the list: nothing is read where there is nothing -/
def Txs (w : World) (a : Option Addr) (n : Nat) (l : Nat → ByteArray) : Prop := 0 < n → ∃ k o, a = some ⟨k, o, none⟩ ∧ ∀ j, j < n → w.cell? ⟨k, o + j, none⟩ = some (.string (l j))

set_option maxRecDepth 100000 in
set_option maxHeartbeats 2000000 in
theorem laid_few (a : Option Addr) (n c : Nat) (l : Nat → ByteArray) (w : World) (hs : Txs w a n l) (hc : n ≤ c) (hn : n ≤ 16) :
    Calls Tryd.prog 113 #[.slice a n c] w fun e w' => e = .returned (.agg (brow 2050 (scell (laidBlk l n) n n)).toArray) ∧ Since w w' := by
  have HT : Hid (Txs w a n l) := hs
  clear hs
  have hB : Cel ((w.alloc (.cells Tryd.zeroCells149 149)).alloc (.cells Tryd.zeroCells149 149)) w.heap.size 2050 (scell (fun _ _ => 0) 0 0) := (Cel.new w _ _ _ _ (fun j hj => zeroStrip_get j hj) _ rfl).since ((Since.refl _).alloc _)
  have hA : Cel ((w.alloc (.cells Tryd.zeroCells149 149)).alloc (.cells Tryd.zeroCells149 149)) (w.heap.size + 1) 2050 (scell (laidBlk l 0) 0 0) := (Cel.new (w.alloc _) _ _ _ _ (fun j hj => zeroStrip_get j hj) _ (by simp))
  have hS : Since w ((w.alloc (.cells Tryd.zeroCells149 149)).alloc (.cells Tryd.zeroCells149 149)) := ((Since.refl w).alloc _).alloc _
  have HB : Hid (Cel _ w.heap.size 2050 (scell (fun _ _ => 0) 0 0)) := hB
  have HA : Hid (Cel _ (w.heap.size + 1) 2050 (scell (laidBlk l 0) 0 0)) := hA
  have HS : Hid (Since w _) := hS
  have HC : Hid (n ≤ c) := hc
  clear hA hB hS
  have hni : (n : Int) ≤ 16 := by omega
  go_enter Tryd.func113, Tryd.ntmps113
  go_wp2_with fail
  skip
  go_loopw [12] (fun i wr => ∃ k : Nat, k ≤ n ∧ i = .int .i64 k ∧ Cel wr (w.heap.size + 1) 2050 (scell (laidBlk l k) k 0) ∧ Cel wr w.heap.size 2050 (scell (fun _ _ => 0) 0 0) ∧ Since w wr) (fun i _ => n - (intOf i).toNat)
  case atStart => exact ⟨0, by omega, rfl, HA.out, HB.out, HS.out⟩
  case round =>
    obtain ⟨k, hk, rfl, hz, hr, hsn⟩ := hrel
    have HZ : Hid (Cel wr (w.heap.size + 1) 2050 (scell (laidBlk l k) k 0)) := hz
    have HR : Hid (Cel wr w.heap.size 2050 (scell (fun _ _ => 0) 0 0)) := hr
    have HSN : Hid (Since w wr) := hsn
    clear hz hr hsn HA HB HS
    by_cases hlt : k < n
    · have hlt2 : (k : Int) < (n : Nat) := by omega
      obtain ⟨lk, lo, rfl, hlc⟩ := HT.out (by omega)
      have q1 := (HSN.out.cell (p := ⟨lk, lo + k, none⟩) (World.block_lt_of_cell? w _ (hlc k (by omega)))).trans (hlc k (by omega))
      clear hlc
      go_wp2_with fail
      refine (add_any (w.heap.size + 1) 0 k 2050 (scell (laidBlk l k) k 0) (l k) _ HZ.out (by omega) (by unfold scell; rfl) (by omega)).mono ?_
      rintro e w2 ⟨rfl, hw2⟩
      have hz2 : Cel w2 (w.heap.size + 1) 2050 (scell (laidBlk l (k + 1)) (k + 1) 0) := by
        rw [hw2, Nat.zero_add, Nat.zero_add]
        refine (((HZ.out.since (Since.refl _).drew).setRow (k * 128) (min (l k).size 128) (by omega) (fun i => bv (sb (l k) i))).set 2048 (by omega) (.int .i64 (k + 1))).congr (fun j hj => ?_)
        rw [scell_add (laidBlk l k) k 0 (l k) (by omega) (fun i _ => by unfold laidBlk; rw [if_neg (by omega)]) j hj, laidBlk_succ]
      have hr2 : Cel w2 w.heap.size 2050 (scell (fun _ _ => 0) 0 0) := by
        rw [hw2]
        exact ((HR.out.since (Since.refl _).drew).setRow_other _ (by omega)).other (by simp) _
      have hs2 : Since w w2 := by
        rw [hw2]
        exact ((HSN.out.drew).setCells (by omega) _ _).setCell (by simp) _
      have HZ2 : Hid (Cel w2 (w.heap.size + 1) 2050 (scell (laidBlk l (k + 1)) (k + 1) 0)) := hz2
      have HR2 : Hid (Cel w2 w.heap.size 2050 (scell (fun _ _ => 0) 0 0)) := hr2
      have HS2 : Hid (Since w w2) := hs2
      clear hw2 hz2 hr2 hs2 q1
      go_wp2_with fail
      go_roundw
      case rel => exact ⟨k + 1, by omega, by go_num, HZ2.out, HR2.out, HS2.out⟩
      case measure => simp [intOf]; omega
    · have hke : n = k := by omega
      subst hke
      have c1 := HZ.out.cell 2048 (by omega)
      rw [show scell (laidBlk l n) n 0 2048 = .int .i64 (n : Nat) by unfold scell; rfl] at c1
      have c2 := HZ.out.cell 2049 (by omega)
      have f2 := HZ.out.frozen 2049 (by omega)
      have hz3 : Cel (wr.setCell ⟨w.heap.size + 1, 2049, none⟩ (.int .i64 (n : Nat))) (w.heap.size + 1) 2050 (scell (laidBlk l n) n n) := (HZ.out.set 2049 (by omega) _).congr (fun j hj => scell_sure _ n 0 j hj)
      have hr3 : Cel (wr.setCell ⟨w.heap.size + 1, 2049, none⟩ (.int .i64 (n : Nat))) w.heap.size 2050 (scell (fun _ _ => 0) 0 0) := HR.out.other (by simp) _
      have hs3 : Since w (wr.setCell ⟨w.heap.size + 1, 2049, none⟩ (.int .i64 (n : Nat))) := HSN.out.setCell (by simp) _
      skip
      have hR := hz3.range 0 2050 (by omega)
      simp only [Nat.zero_add] at hR
      have hst := hr3.store Tryd.prog 0 2050 (by omega) (scell (laidBlk l n) n n) (fun _ _ => scell_one _ _ _ _)
      have hr4 := (hr3.setRow 0 2050 (by omega) (scell (laidBlk l n) n n)).congr (g := scell (laidBlk l n) n n) (fun j hj => by unfold updl; rw [if_pos (by omega)]; congr 1)
      have hR4 := hr4.range 0 2050 (by omega)
      simp only [Nat.zero_add] at hR4
      have hL : (brow 2050 (scell (laidBlk l n) n n)).length = 2050 := brow_length _ _
      have HR4 : Hid _ := hR4
      have HS4 : Hid (Since w _) := hs3.setCells (b := w.heap.size) (Nat.le_refl _) (brow 2050 (scell (laidBlk l n) n n)) 0
      clear hz3 hr3 hs3 hr4 hR4
      generalize hcs : brow 2050 (scell (laidBlk l n) n n) = cs at *
      go_wp2_with (refine wpList_load_mid (by rfl) 149 _ (by rfl) (w.heap.size + 1) 0 (by rfl) _ _ hR Tryd.underlying149 (by rfl) (by rw [hL]; kernel_rfl) ?_)
      exact bodyPost_ret (results_row Tryd.results113 _ _ _ w.heap.size _ _ (by rfl) HR4.out Tryd.underlying149 (by rfl) (by rw [hL]; kernel_rfl)) rfl ⟨by rw [hcs], HS4.out⟩
set_option maxRecDepth 100000 in
set_option maxHeartbeats 2000000 in
theorem laid_many (a : Option Addr) (n c : Nat) (l : Nat → ByteArray) (w : World) (hs : Txs w a n l) (hc : n ≤ c) (hn : 16 < n) :
    Calls Tryd.prog 113 #[.slice a n c] w fun e w' => e = .returned (.agg (brow 2050 (scell (laidBlk l 16) 16 16)).toArray) ∧ Since w w' := by
  have HT : Hid (Txs w a n l) := hs
  clear hs
  have hB : Cel ((w.alloc (.cells Tryd.zeroCells149 149)).alloc (.cells Tryd.zeroCells149 149)) w.heap.size 2050 (scell (fun _ _ => 0) 0 0) := (Cel.new w _ _ _ _ (fun j hj => zeroStrip_get j hj) _ rfl).since ((Since.refl _).alloc _)
  have hA : Cel ((w.alloc (.cells Tryd.zeroCells149 149)).alloc (.cells Tryd.zeroCells149 149)) (w.heap.size + 1) 2050 (scell (laidBlk l 0) 0 0) := (Cel.new (w.alloc _) _ _ _ _ (fun j hj => zeroStrip_get j hj) _ (by simp))
  have hS : Since w ((w.alloc (.cells Tryd.zeroCells149 149)).alloc (.cells Tryd.zeroCells149 149)) := ((Since.refl w).alloc _).alloc _
  have HB : Hid (Cel _ w.heap.size 2050 (scell (fun _ _ => 0) 0 0)) := hB
  have HA : Hid (Cel _ (w.heap.size + 1) 2050 (scell (laidBlk l 0) 0 0)) := hA
  have HS : Hid (Since w _) := hS
  have HC : Hid (n ≤ c) := hc
  clear hA hB hS
  have hni : ¬ (n : Int) ≤ 16 := by omega
  have h16c : 16 ≤ c := by omega
  go_enter Tryd.func113, Tryd.ntmps113
  go_wp2_with fail
  try rw [show (max (16 : Int) 0) = 16 from rfl]
  go_loopw [12] (fun i wr => ∃ k : Nat, k ≤ 16 ∧ i = .int .i64 k ∧ Cel wr (w.heap.size + 1) 2050 (scell (laidBlk l k) k 0) ∧ Cel wr w.heap.size 2050 (scell (fun _ _ => 0) 0 0) ∧ Since w wr) (fun i _ => 16 - (intOf i).toNat)
  case atStart => exact ⟨0, by omega, rfl, HA.out, HB.out, HS.out⟩
  case round =>
    obtain ⟨k, hk, rfl, hz, hr, hsn⟩ := hrel
    have HZ : Hid (Cel wr (w.heap.size + 1) 2050 (scell (laidBlk l k) k 0)) := hz
    have HR : Hid (Cel wr w.heap.size 2050 (scell (fun _ _ => 0) 0 0)) := hr
    have HSN : Hid (Since w wr) := hsn
    clear hz hr hsn HA HB HS
    by_cases hlt : k < 16
    · have hlt2 : (k : Int) < (16 : Nat) := by omega
      obtain ⟨lk, lo, rfl, hlc⟩ := HT.out (by omega)
      have q1 := (HSN.out.cell (p := ⟨lk, lo + k, none⟩) (World.block_lt_of_cell? w _ (hlc k (by omega)))).trans (hlc k (by omega))
      clear hlc
      go_wp2_with fail
      refine (add_any (w.heap.size + 1) 0 k 2050 (scell (laidBlk l k) k 0) (l k) _ HZ.out (by omega) (by unfold scell; rfl) (by omega)).mono ?_
      rintro e w2 ⟨rfl, hw2⟩
      have hz2 : Cel w2 (w.heap.size + 1) 2050 (scell (laidBlk l (k + 1)) (k + 1) 0) := by
        rw [hw2, Nat.zero_add, Nat.zero_add]
        refine (((HZ.out.since (Since.refl _).drew).setRow (k * 128) (min (l k).size 128) (by omega) (fun i => bv (sb (l k) i))).set 2048 (by omega) (.int .i64 (k + 1))).congr (fun j hj => ?_)
        rw [scell_add (laidBlk l k) k 0 (l k) (by omega) (fun i _ => by unfold laidBlk; rw [if_neg (by omega)]) j hj, laidBlk_succ]
      have hr2 : Cel w2 w.heap.size 2050 (scell (fun _ _ => 0) 0 0) := by
        rw [hw2]
        exact ((HR.out.since (Since.refl _).drew).setRow_other _ (by omega)).other (by simp) _
      have hs2 : Since w w2 := by
        rw [hw2]
        exact ((HSN.out.drew).setCells (by omega) _ _).setCell (by simp) _
      have HZ2 : Hid (Cel w2 (w.heap.size + 1) 2050 (scell (laidBlk l (k + 1)) (k + 1) 0)) := hz2
      have HR2 : Hid (Cel w2 w.heap.size 2050 (scell (fun _ _ => 0) 0 0)) := hr2
      have HS2 : Hid (Since w w2) := hs2
      clear hw2 hz2 hr2 hs2 q1
      go_wp2_with fail
      go_roundw
      case rel => exact ⟨k + 1, by omega, by go_num, HZ2.out, HR2.out, HS2.out⟩
      case measure => simp [intOf]; omega
    · have hke : 16 = k := by omega
      subst hke
      have c1 := HZ.out.cell 2048 (by omega)
      rw [show scell (laidBlk l 16) 16 0 2048 = .int .i64 (16 : Nat) by unfold scell; rfl] at c1
      have c2 := HZ.out.cell 2049 (by omega)
      have f2 := HZ.out.frozen 2049 (by omega)
      have hz3 : Cel (wr.setCell ⟨w.heap.size + 1, 2049, none⟩ (.int .i64 (16 : Nat))) (w.heap.size + 1) 2050 (scell (laidBlk l 16) 16 16) := (HZ.out.set 2049 (by omega) _).congr (fun j hj => scell_sure _ 16 0 j hj)
      have hr3 : Cel (wr.setCell ⟨w.heap.size + 1, 2049, none⟩ (.int .i64 (16 : Nat))) w.heap.size 2050 (scell (fun _ _ => 0) 0 0) := HR.out.other (by simp) _
      have hs3 : Since w (wr.setCell ⟨w.heap.size + 1, 2049, none⟩ (.int .i64 (16 : Nat))) := HSN.out.setCell (by simp) _
      simp only [Int.cast_ofNat_Int] at c1 hz3 hr3 hs3
      have hR := hz3.range 0 2050 (by omega)
      simp only [Nat.zero_add] at hR
      have hst := hr3.store Tryd.prog 0 2050 (by omega) (scell (laidBlk l 16) 16 16) (fun _ _ => scell_one _ _ _ _)
      have hr4 := (hr3.setRow 0 2050 (by omega) (scell (laidBlk l 16) 16 16)).congr (g := scell (laidBlk l 16) 16 16) (fun j hj => by unfold updl; rw [if_pos (by omega)]; congr 1)
      have hR4 := hr4.range 0 2050 (by omega)
      simp only [Nat.zero_add] at hR4
      have hL : (brow 2050 (scell (laidBlk l 16) 16 16)).length = 2050 := brow_length _ _
      have HR4 : Hid _ := hR4
      have HS4 : Hid (Since w _) := hs3.setCells (b := w.heap.size) (Nat.le_refl _) (brow 2050 (scell (laidBlk l 16) 16 16)) 0
      clear hz3 hr3 hs3 hr4 hR4
      generalize hcs : brow 2050 (scell (laidBlk l 16) 16 16) = cs at *
      go_wp2_with (refine wpList_load_mid (by rfl) 149 _ (by rfl) (w.heap.size + 1) 0 (by rfl) _ _ hR Tryd.underlying149 (by rfl) (by rw [hL]; kernel_rfl) ?_)
      exact bodyPost_ret (results_row Tryd.results113 _ _ _ w.heap.size _ _ (by rfl) HR4.out Tryd.underlying149 (by rfl) (by rw [hL]; kernel_rfl)) rfl ⟨by rw [hcs], HS4.out⟩
theorem laid_any (a : Option Addr) (n c : Nat) (l : Nat → ByteArray) (w : World) (hs : Txs w a n l) (hc : n ≤ c) :
    Calls Tryd.prog 113 #[.slice a n c] w fun e w' => e = .returned (.agg (brow 2050 (scell (laidBlk l (min n 16)) (min n 16) (min n 16))).toArray) ∧ Since w w' := by
  by_cases h : n ≤ 16
  · rw [Nat.min_eq_left h]; exact laid_few a n c l w hs hc h
  · rw [Nat.min_eq_right (by omega)]; exact laid_many a n c l w hs hc (by omega)
end Go.Proofs.YtjfhggcjdckfgaaDoor
