import Derived.Test.YtifnhnfjelfddaaGreatDoorJ05
import Derived.Test.YtifnhnfjelfddaaGreatDoorJ09
set_option linter.unusedSimpArgs false
set_option linter.unusedVariables false
section
namespace Go.Proofs.YtifnhnfjelfddaaGreatDoor
open Go.RowKit
def laidBlk (l : Nat → ByteArray) (m : Nat) : Nat → Nat → UInt8 := fun k i => if k < m then sb (l k) i else 0
theorem laidBlk_succ (l : Nat → ByteArray) (m : Nat) : (fun k i => if k = m then sb (l m) i else laidBlk l m k i) = laidBlk l (m + 1) := by
  funext k i
  unfold laidBlk
  by_cases h : k = m
  · subst h; rw [if_pos rfl, if_pos (by omega)]
  · rw [if_neg h]
    by_cases h2 : k < m
    · rw [if_pos h2, if_pos (by omega)]
    · rw [if_neg h2, if_neg (by omega)]
theorem scell_sure (blk : Nat → Nat → UInt8) (m s j : Nat) (hj : j < 2050) : updv (scell blk m s) 2049 (.int .i64 m) j = scell blk m m j := by
  unfold updv scell
  by_cases h : j = 2049
  · rw [if_pos h, if_neg (by omega), if_neg (by omega)]
  · rw [if_neg h]
    by_cases h1 : j < 2048
    · rw [if_pos h1, if_pos h1]
    · rw [if_neg h1, if_neg h1, if_pos (by omega), if_pos (by omega)]
def Txs (w : World) (a : Option Addr) (n : Nat) (l : Nat → ByteArray) : Prop := 0 < n → ∃ k o, a = some ⟨k, o, none⟩ ∧ ∀ j, j < n → w.cell? ⟨k, o + j, none⟩ = some (.string (l j))
set_option maxRecDepth 100000 in
set_option maxHeartbeats 2000000 in
theorem laid_few (a : Option Addr) (n c : Nat) (l : Nat → ByteArray) (w : World) (hs : Txs w a n l) (hc : n ≤ c) (hn : n ≤ 16) :
    Calls Tryz.prog 58 #[.slice a n c] w fun e w' => e = .returned (.agg (brow 2050 (scell (laidBlk l n) n n)).toArray) ∧ Since w w' := by
  have HT : Hid (Txs w a n l) := hs
  clear hs
  have hB : Cel ((w.alloc (.cells Tryz.zeroCells78 78)).alloc (.cells Tryz.zeroCells78 78)) w.heap.size 2050 (scell (fun _ _ => 0) 0 0) := (Cel.new w _ _ _ _ (fun j hj => zeroStrip_get j hj) _ rfl).since ((Since.refl _).alloc _)
  have hA : Cel ((w.alloc (.cells Tryz.zeroCells78 78)).alloc (.cells Tryz.zeroCells78 78)) (w.heap.size + 1) 2050 (scell (laidBlk l 0) 0 0) := (Cel.new (w.alloc _) _ _ _ _ (fun j hj => zeroStrip_get j hj) _ (by simp))
  have hS : Since w ((w.alloc (.cells Tryz.zeroCells78 78)).alloc (.cells Tryz.zeroCells78 78)) := ((Since.refl w).alloc _).alloc _
  have HB : Hid (Cel _ w.heap.size 2050 (scell (fun _ _ => 0) 0 0)) := hB
  have HA : Hid (Cel _ (w.heap.size + 1) 2050 (scell (laidBlk l 0) 0 0)) := hA
  have HS : Hid (Since w _) := hS
  have HC : Hid (n ≤ c) := hc
  clear hA hB hS
  have hni : (n : Int) ≤ 16 := by omega
  go_enter Tryz.func58, Tryz.ntmps58
  go_wp2_with fail
  skip
  go_loopw [12] (fun i wr => ∃ k : Nat, k ≤ n ∧ i = .int .i64 k ∧ Cel wr (w.heap.size + 1) 2050 (scell (laidBlk l k) k 0) ∧ Cel wr w.heap.size 2050 (scell (fun _ _ => 0) 0 0) ∧ Since w wr) (fun i _ => n - (intOf i).toNat)
  case atStart => exact ⟨0, by omega, rfl, HA.out, HB.out, HS.out⟩
  case round =>
    obtain ⟨k, hk, rfl, hz, hr, hsn⟩ := hrel
    have HZ : Hid (Cel wr (w.heap.size + 1) 2050 (scell (laidBlk l k) k 0)) := hz
    have HR : Hid (Cel wr w.heap.size 2050 (scell (fun _ _ => 0) 0 0)) := hr
    have HSN : Hid (Since w wr) := hsn
    clear hz hr hsn HA HB HS
    by_cases hlt : k < n
    · have hlt2 : (k : Int) < (n : Nat) := by omega
      obtain ⟨lk, lo, rfl, hlc⟩ := HT.out (by omega)
      have q1 := (HSN.out.cell (p := ⟨lk, lo + k, none⟩) (World.block_lt_of_cell? w _ (hlc k (by omega)))).trans (hlc k (by omega))
      clear hlc
      go_wp2_with fail
      refine (add_any (w.heap.size + 1) 0 k 2050 (scell (laidBlk l k) k 0) (l k) _ HZ.out (by omega) (by unfold scell; rfl) (by omega)).mono ?_
      rintro e w2 ⟨rfl, hw2⟩
      have hz2 : Cel w2 (w.heap.size + 1) 2050 (scell (laidBlk l (k + 1)) (k + 1) 0) := by
        rw [hw2, Nat.zero_add, Nat.zero_add]
        refine (((HZ.out.since (Since.refl _).drew).setRow (k * 128) (min (l k).size 128) (by omega) (fun i => bv (sb (l k) i))).set 2048 (by omega) (.int .i64 (k + 1))).congr (fun j hj => ?_)
        rw [scell_add (laidBlk l k) k 0 (l k) (by omega) (fun i _ => by unfold laidBlk; rw [if_neg (by omega)]) j hj, laidBlk_succ]
      have hr2 : Cel w2 w.heap.size 2050 (scell (fun _ _ => 0) 0 0) := by
        rw [hw2]
        exact ((HR.out.since (Since.refl _).drew).setRow_other _ (by omega)).other (by simp) _
      have hs2 : Since w w2 := by
        rw [hw2]
        exact ((HSN.out.drew).setCells (by omega) _ _).setCell (by simp) _
      have HZ2 : Hid (Cel w2 (w.heap.size + 1) 2050 (scell (laidBlk l (k + 1)) (k + 1) 0)) := hz2
      have HR2 : Hid (Cel w2 w.heap.size 2050 (scell (fun _ _ => 0) 0 0)) := hr2
      have HS2 : Hid (Since w w2) := hs2
      clear hw2 hz2 hr2 hs2 q1
      go_wp2_with fail
      go_roundw
      case rel => exact ⟨k + 1, by omega, by go_num, HZ2.out, HR2.out, HS2.out⟩
      case measure => simp [intOf]; omega
    · have hke : n = k := by omega
      subst hke
      have c1 := HZ.out.cell 2048 (by omega)
      rw [show scell (laidBlk l n) n 0 2048 = .int .i64 (n : Nat) by unfold scell; rfl] at c1
      have c2 := HZ.out.cell 2049 (by omega)
      have f2 := HZ.out.frozen 2049 (by omega)
      have hz3 : Cel (wr.setCell ⟨w.heap.size + 1, 2049, none⟩ (.int .i64 (n : Nat))) (w.heap.size + 1) 2050 (scell (laidBlk l n) n n) := (HZ.out.set 2049 (by omega) _).congr (fun j hj => scell_sure _ n 0 j hj)
      have hr3 : Cel (wr.setCell ⟨w.heap.size + 1, 2049, none⟩ (.int .i64 (n : Nat))) w.heap.size 2050 (scell (fun _ _ => 0) 0 0) := HR.out.other (by simp) _
      have hs3 : Since w (wr.setCell ⟨w.heap.size + 1, 2049, none⟩ (.int .i64 (n : Nat))) := HSN.out.setCell (by simp) _
      skip
      have hR := hz3.range 0 2050 (by omega)
      simp only [Nat.zero_add] at hR
      have hst := hr3.store Tryz.prog 0 2050 (by omega) (scell (laidBlk l n) n n) (fun _ _ => scell_one _ _ _ _)
      have hr4 := (hr3.setRow 0 2050 (by omega) (scell (laidBlk l n) n n)).congr (g := scell (laidBlk l n) n n) (fun j hj => by unfold updl; rw [if_pos (by omega)]; congr 1)
      have hR4 := hr4.range 0 2050 (by omega)
      simp only [Nat.zero_add] at hR4
      have hL : (brow 2050 (scell (laidBlk l n) n n)).length = 2050 := brow_length _ _
      have HR4 : Hid _ := hR4
      have HS4 : Hid (Since w _) := hs3.setCells (b := w.heap.size) (Nat.le_refl _) (brow 2050 (scell (laidBlk l n) n n)) 0
      clear hz3 hr3 hs3 hr4 hR4
      generalize hcs : brow 2050 (scell (laidBlk l n) n n) = cs at *
      go_wp2_with (refine wpList_load_mid (by rfl) 78 _ (by rfl) (w.heap.size + 1) 0 (by rfl) _ _ hR Tryz.underlying78 (by rfl) (by rw [hL]; kernel_rfl) ?_)
      exact bodyPost_ret (results_row Tryz.results58 _ _ _ w.heap.size _ _ (by rfl) HR4.out Tryz.underlying78 (by rfl) (by rw [hL]; kernel_rfl)) rfl ⟨by rw [hcs], HS4.out⟩
set_option maxRecDepth 100000 in
set_option maxHeartbeats 2000000 in
theorem laid_many (a : Option Addr) (n c : Nat) (l : Nat → ByteArray) (w : World) (hs : Txs w a n l) (hc : n ≤ c) (hn : 16 < n) :
    Calls Tryz.prog 58 #[.slice a n c] w fun e w' => e = .returned (.agg (brow 2050 (scell (laidBlk l 16) 16 16)).toArray) ∧ Since w w' := by
  have HT : Hid (Txs w a n l) := hs
  clear hs
  have hB : Cel ((w.alloc (.cells Tryz.zeroCells78 78)).alloc (.cells Tryz.zeroCells78 78)) w.heap.size 2050 (scell (fun _ _ => 0) 0 0) := (Cel.new w _ _ _ _ (fun j hj => zeroStrip_get j hj) _ rfl).since ((Since.refl _).alloc _)
  have hA : Cel ((w.alloc (.cells Tryz.zeroCells78 78)).alloc (.cells Tryz.zeroCells78 78)) (w.heap.size + 1) 2050 (scell (laidBlk l 0) 0 0) := (Cel.new (w.alloc _) _ _ _ _ (fun j hj => zeroStrip_get j hj) _ (by simp))
  have hS : Since w ((w.alloc (.cells Tryz.zeroCells78 78)).alloc (.cells Tryz.zeroCells78 78)) := ((Since.refl w).alloc _).alloc _
  have HB : Hid (Cel _ w.heap.size 2050 (scell (fun _ _ => 0) 0 0)) := hB
  have HA : Hid (Cel _ (w.heap.size + 1) 2050 (scell (laidBlk l 0) 0 0)) := hA
  have HS : Hid (Since w _) := hS
  have HC : Hid (n ≤ c) := hc
  clear hA hB hS
  have hni : ¬ (n : Int) ≤ 16 := by omega
  have h16c : 16 ≤ c := by omega
  go_enter Tryz.func58, Tryz.ntmps58
  go_wp2_with fail
  try rw [show (max (16 : Int) 0) = 16 from rfl]
  go_loopw [12] (fun i wr => ∃ k : Nat, k ≤ 16 ∧ i = .int .i64 k ∧ Cel wr (w.heap.size + 1) 2050 (scell (laidBlk l k) k 0) ∧ Cel wr w.heap.size 2050 (scell (fun _ _ => 0) 0 0) ∧ Since w wr) (fun i _ => 16 - (intOf i).toNat)
  case atStart => exact ⟨0, by omega, rfl, HA.out, HB.out, HS.out⟩
  case round =>
    obtain ⟨k, hk, rfl, hz, hr, hsn⟩ := hrel
    have HZ : Hid (Cel wr (w.heap.size + 1) 2050 (scell (laidBlk l k) k 0)) := hz
    have HR : Hid (Cel wr w.heap.size 2050 (scell (fun _ _ => 0) 0 0)) := hr
    have HSN : Hid (Since w wr) := hsn
    clear hz hr hsn HA HB HS
    by_cases hlt : k < 16
    · have hlt2 : (k : Int) < (16 : Nat) := by omega
      obtain ⟨lk, lo, rfl, hlc⟩ := HT.out (by omega)
      have q1 := (HSN.out.cell (p := ⟨lk, lo + k, none⟩) (World.block_lt_of_cell? w _ (hlc k (by omega)))).trans (hlc k (by omega))
      clear hlc
      go_wp2_with fail
      refine (add_any (w.heap.size + 1) 0 k 2050 (scell (laidBlk l k) k 0) (l k) _ HZ.out (by omega) (by unfold scell; rfl) (by omega)).mono ?_
      rintro e w2 ⟨rfl, hw2⟩
      have hz2 : Cel w2 (w.heap.size + 1) 2050 (scell (laidBlk l (k + 1)) (k + 1) 0) := by
        rw [hw2, Nat.zero_add, Nat.zero_add]
        refine (((HZ.out.since (Since.refl _).drew).setRow (k * 128) (min (l k).size 128) (by omega) (fun i => bv (sb (l k) i))).set 2048 (by omega) (.int .i64 (k + 1))).congr (fun j hj => ?_)
        rw [scell_add (laidBlk l k) k 0 (l k) (by omega) (fun i _ => by unfold laidBlk; rw [if_neg (by omega)]) j hj, laidBlk_succ]
      have hr2 : Cel w2 w.heap.size 2050 (scell (fun _ _ => 0) 0 0) := by
        rw [hw2]
        exact ((HR.out.since (Since.refl _).drew).setRow_other _ (by omega)).other (by simp) _
      have hs2 : Since w w2 := by
        rw [hw2]
        exact ((HSN.out.drew).setCells (by omega) _ _).setCell (by simp) _
      have HZ2 : Hid (Cel w2 (w.heap.size + 1) 2050 (scell (laidBlk l (k + 1)) (k + 1) 0)) := hz2
      have HR2 : Hid (Cel w2 w.heap.size 2050 (scell (fun _ _ => 0) 0 0)) := hr2
      have HS2 : Hid (Since w w2) := hs2
      clear hw2 hz2 hr2 hs2 q1
      go_wp2_with fail
      go_roundw
      case rel => exact ⟨k + 1, by omega, by go_num, HZ2.out, HR2.out, HS2.out⟩
      case measure => simp [intOf]; omega
    · have hke : 16 = k := by omega
      subst hke
      have c1 := HZ.out.cell 2048 (by omega)
      rw [show scell (laidBlk l 16) 16 0 2048 = .int .i64 (16 : Nat) by unfold scell; rfl] at c1
      have c2 := HZ.out.cell 2049 (by omega)
      have f2 := HZ.out.frozen 2049 (by omega)
      have hz3 : Cel (wr.setCell ⟨w.heap.size + 1, 2049, none⟩ (.int .i64 (16 : Nat))) (w.heap.size + 1) 2050 (scell (laidBlk l 16) 16 16) := (HZ.out.set 2049 (by omega) _).congr (fun j hj => scell_sure _ 16 0 j hj)
      have hr3 : Cel (wr.setCell ⟨w.heap.size + 1, 2049, none⟩ (.int .i64 (16 : Nat))) w.heap.size 2050 (scell (fun _ _ => 0) 0 0) := HR.out.other (by simp) _
      have hs3 : Since w (wr.setCell ⟨w.heap.size + 1, 2049, none⟩ (.int .i64 (16 : Nat))) := HSN.out.setCell (by simp) _
      simp only [Int.cast_ofNat_Int] at c1 hz3 hr3 hs3
      have hR := hz3.range 0 2050 (by omega)
      simp only [Nat.zero_add] at hR
      have hst := hr3.store Tryz.prog 0 2050 (by omega) (scell (laidBlk l 16) 16 16) (fun _ _ => scell_one _ _ _ _)
      have hr4 := (hr3.setRow 0 2050 (by omega) (scell (laidBlk l 16) 16 16)).congr (g := scell (laidBlk l 16) 16 16) (fun j hj => by unfold updl; rw [if_pos (by omega)]; congr 1)
      have hR4 := hr4.range 0 2050 (by omega)
      simp only [Nat.zero_add] at hR4
      have hL : (brow 2050 (scell (laidBlk l 16) 16 16)).length = 2050 := brow_length _ _
      have HR4 : Hid _ := hR4
      have HS4 : Hid (Since w _) := hs3.setCells (b := w.heap.size) (Nat.le_refl _) (brow 2050 (scell (laidBlk l 16) 16 16)) 0
      clear hz3 hr3 hs3 hr4 hR4
      generalize hcs : brow 2050 (scell (laidBlk l 16) 16 16) = cs at *
      go_wp2_with (refine wpList_load_mid (by rfl) 78 _ (by rfl) (w.heap.size + 1) 0 (by rfl) _ _ hR Tryz.underlying78 (by rfl) (by rw [hL]; kernel_rfl) ?_)
      exact bodyPost_ret (results_row Tryz.results58 _ _ _ w.heap.size _ _ (by rfl) HR4.out Tryz.underlying78 (by rfl) (by rw [hL]; kernel_rfl)) rfl ⟨by rw [hcs], HS4.out⟩
theorem laid_any (a : Option Addr) (n c : Nat) (l : Nat → ByteArray) (w : World) (hs : Txs w a n l) (hc : n ≤ c) :
    Calls Tryz.prog 58 #[.slice a n c] w fun e w' => e = .returned (.agg (brow 2050 (scell (laidBlk l (min n 16)) (min n 16) (min n 16))).toArray) ∧ Since w w' := by
  by_cases h : n ≤ 16
  · rw [Nat.min_eq_left h]; exact laid_few a n c l w hs hc h
  · rw [Nat.min_eq_right (by omega)]; exact laid_many a n c l w hs hc (by omega)
end Go.Proofs.YtifnhnfjelfddaaGreatDoor
end
section
namespace Go.Proofs.YtifnhnfjelfddaaGreatDoor
open Go.RowKit
def Dv.layTo (D : Dv) (n : Nat → Nat) (l : Nat → Nat → ByteArray) (k : Nat) : Dv :=
  { D with blk := fun z => if z < k then laidBlk (l z) (min (n z) 16) else D.blk z, cnt := fun z => if z < k then min (n z) 16 else D.cnt z, sure := fun z => if z < k then min (n z) 16 else D.sure z }
theorem layTo_ok (D : Dv) (n : Nat → Nat) (l : Nat → Nat → ByteArray) (k : Nat) (h : D.ok) : (D.layTo n l k).ok where
  cnt z hz := by
    show (if z < k then _ else _) ≤ 16
    split
    · omega
    · exact h.cnt z hz
  sure z hz := by
    show (if z < k then _ else _) ≤ (if z < k then _ else _)
    split
    · exact Nat.le_refl _
    · exact h.sure z hz
  zero z j i hz hk hk2 hi := by
    show (if z < k then laidBlk (l z) (min (n z) 16) else D.blk z) j i = 0
    have hk' : (if z < k then min (n z) 16 else D.cnt z) ≤ j := hk
    by_cases e : z < k
    · rw [if_pos e] at hk' ⊢
      unfold laidBlk
      rw [if_neg (by omega)]
    · rw [if_neg e] at hk' ⊢
      exact h.zero z j i hz hk' hk2 hi
  left := h.left
  ws := h.ws
  few := h.few
set_option maxRecDepth 100000 in
theorem layTo_dev (D : Dv) (v : Value) (b k : Nat) (n : Nat → Nat) (l : Nat → Nat → ByteArray) (w : World) (hd : Dev w b (D.layTo n l k) v) (hok : D.ok) (hk : k < 8) : Dev (w.setCells b (k * 2050) (brow 2050 (scell (laidBlk (l k) (min (n k) 16)) (min (n k) 16) (min (n k) 16)))) b (D.layTo n l (k + 1)) v := by
  refine hd.turn ((hd.cel.setRow (k * 2050) 2050 (by omega) _).congr (fun j hj => ?_)) (Fr.setCells _ _ _ _ _) rfl (layTo_ok D n l (k + 1) hok)
  have hne : ∀ {α : Type} (z' : Nat) (x y : α), z' ≠ k → (if z' < k + 1 then x else y) = if z' < k then x else y := fun z' x y h => by
    by_cases h1 : z' < k
    · rw [if_pos h1, if_pos (by omega)]
    · rw [if_neg h1, if_neg (by omega)]
  refine dcell_turn (D.layTo n l k) (D.layTo n l (k + 1)) v k hk _ (fun j hj => ?_) (fun j hj => ?_) (fun z' h => ?_) (fun z' h => ?_) (fun z' h => ?_) rfl rfl rfl j
  · unfold updl
    rw [if_pos (by omega), show k * 2050 + j - k * 2050 = j by omega]
    have e1 : (D.layTo n l (k + 1)).blk k = laidBlk (l k) (min (n k) 16) := by show (if k < k + 1 then _ else _) = _; rw [if_pos (by omega)]
    have e2 : (D.layTo n l (k + 1)).cnt k = min (n k) 16 := by show (if k < k + 1 then _ else _) = _; rw [if_pos (by omega)]
    have e3 : (D.layTo n l (k + 1)).sure k = min (n k) 16 := by show (if k < k + 1 then _ else _) = _; rw [if_pos (by omega)]
    rw [e1, e2, e3]
  · unfold updl
    rw [if_neg (by omega)]
  · exact hne z' _ _ h
  · exact hne z' _ _ h
  · exact hne z' _ _ h
def Dv.laidBy (D : Dv) (n : Nat → Nat) (l : Nat → Nat → ByteArray) (s0 s1 : ByteArray) : Dv := (((D.layTo n l 8).slotTo 0 (sb s0)).slotTo 1 (sb s1)).none
theorem part_any (t : TypeId) (xs : Array Value) (i : Nat) (x : Value) (w : World) (ha : (isAgg t).run Tryz.prog w = .ok false w) (h : xs[i]? = some x) : (part t xs i).run Tryz.prog w = .ok x w := by
  simp [part, h, ha, Result.andThen]
theorem idx_azs (iv : Nat → Value) (k : Nat) (hk : k < 8) (w : World) : (Instr.index 58 (.agg (brow 8 iv).toArray) (.int .i64 (k : Int))).run Tryz.prog w = .ok (iv k) w := by
  have hp := part_any 23 (brow 8 iv).toArray k (iv k) w (Tryz.isAgg23 w) (by rw [List.getElem?_toArray]; exact brow_get _ _ _ hk)
  have hz : (Go.sizeOf 23).run Tryz.prog w = .ok 1 w := Tryz.sizeOf23 w
  have h2 : (0 : Int) ≤ k ∧ (k : Int) < 8 := by omega
  simp [Instr.index, go_sem, run_underlying Tryz.underlying58, hz, hk, brow_get 8 iv k hk, Result.andThen]
theorem idx_ass (sv : Nat → Value) (k : Nat) (hk : k < 2) (w : World) : (Instr.index 59 (.agg (brow 2 sv).toArray) (.int .i64 (k : Int))).run Tryz.prog w = .ok (sv k) w := by
  have hp := part_any 9 (brow 2 sv).toArray k (sv k) w (Tryz.isAgg9 w) (by rw [List.getElem?_toArray]; exact brow_get _ _ _ hk)
  have hz : (Go.sizeOf 9).run Tryz.prog w = .ok 1 w := Tryz.sizeOf9 w
  have h2 : (0 : Int) ≤ k ∧ (k : Int) < 2 := by omega
  simp [Instr.index, go_sem, run_underlying Tryz.underlying59, hz, hk, brow_get 2 sv k hk, Result.andThen]
structure Img (w : World) (b : Nat) (iv : Nat → Value) (n : Nat → Nat) (l : Nat → Nat → ByteArray) : Prop where
  row : ∀ z, z < 8 → ∃ a c, iv z = .slice a (n z) c ∧ n z ≤ c ∧ (0 < n z → ∃ k o, a = some ⟨k, o, none⟩ ∧ k ≠ b ∧ ∀ j, j < n z → w.cell? ⟨k, o + j, none⟩ = some (.string (l z j)))
theorem Img.fr {w w' : World} {b : Nat} {iv : Nat → Value} {n : Nat → Nat} {l : Nat → Nat → ByteArray} (h : Img w b iv n l) (hf : Fr b none w w') : Img w' b iv n l where
  row z hz := by
    obtain ⟨a, c, h1, h2, h3⟩ := h.row z hz
    refine ⟨a, c, h1, h2, fun hn => ?_⟩
    obtain ⟨k, o, ha, hk, hc⟩ := h3 hn
    exact ⟨k, o, ha, hk, fun j hj => (hf.cell (p := ⟨k, o + j, none⟩) (World.block_lt_of_cell? w _ (hc j hj)) hk (by simp)).trans (hc j hj)⟩
theorem img_get (iv : Nat → Value) (s0 s1 : ByteArray) (j : Nat) (hj : j < 10) : (brow 10 (icell iv s0 s1)).toArray[j]? = some (icell iv s0 s1 j) := by
  rw [List.getElem?_toArray]; exact brow_get _ _ _ hj
set_option maxRecDepth 100000 in
set_option maxHeartbeats 2000000 in
theorem lay_any (D : Dv) (v : Value) (b : Nat) (iv : Nat → Value) (s0 s1 : ByteArray) (n : Nat → Nat) (l : Nat → Nat → ByteArray) (w : World) (hd : Dev w b D v) (hi : Img w b iv n l) :
    Calls Tryz.prog 26 #[.pointer (some ⟨b, 0, none⟩), .agg (brow 10 (icell iv s0 s1)).toArray] w fun e w' => e = .returned (.tuple #[]) ∧ Dev w' b (D.laidBy n l s0 s1) (.slice none 0 0) ∧ Fr b none w w' := by
  have HD : Hid (Dev w b D v) := hd
  have HI : Hid (Img w b iv n l) := hi
  have hbl : b ≠ w.heap.size := by have := hd.lt; omega
  clear hd hi
  go_enter Tryz.func26, Tryz.ntmps26
  go_wp2_with fail
  have hC : Cel (w.alloc (.cells (brow 10 (icell iv s0 s1)).toArray 61)) w.heap.size 10 (icell iv s0 s1) := Cel.new w _ _ _ _ (img_get iv s0 s1) _ rfl
  have hS : Since w (w.alloc (.cells (brow 10 (icell iv s0 s1)).toArray 61)) := (Since.refl w).alloc _
  generalize w.alloc (.cells (brow 10 (icell iv s0 s1)).toArray 61) = w0 at *
  have HC : Hid (Cel w0 w.heap.size 10 (icell iv s0 s1)) := hC
  have HD0 : Hid (Dev w0 b (D.layTo n l 0) v) := HD.out.since hS
  have HI0 : Hid (Img w0 b iv n l) := HI.out.fr (Fr.of_since hS)
  have HF0 : Hid (Fr b none w w0) := Fr.of_since hS
  have HOK : Hid (D.ok) := HD.out.ok
  clear hC hS HD HI
  refine (orNew_any _ _).mono ?_
  rintro e w' ⟨rfl, rfl⟩
  have hR : w'.rangeAt w.heap.size 0 (brow 8 iv) := by
    have h := HC.out.range 0 8 (by omega)
    have e : brow 8 (fun j => icell iv s0 s1 (0 + j)) = brow 8 iv := by
      unfold brow
      exact List.map_congr_left (fun j hj => by unfold icell; rw [Nat.zero_add, if_pos (List.mem_range.1 hj)])
    rw [e] at h
    exact h
  have hL : (brow 8 iv).length = 8 := brow_length _ _
  have hix := fun (k : Nat) (hk : k < 8) (w : World) => idx_azs iv k hk w
  have HIX : Hid (∀ (k : Nat) (hk : k < 8) (w : World), (Instr.index 58 (.agg (brow 8 iv).toArray) (.int .i64 (k : Int))).run Tryz.prog w = .ok (iv k) w) := hix
  clear hix
  generalize hcs : brow 8 iv = cs at *
  go_wp2_with (refine wpList_load_mid (by rfl) 58 _ (by rfl) w.heap.size 0 (by rfl) _ _ hR Tryz.underlying58 (by rfl) (by rw [hL]; kernel_rfl) ?_)
  clear hR hL
  go_loopw [12] (fun i wr => ∃ k : Nat, k ≤ 8 ∧ i = .int .i64 k ∧ Dev wr b (D.layTo n l k) v ∧ Fr b none w' wr) (fun i _ => 8 - (intOf i).toNat)
  case atStart => exact ⟨0, by omega, rfl, HD0.out, Fr.refl _ _ _⟩
  case round =>
    obtain ⟨k, hk, rfl, hd, hf⟩ := hrel
    have HDK : Hid (Dev wr b (D.layTo n l k) v) := hd
    have HFK : Hid (Fr b none w' wr) := hf
    clear hd hf
    by_cases hlt : k < 8
    · have hlt2 : (k : Int) < 8 := by omega
      have hix := HIX.out k hlt
      obtain ⟨a, c, hiv, hnc, htx⟩ := (HI0.out.fr HFK.out).row k hlt
      rw [hiv] at hix
      have HTX : Hid (0 < n k → ∃ kb o, a = some ⟨kb, o, none⟩ ∧ kb ≠ b ∧ ∀ j, j < n k → wr.cell? ⟨kb, o + j, none⟩ = some (.string (l k j))) := htx
      clear htx hiv
      go_wp2_with fail
      clear hix
      go_region_with (go_at_call 58; refine (laid_any a (n k) c (l k) _ (fun h0 => by obtain ⟨kb, o, h1, _, h3⟩ := HTX.out h0; exact ⟨kb, o, h1, h3⟩) hnc).mono ?_; rintro e w1 ⟨rfl, hS1⟩; have hd1 := (HDK.out.since (Since.refl _).drew).since hS1; have hst := hd1.cel.store Tryz.prog (k * 2050) 2050 (by omega) (scell (laidBlk (l k) (min (n k) 16)) (min (n k) 16) (min (n k) 16)) (fun _ _ => scell_one _ _ _ _); have HD1 : Hid (Dev w1 b (D.layTo n l k) v) := hd1; clear hd1; have hL : (brow 2050 (scell (laidBlk (l k) (min (n k) 16)) (min (n k) 16) (min (n k) 16))).length = 2050 := brow_length _ _)
      have hd2 := layTo_dev D v b k n l w1 HD1.out HOK.out hlt
      have hf2 : Fr b none w' (w1.setCells b (k * 2050) (brow 2050 (scell (laidBlk (l k) (min (n k) 16)) (min (n k) 16) (min (n k) 16)))) := (HFK.out.trans' (Fr.of_since (Since.trans (Since.refl _).drew hS1))).trans' (Fr.setCells _ _ _ _ _)
      generalize w1.setCells b (k * 2050) _ = w2 at *
      have HD2 : Hid (Dev w2 b (D.layTo n l (k + 1)) v) := hd2
      have HF2 : Hid (Fr b none w' w2) := hf2
      clear hd2 hf2 hst HD1 hS1 hL
      go_wp2_with fail
      go_roundw
      case rel => exact ⟨k + 1, by omega, by go_num, HD2.out, HF2.out⟩
      case measure => simp [intOf]; omega
    · have hke : 8 = k := by omega
      subst hke
      have hC3 := HC.out.fr HFK.out (by omega) (by simp)
      have hR : wr.rangeAt w.heap.size 8 (brow 2 (fun j => if j = 0 then .string s0 else .string s1)) := by
        have h := hC3.range 8 2 (by omega)
        have e : brow 2 (fun j => icell iv s0 s1 (8 + j)) = brow 2 (fun j => if j = 0 then .string s0 else .string s1) := rfl
        rw [e] at h
        exact h
      have hL : (brow 2 (fun j => if j = 0 then Value.string s0 else .string s1)).length = 2 := brow_length _ _
      have hx0 := idx_ass (fun j => if j = 0 then .string s0 else .string s1) 0 (by omega)
      have hx1 := idx_ass (fun j => if j = 0 then .string s0 else .string s1) 1 (by omega)
      simp only [if_true, Nat.one_ne_zero, if_false, Int.cast_ofNat_Int] at hx0 hx1
      generalize hcs2 : brow 2 (fun j => if j = 0 then Value.string s0 else .string s1) = cs2 at *
      clear hC3
      go_wp2_with (refine wpList_load_mid (by rfl) 59 _ (by rfl) w.heap.size 8 (by rfl) _ _ hR Tryz.underlying59 (by rfl) (by rw [hL]; kernel_rfl) ?_)
      clear hR hL
      refine wp_loop_rounds 3 ?_
      rw [rounds_succ]
      go_wp2_with fail
      go_region_with (go_at_call 59; refine (slotOf_any s0 _).mono ?_; rintro e w1 ⟨rfl, hS1⟩; have hd1 := (HDK.out.since (Since.refl _).drew).since hS1; have hst := hd1.cel.store Tryz.prog 16400 500 (by omega) (fun i => bv (sb s0 i)) (fun _ _ => rfl); have HD1 : Hid (Dev w1 b (D.layTo n l 8) v) := hd1; clear hd1; have hL : (brow 500 (fun i => bv (sb s0 i))).length = 500 := brow_length _ _)
      have hd2 := slotTo_dev _ v b 0 (sb s0) w1 HD1.out (by omega)
      have hf2 : Fr b none w' (w1.setCells b (16400 + 0 * 500) (brow 500 (fun i => bv (sb s0 i)))) := (HFK.out.trans' (Fr.of_since (Since.trans (Since.refl _).drew hS1))).trans' (Fr.setCells _ _ _ _ _)
      rw [show 16400 + 0 * 500 = 16400 from rfl] at hd2 hf2
      generalize w1.setCells b 16400 (brow 500 (fun i => bv (sb s0 i))) = w2 at *
      have HD2 : Hid (Dev w2 b ((D.layTo n l 8).slotTo 0 (sb s0)) v) := hd2
      have HF2 : Hid (Fr b none w' w2) := hf2
      clear hd2 hf2 hst HD1 hS1 hL hx0
      go_wp2_with fail
      rw [rounds_succ]
      go_wp2_with fail
      go_region_with (go_at_call 59; refine (slotOf_any s1 _).mono ?_; rintro e w3 ⟨rfl, hS3⟩; have hd3 := (HD2.out.since (Since.refl _).drew).since hS3; have hst := hd3.cel.store Tryz.prog 16900 500 (by omega) (fun i => bv (sb s1 i)) (fun _ _ => rfl); have HD3 : Hid (Dev w3 b ((D.layTo n l 8).slotTo 0 (sb s0)) v) := hd3; clear hd3; have hL : (brow 500 (fun i => bv (sb s1 i))).length = 500 := brow_length _ _)
      have hd4 := slotTo_dev _ v b 1 (sb s1) w3 HD3.out (by omega)
      have hf4 : Fr b none w' (w3.setCells b (16400 + 1 * 500) (brow 500 (fun i => bv (sb s1 i)))) := (HF2.out.trans' (Fr.of_since (Since.trans (Since.refl _).drew hS3))).trans' (Fr.setCells _ _ _ _ _)
      rw [show 16400 + 1 * 500 = 16900 from rfl] at hd4 hf4
      generalize w3.setCells b 16900 (brow 500 (fun i => bv (sb s1 i))) = w4 at *
      have c4 := hd4.cel.cell 17400 (by omega)
      have f4 := hd4.cel.frozen 17400 (by omega)
      rw [dcell_ws] at c4
      have HD4 : Hid (Dev w4 b (((D.layTo n l 8).slotTo 0 (sb s0)).slotTo 1 (sb s1)) v) := hd4
      have HF4 : Hid (Fr b none w' w4) := hf4
      clear hd4 hf4 hst HD3 hS3 hL hx1
      go_wp2_with fail
      rw [rounds_succ]
      go_wp2_with fail
      go_end0
      exact ⟨rfl, none_dev _ v b w4 HD4.out, (HF0.out.trans' HF4.out).trans' (Fr.setCell _ _ _ _ _)⟩
end Go.Proofs.YtifnhnfjelfddaaGreatDoor
end
