import Derived.Test.YtkkfmpplfcdgmaaDoorE6
import Derived.Test.YtkkfmpplfcdgmaaDoorE7
namespace Go.Proofs.YtkkfmpplfcdgmaaDoor
set_option linter.unusedSimpArgs false
set_option linter.unusedVariables false
open Go.RowKit Go.Extern.Stop Go.Stop Go.Extern

/-- errors' own variable of the type error, as it is laid -/
def Et (w : World) : Prop := w.cell? ⟨2, 0, none⟩ = some (.iface 135 (.agg #[.pointer (some ⟨6, 34, none⟩)]))
theorem Et.since {w w' : World} (h : Et w) (hs : Since w w') : Et w' := by
  unfold Et at *
  rw [hs.cell (p := ⟨2, 0, none⟩) (World.block_lt_of_cell? w _ h)]; exact h

theorem tell_nil (w : World) : Calls Tryd.prog 48 #[.nilIface] w fun e w' => e = .returned (.int .i64 0) ∧ w' = w := by
  go_enter Tryd.func48, Tryd.ntmps48
  go_wp2_with fail
  go_ret
  exact ⟨rfl, rfl⟩
set_option maxHeartbeats 1000000 in
set_option maxRecDepth 100000 in
theorem tell_hit (n : Int) (w : World) (hg : Et w) : Calls Tryd.prog 48 #[.iface 30 (.int .i64 n)] w fun e w' => e = .returned (.int .i64 n) ∧ Since w w' := by
  have hg2 : (w.alloc (.cells #[.int .i64 0] 30)).cell? ⟨2, 0, none⟩ = some (.iface 135 (.agg #[.pointer (some ⟨6, 34, none⟩)])) := Et.since hg ((Since.refl w).alloc _)
  have ht : (w.alloc (.cells #[.int .i64 0] 30)).cell? ⟨w.heap.size, 0, none⟩ = some (.int .i64 0) := by simp
  have hf : (w.alloc (.cells #[.int .i64 0] 30)).frozen? ⟨w.heap.size, 0, none⟩ = false := by simp
  have HG := (show Hid _ from hg2)
  clear hg hg2
  go_enter Tryd.func48, Tryd.ntmps48
  go_wp2_with fail
  refine (as_hit n ⟨w.heap.size, 0, none⟩ (.int .i64 0) _ HG.out ht hf).mono ?_
  rintro e w' ⟨rfl, hw'⟩
  have hc : w'.cell? ⟨w.heap.size, 0, none⟩ = some (.int .i64 n) := by
    rw [hw']
    refine World.cell?_setCell_same (u := .int .i64 0) _ _ _ ?_
    rw [World.cell?_alloc_lt _ _ ⟨w.heap.size, 0, none⟩ (by simp; omega), World.cell?_alloc_lt _ _ ⟨w.heap.size, 0, none⟩ (by simp; omega), World.cell?_alloc_lt _ _ ⟨w.heap.size, 0, none⟩ (by simp; omega), World.cell?_alloc_lt _ _ ⟨w.heap.size, 0, none⟩ (by simp)]
    exact ht
  have hS : Since w w' := by
    rw [hw']
    exact (((((((Since.refl w).alloc _).alloc _).alloc _).alloc _).alloc _)).setCell (Nat.le_refl _) _
  clear hw' ht hf HG
  go_wp2_with fail
  go_ret
  exact ⟨rfl, hS⟩

theorem as30_88 (v : Value) (w : World) : (Instr.typeAssert (.iface 30 v) 34 88 true).run Tryd.prog w = .ok (.tuple #[.nilIface, .bool false]) w := run_typeAssert_lacksB Tryd.underlying88 (by kernel_rfl) (by kernel_rfl) v 34 w
theorem as30_84 (n : Int) (w : World) : (Instr.typeAssert (.iface 30 (.int .i64 n)) 34 84 true).run Tryd.prog w = .ok (.tuple #[.pointer none, .bool false]) w := by kernel_rfl
theorem place_nil (w : World) : Calls Tryd.prog 38 #[.nilIface] w fun e w' => e = .returned (.tuple #[.int .i64 0, .int .i64 (-1)]) ∧ w' = w := by
  go_enter Tryd.func38, Tryd.ntmps38
  go_wp2_with fail
  refine (tell_nil _).mono ?_
  rintro e w' ⟨rfl, rfl⟩
  go_wp2_with fail
  refine wp_loop_rounds 1 ?_
  rw [rounds_succ]
  go_wp2_with fail
  go_ret2
  exact ⟨rfl, rfl⟩

set_option maxHeartbeats 1000000 in
set_option maxRecDepth 100000 in
theorem place_hit (n : Int) (w : World) (hg : Et w) : Calls Tryd.prog 38 #[.iface 30 (.int .i64 n)] w fun e w' => e = .returned (.tuple #[.int .i64 n, .int .i64 (-1)]) ∧ Since w w' := by
  go_enter Tryd.func38, Tryd.ntmps38
  go_wp2_with fail
  refine (tell_hit n _ hg).mono ?_
  rintro e w' ⟨rfl, hS⟩
  clear hg
  have a1 := as30_88
  have a2 := as30_84
  go_wp2_with fail
  refine wp_loop_rounds 1 ?_
  rw [rounds_succ]
  go_wp2_with fail
  go_ret2
  exact ⟨rfl, hS⟩

theorem bare_nil (w : World) : Calls Tryd.prog 17 #[.nilIface, .int .i64 0] w fun e w' => e = .returned (.bool true) ∧ w' = w := by
  go_enter Tryd.func17, Tryd.ntmps17
  go_wp2_with fail
  refine (place_nil _).mono ?_
  rintro e w' ⟨rfl, rfl⟩
  go_wp2_with fail
  go_ret
  exact ⟨rfl, rfl⟩
theorem bare_hit (n : Int) (w : World) (hg : Et w) : Calls Tryd.prog 17 #[.iface 30 (.int .i64 n), .int .i64 n] w fun e w' => e = .returned (.bool true) ∧ Since w w' := by
  go_enter Tryd.func17, Tryd.ntmps17
  go_wp2_with fail
  refine (place_hit n _ hg).mono ?_
  rintro e w' ⟨rfl, hS⟩
  go_wp2_with fail
  go_ret
  exact ⟨by simp, hS⟩
theorem long_any (s : ByteArray) (w : World) : Calls Tryd.prog 5 #[.string s] w fun e w' => e = .returned (.bool (decide (60 < s.size))) ∧ w' = w := by
  go_enter Tryd.func5, Tryd.ntmps5
  go_wp2_with fail
  go_ret
  refine ⟨?_, rfl⟩
  simp
  omega

set_option maxHeartbeats 2000000 in
theorem law_any (key nonce s : ByteArray) (n : Int) (w : World) (hg : Et w) (m0 : -9223372036854775808 ≤ n) (m1 : n ≤ 9223372036854775807) :
    Calls Tryd.prog 4 #[.string key, .int .i64 n, .string nonce, .string s] w fun e w' => e = .returned (.bool true) ∧ Since w w' := by
  have HG := (show Hid (Et w) from hg)
  clear hg
  by_cases h1 : 60 < key.size
  · go_enter Tryd.func4, Tryd.ntmps4
    go_wp2_with fail
    refine (long_any _ _).mono ?_
    rintro e w1 ⟨rfl, rfl⟩
    rw [decide_eq_true h1]
    go_wp2_with fail
    go_ret
    exact ⟨rfl, Since.refl _⟩
  by_cases h2 : 60 < nonce.size
  · go_enter Tryd.func4, Tryd.ntmps4
    go_wp2_with fail
    refine (long_any _ _).mono ?_
    rintro e w1 ⟨rfl, rfl⟩
    rw [decide_eq_false h1]
    go_wp2_with fail
    refine (long_any _ _).mono ?_
    rintro e w1 ⟨rfl, rfl⟩
    rw [decide_eq_true h2]
    go_wp2_with fail
    go_ret
    exact ⟨rfl, Since.refl _⟩
  by_cases h3 : s.size ≤ 300
  case neg =>
    go_enter Tryd.func4, Tryd.ntmps4
    go_wp2_with fail
    refine (long_any _ _).mono ?_
    rintro e w1 ⟨rfl, rfl⟩
    rw [decide_eq_false h1]
    go_wp2_with fail
    refine (long_any _ _).mono ?_
    rintro e w1 ⟨rfl, rfl⟩
    rw [decide_eq_false h2]
    go_wp2_with fail
    go_ret
    exact ⟨rfl, Since.refl _⟩
  by_cases hk : key.size = 32 ∧ nonce.size = 12
  · obtain ⟨hk1, hk2⟩ := hk
    by_cases hn : 0 ≤ n ∧ n < 4294967296
    · obtain ⟨n0, n1⟩ := hn
      go_enter Tryd.func4, Tryd.ntmps4
      go_wp2_with fail
      refine (long_any _ _).mono ?_
      rintro e w1 ⟨rfl, rfl⟩
      rw [decide_eq_false h1]
      go_wp2_with fail
      refine (long_any _ _).mono ?_
      rintro e w1 ⟨rfl, rfl⟩
      rw [decide_eq_false h2]
      go_wp2_with fail
      refine (refBlock_any key nonce n _ hk1 hk2 n0 n1).mono ?_
      rintro e w2 ⟨rfl, hS2⟩
      generalize hB : strOfNums (blockOf key (BitVec.ofInt 32 n) nonce) = B
      have HB := (show Hid (strOfNums (blockOf key (BitVec.ofInt 32 n) nonce) = B) from hB)
      clear hB
      go_wp2_with fail
      refine (block_any key nonce n _ hk1 hk2 n0 n1).mono ?_
      rintro e w3 ⟨rfl, hS3⟩
      rw [HB.out]
      have hS23 := hS2.trans hS3
      go_wp2_with fail
      refine (bare_nil _).mono ?_
      rintro e w4 ⟨rfl, rfl⟩
      go_wp2_with fail
      refine (refXor_any key nonce s _ hk1 hk2 (by omega)).mono ?_
      rintro e w5 ⟨rfl, hS5⟩
      have hS25 := hS23.trans hS5
      generalize hX : strOfNums (xorOf key nonce s) = X
      have HX := (show Hid (strOfNums (xorOf key nonce s) = X) from hX)
      clear hX
      go_wp2_with fail
      refine (xor_any key nonce s _ hk1 hk2 (by omega)).mono ?_
      rintro e w6 ⟨rfl, hS6⟩
      rw [HX.out]
      go_wp2_with fail
      refine (bare_nil _).mono ?_
      rintro e w7 ⟨rfl, rfl⟩
      go_wp2_with fail
      go_ret
      exact ⟨rfl, hS25.trans hS6⟩
    · have hbad : ¬ (key.size = 32 ∧ nonce.size = 12 ∧ 0 ≤ n ∧ n < 4294967296) := fun h => hn h.2.2
      go_enter Tryd.func4, Tryd.ntmps4
      go_wp2_with fail
      refine (long_any _ _).mono ?_
      rintro e w1 ⟨rfl, rfl⟩
      rw [decide_eq_false h1]
      go_wp2_with fail
      refine (long_any _ _).mono ?_
      rintro e w1 ⟨rfl, rfl⟩
      rw [decide_eq_false h2]
      go_wp2_with fail
      refine (refBlock_bad key nonce n _ hbad).mono ?_
      rintro e w2 ⟨rfl, rfl⟩
      go_wp2_with fail
      refine (block_bad key nonce n _ hbad m0 m1).mono ?_
      rintro e w3 ⟨rfl, rfl⟩
      go_wp2_with fail
      refine (bare_hit 1 _ HG.out).mono ?_
      rintro e w4 ⟨rfl, hS4⟩
      go_wp2_with fail
      refine (refXor_any key nonce s _ hk1 hk2 (by omega)).mono ?_
      rintro e w5 ⟨rfl, hS5⟩
      have hS25 := hS4.trans hS5
      generalize hX : strOfNums (xorOf key nonce s) = X
      have HX := (show Hid (strOfNums (xorOf key nonce s) = X) from hX)
      clear hX
      go_wp2_with fail
      refine (xor_any key nonce s _ hk1 hk2 (by omega)).mono ?_
      rintro e w6 ⟨rfl, hS6⟩
      rw [HX.out]
      go_wp2_with fail
      refine (bare_nil _).mono ?_
      rintro e w7 ⟨rfl, rfl⟩
      go_wp2_with fail
      go_ret
      exact ⟨rfl, hS25.trans hS6⟩
  · have hbad : ¬ (key.size = 32 ∧ nonce.size = 12 ∧ 0 ≤ n ∧ n < 4294967296) := fun h => hk ⟨h.1, h.2.1⟩
    go_enter Tryd.func4, Tryd.ntmps4
    go_wp2_with fail
    refine (long_any _ _).mono ?_
    rintro e w1 ⟨rfl, rfl⟩
    rw [decide_eq_false h1]
    go_wp2_with fail
    refine (long_any _ _).mono ?_
    rintro e w1 ⟨rfl, rfl⟩
    rw [decide_eq_false h2]
    go_wp2_with fail
    refine (refBlock_bad key nonce n _ hbad).mono ?_
    rintro e w2 ⟨rfl, rfl⟩
    go_wp2_with fail
    refine (block_bad key nonce n _ hbad m0 m1).mono ?_
    rintro e w3 ⟨rfl, rfl⟩
    go_wp2_with fail
    refine (bare_hit 1 _ HG.out).mono ?_
    rintro e w4 ⟨rfl, hS4⟩
    go_wp2_with fail
    refine (refXor_bad key nonce s _ hk).mono ?_
    rintro e w5 ⟨rfl, rfl⟩
    go_wp2_with fail
    refine (xor_bad key nonce s _ hk).mono ?_
    rintro e w6 ⟨rfl, rfl⟩
    go_wp2_with fail
    refine (bare_hit 1 _ (HG.out.since hS4)).mono ?_
    rintro e w7 ⟨rfl, hS7⟩
    go_wp2_with fail
    go_ret
    exact ⟨rfl, hS4.trans hS7⟩
end Go.Proofs.YtkkfmpplfcdgmaaDoor
