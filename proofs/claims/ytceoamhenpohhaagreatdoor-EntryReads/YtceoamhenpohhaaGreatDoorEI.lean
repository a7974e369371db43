/- Package entry: a text's lines, one after the other. -/
import Derived.Test.YtceoamhenpohhaaGreatDoorEH
import Derived.RangeFuncNested
import Derived.RangeFuncBound
import Derived.RangeFuncCalls
import Derived.RangeFuncLeaves
import Derived.Shelf.Abstract
import Derived.Shelf.RegionOpen
import Derived.OwnWalkIn
import Derived.TacticsInMore
import Derived.LoopNIn
import Derived.LoopIn
namespace Go.Proofs.YtceoamhenpohhaaGreatDoor
set_option linter.unusedSimpArgs false
set_option linter.unusedVariables false
set_option maxRecDepth 100000
namespace En
open Go.RowKit Go.Shelf
attribute [local go_sem] Oper.semAt_some
/-- a line, short enough -/
abbrev Ln := { t : ByteArray // t.size ≤ 1000 }
def lnOf (l : List Ln) : List (List UInt8) := l.map (fun x => x.1.data.toList)
theorem lnOf_append (a b : List Ln) : lnOf (a ++ b) = lnOf a ++ lnOf b := by simp [lnOf]
def encl (x : Ln) : Array Value := #[.string x.1]
def strLen : Value → Nat
  | .string b => b.size
  | _ => 0
theorem cut_le (s : List UInt8) : (Lib.cut s [10]).1.length ≤ s.length := by
  unfold Lib.cut
  split
  · simp; omega
  · exact Nat.le_refl _
theorem lines_step (s : List UInt8) (h : s ≠ []) : linesL s = (Lib.cut s [10]).1 :: linesL (Lib.cut s [10]).2.1 := by
  rw [linesL_eq, dif_neg h]
theorem cut_max (s : ByteArray) (hs : s.size ≤ 100000) (w : World) (m : Int) (hm : w.cell? ⟨4, 0, none⟩ = some (.int .i64 m)) :
    Calls Tryz.prog 46 #[.string s, .string ⟨#[10]⟩] w fun e w' => e = .returned (.tuple #[.string ⟨(Lib.cut s.data.toList [10]).1.toArray⟩, .string ⟨(Lib.cut s.data.toList [10]).2.1.toArray⟩, .bool (Lib.cut s.data.toList [10]).2.2]) ∧ ∃ n, w' = w.drewN n := by
  refine (Tryz.strings_Cut s ⟨#[10]⟩ m w (by omega) hm).mono ?_
  rintro e w' ⟨rfl, n, rfl⟩
  exact ⟨rfl, n, rfl⟩
theorem grownBy_drewN (w : World) (k : Nat) : w.grownBy (w.drewN k) none :=
  have h := (Since.refl w).drewN k
  ⟨h.os, h.tape, h.output, h.size, fun j hj _ => h.block j hj⟩
set_option maxHeartbeats 1000000 in
theorem linesF_in (n : Nat) (hn : 1 ≤ n) (l Bn n₀ : Nat) (s : ByteArray) (hs : s.size ≤ 1000) (J Jx : List Ln → World → Prop) (hJ : ∀ pre W k, J pre W → J pre (W.drewN k)) (m : Int)
    (hY : ∀ pre x W, J pre W → pre.length < (linesL s.data.toList).length → YieldAt Fence.wide (n - 1) Tryz.prog l (encl x) W fun e W' =>
      (e = .returned (.bool true) ∧ J (pre ++ [x]) W' ∧ Below n₀ W W') ∨ (e = .returned (.bool false) ∧ Jx (pre ++ [x]) W'))
    (W : World) (hBn : W.cell? ⟨Bn, 0, none⟩ = some (.string s)) (hm : W.cell? ⟨4, 0, none⟩ = some (.int .i64 m)) (hg0 : 4 < n₀) (h0 : J [] W) :
    CallsIn Fence.wide n Tryz.prog 45 #[.func (.yield l) #[] #[], .pointer (some ⟨Bn, 0, none⟩)] W fun e W' => (∃ v, e = .returned v) ∧
      ((∃ ys, lnOf ys = linesL s.data.toList ∧ J ys W') ∨ (∃ pre, lnOf pre <+: linesL s.data.toList ∧ Jx pre W')) := by
  refine callsIn_of_wp Tryz.func45 rfl trivial ?_ rfl
  simp only [Tryz.ntmps45, List.size_toArray, List.length_cons, List.length_nil, Nat.reduceAdd, Nat.reduceSub, Array.replicate_succ, Array.replicate_zero, List.push_toArray, List.append_toArray, List.nil_append, List.cons_append]
  gi_wp2
  have HY : Hid (∀ pre x W, J pre W → pre.length < (linesL s.data.toList).length → YieldAt Fence.wide (n - 1) Tryz.prog l (encl x) W fun e W' =>
      (e = .returned (.bool true) ∧ J (pre ++ [x]) W' ∧ Below n₀ W W') ∨ (e = .returned (.bool false) ∧ Jx (pre ++ [x]) W')) := hY
  have HJ : Hid (∀ pre W k, J pre W → J pre (W.drewN k)) := hJ
  clear hY hJ
  gi_loopw [3, 4, 5, 6] (fun p _ _ _ wr => ∃ (pre : List Ln) (r : List UInt8), p = .string ⟨r.toArray⟩ ∧ r.length ≤ 1000 ∧ lnOf pre ++ linesL r = linesL s.data.toList ∧ wr.cell? ⟨4, 0, none⟩ = some (.int .i64 m) ∧ J pre wr)
    (fun p _ _ _ wr => strLen p)
  case atStart => exact ⟨[], s.data.toList, rfl, hs, rfl, hm, h0⟩
  case round =>
    obtain ⟨pre, r, rfl, hr, hl, hmx, hJ⟩ := hrel
    have HL : Hid (lnOf pre ++ linesL r = linesL s.data.toList) := hl
    clear hl
    have hdl : (⟨r.toArray⟩ : ByteArray).toList = r := by rw [Lib.toList_data]
    by_cases hne : r = []
    · have hz : (⟨r.toArray⟩ : ByteArray).toList = [] := by rw [hdl, hne]
      have hl2 := HL.out
      rw [hne, linesL_eq, dif_pos rfl, List.append_nil] at hl2
      have HL2 : Hid (lnOf pre = linesL s.data.toList) := hl2
      clear hl2 hne HL hdl
      gi_wp2
      go_end0
      exact ⟨⟨_, rfl⟩, .inl ⟨pre, HL2.out, hJ⟩⟩
    · have hz2 : r.isEmpty = false := by
        cases r with
        | nil => exact absurd rfl hne
        | cons a b => rfl
      have hc1 := cut_le r
      have hc2 := cut_lt r hne
      have hl2 := HL.out
      rw [lines_step r hne] at hl2
      have hdr : (⟨r.toArray⟩ : ByteArray).data.toList = r := by simp
      have hsz : (⟨r.toArray⟩ : ByteArray).size = r.length := List.size_toArray
      have hcut := cut_max ⟨r.toArray⟩ (by omega) wr m hmx
      rw [hdr] at hcut
      have HCUT : Hid (Calls Tryz.prog 46 #[.string ⟨r.toArray⟩, .string ⟨#[10]⟩] wr fun e w' => e = .returned (.tuple #[.string ⟨(Lib.cut r [10]).1.toArray⟩, .string ⟨(Lib.cut r [10]).2.1.toArray⟩, .bool (Lib.cut r [10]).2.2]) ∧ ∃ n, w' = wr.drewN n) := hcut
      have HSZ : Hid ((⟨r.toArray⟩ : ByteArray).size = r.length) := hsz
      clear hcut hdr hdl hsz
      generalize (Lib.cut r [10]).1 = t at *
      generalize (Lib.cut r [10]).2.1 = b at *
      generalize (Lib.cut r [10]).2.2 = fd at *
      have HL2 : Hid (lnOf pre ++ t :: linesL b = linesL s.data.toList) := hl2
      clear hl2 HL
      have htz : (⟨t.toArray⟩ : ByteArray).size ≤ 1000 := by rw [show (⟨t.toArray⟩ : ByteArray).size = t.length from List.size_toArray]; omega
      have HLX : Hid (lnOf (pre ++ [⟨⟨t.toArray⟩, htz⟩]) = lnOf pre ++ [t]) := by
        show lnOf (pre ++ [⟨⟨t.toArray⟩, htz⟩]) = _
        rw [lnOf_append]
        simp [lnOf]
      have HLN : Hid (pre.length < (linesL s.data.toList).length) := by
        show pre.length < (linesL s.data.toList).length
        rw [← HL2.out]
        simp [lnOf]
      generalize hx : (⟨⟨t.toArray⟩, htz⟩ : Ln) = x at *
      have hx1 : x.1 = ⟨t.toArray⟩ := by rw [← hx]
      have HX1 : Hid (x.1 = ⟨t.toArray⟩) := hx1
      clear hx hx1
      gi_wp2
      refine ⟨trivial, ?_⟩
      refine (callsIn_wide.2 HCUT.out).mono ?_
      rintro e w1 ⟨rfl, kd, hw1⟩
      have hJ1 : J pre w1 := by rw [hw1]; exact HJ.out _ _ _ hJ
      have hmx1 : w1.cell? ⟨4, 0, none⟩ = some (.int .i64 m) := by rw [hw1, ((Since.refl wr).drewN kd).cell (p := ⟨4, 0, none⟩) (World.block_lt_of_cell? _ _ hmx)]; exact hmx
      clear hw1 hmx hJ
      obtain ⟨fn, tmps, assign, body, hy, hR⟩ := HY.out pre x w1 hJ1 HLN.out
      have hy' : (Instr.yield l #[.string ⟨t.toArray⟩]).run Tryz.prog w1 = .ok (.round l fn tmps assign body) w1 := by
        have := hy
        unfold encl at this
        rw [HX1.out] at this
        exact this
      clear hy
      gi_wp2
      refine hR.mono ?_
      rintro e W3 (⟨rfl, hJ3, hk3⟩ | ⟨rfl, hJx3⟩)
      · have hmx3 : W3.cell? ⟨4, 0, none⟩ = some (.int .i64 m) := (hk3.cell (p := ⟨4, 0, none⟩) hg0).trans hmx1
        gi_wp2
        go_roundw
        case rel => exact ⟨pre ++ [x], b, rfl, by omega, by rw [HLX.out, ← HL2.out]; simp, hmx3, hJ3⟩
        case measure =>
          show (⟨b.toArray⟩ : ByteArray).size < (⟨r.toArray⟩ : ByteArray).size
          rw [HSZ.out, show (⟨b.toArray⟩ : ByteArray).size = b.length from List.size_toArray]
          exact hc2
      · gi_wp2
        refine bodyPost_ret (results_none rfl _ _ _) rfl ?_
        refine ⟨⟨_, rfl⟩, .inr ⟨pre ++ [x], ?_, hJx3⟩⟩
        rw [HLX.out, ← HL2.out]
        exact ⟨linesL b, by simp⟩
theorem lines_stops (n : Nat) (hn : 1 ≤ n) (Bn n₀ : Nat) (s : ByteArray) (hs : s.size ≤ 1000) (w : World) (hn₀ : n₀ ≤ w.heap.size) (hg0 : 4 < n₀) (hc : w.cell? ⟨Bn, 0, none⟩ = some (.string s)) (m : Int) (hm : w.cell? ⟨4, 0, none⟩ = some (.int .i64 m)) :
    SeqStopsK Fence.wide n Tryz.prog 45 #[.pointer (some ⟨Bn, 0, none⟩)] encl (Below n₀) (fun ys => lnOf ys = linesL s.data.toList) (fun pre => lnOf pre <+: linesL s.data.toList) (linesL s.data.toList).length w := fun l J Jx W hW hJ _ hY h0 =>
  linesF_in n hn l Bn n₀ s hs J Jx (fun pre W' k h => hJ pre W' _ none h (grownBy_drewN W' k) (fun r e => by cases e)) m hY W ((hW.cell (p := ⟨Bn, 0, none⟩) (World.block_lt_of_cell? _ _ hc)).trans hc) ((hW.cell (p := ⟨4, 0, none⟩) (by show 4 < _; omega)).trans hm) hg0 h0
theorem lines_in (n : Nat) (s : ByteArray) (w : World) :
    CallsIn Fence.wide n Tryz.prog 36 #[.string s] w fun e w' => e = .returned (.func (.func 45) #[] #[.pointer (some ⟨w.heap.size, 0, none⟩)]) ∧ w' = w.alloc (.cells #[.string s] 9) := by
  refine callsIn_of_wp Tryz.func36 rfl trivial ?_ rfl
  simp only [Tryz.ntmps36, List.size_toArray, List.length_cons, List.length_nil, Nat.reduceAdd, Nat.reduceSub, Array.replicate_succ, Array.replicate_zero, List.push_toArray, List.append_toArray, List.nil_append, List.cons_append]
  gi_wp2
  go_ret
  exact ⟨rfl, rfl⟩
end En
end Go.Proofs.YtceoamhenpohhaaGreatDoor
