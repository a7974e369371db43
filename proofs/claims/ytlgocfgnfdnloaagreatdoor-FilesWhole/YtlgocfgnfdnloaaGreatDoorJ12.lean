import Derived.OrdersHeld
import Derived.Deep.RegionHeld3
import Derived.Deep.MidRow
import Derived.Test.YtlgocfgnfdnloaaGreatDoorJ02
set_option linter.unusedSimpArgs false
set_option linter.unusedVariables false
namespace Go.Proofs.YtlgocfgnfdnloaaGreatDoor
set_option maxRecDepth 100000
namespace Tw
open Go.RowKit
theorem takeD {P : Program} {ops : Array Oper} {Q : Exit → Act → World → Prop} {md : Region.Mode} {S : World → Prop} {i d : Nat} {oi : Oper} {v : Value} {fuel : Nat} {listed : Array Bool} {tmps : Array Value} {dfs : List Deferred} {w : World} (hi : ops[i]? = some oi) (hd : oi.dst = some d)
    (hs : Region.noSelect ops = true) (hf : Region.free md ops listed i = true) (hr : (Region.ready md ops listed).contains i = true)
    (hQ : ∀ c a w, Q (.panic c) (a.put oi.dst v) w → Q (.panic c) a w) (hy : YieldsIf P ops S oi v ⟨tmps, dfs⟩) (hS : S w)
    (h : wpAnyH P md ops Q S fuel (listed.setIfInBounds i true) ⟨tmps.setIfInBounds d v, dfs⟩ w) : wpAnyH P md ops Q S (fuel + 1) listed ⟨tmps, dfs⟩ w :=
  wpAnyH_take hi hs hf hr hQ hy hS (by rw [hd]; exact h)
theorem wanted_by {ops : Array Oper} {o oj : Oper} {j d : Nat} {want : Bool} {tmps : Array Value} (hg : o.guard = some (j, want)) (hj : ops[j]? = some oj) (hd : oj.dst = some d) (ht : tmps[d]? = some (.bool want)) : Region.wanted o (yielded ops tmps) = true := by
  unfold Region.wanted yielded
  rw [hg]
  simp only [hj, Option.bind_some, hd, ht]
  cases want <;> rfl
theorem unwanted_by {ops : Array Oper} {o oj : Oper} {j d : Nat} {want x : Bool} {tmps : Array Value} (hg : o.guard = some (j, want)) (hj : ops[j]? = some oj) (hd : oj.dst = some d) (ht : tmps[d]? = some (.bool x)) (hne : x ≠ want) : Region.wanted o (yielded ops tmps) = false := by
  unfold Region.wanted yielded
  rw [hg]
  simp only [hj, Option.bind_some, hd, ht]
  cases want <;> cases x <;> first | rfl | exact absurd rfl hne
theorem tab_get (T : Tb) (j : Nat) (hj : j < 73) : (brow 73 (tcell T)).toArray[j]? = some (tcell T j) := by
  rw [List.getElem?_toArray]; exact brow_get _ _ _ hj
theorem tab_cel (T : Tb) (w : World) : Cel (w.alloc (.cells (brow 73 (tcell T)).toArray 72)) w.heap.size 73 (tcell T) := Cel.new w _ _ _ _ (tab_get T) _ rfl
theorem tab_cells {T : Tb} {w : World} {b : Nat} (h : Cel w b 73 (tcell T)) : w.rangeAt b 1 (brow 72 (ccell T)) := by
  have := h.range 1 72 (by omega)
  rw [show (fun j => tcell T (1 + j)) = ccell T from funext (tcell_succ T)] at this
  exact this
theorem tab_all {T : Tb} {w : World} {b : Nat} (h : Cel w b 73 (tcell T)) : w.rangeAt b 0 (brow 73 (tcell T)) := by
  have := h.range 0 73 (by omega)
  simpa only [Nat.zero_add] using this
theorem idx_cell (T : Tb) (k : Nat) (hk : k < 24) (w : World) : (Instr.index 70 (.agg (brow 72 (ccell T)).toArray) (.int .i64 (k : Int))).run Tryz.prog w = .ok (.agg #[.int .i64 (T.zone k), .int .i64 (T.off k), .string (T.tag k)]) w := by
  have ha : (isAgg 69).run Tryz.prog w = .ok true w := Tryz.isAgg69 w
  have hz : (Go.sizeOf 69).run Tryz.prog w = .ok 3 w := Tryz.sizeOf69 w
  have h2 : (0 : Int) ≤ k ∧ (k : Int) < 24 := by omega
  have hx : (brow 72 (ccell T)).toArray.extract (k * 3) (k * 3 + 3) = #[.int .i64 (T.zone k), .int .i64 (T.off k), .string (T.tag k)] := by
    apply Array.ext_getElem?
    intro i
    rw [Array.getElem?_extract]
    have hsz : (brow 72 (ccell T)).toArray.size = 72 := by simp [brow]
    by_cases hi : i < 3
    · rw [if_pos (by omega), List.getElem?_toArray, brow_get _ _ _ (by omega), ccell_at T k i hi]
      match i, hi with
      | 0, _ => rfl
      | 1, _ => rfl
      | 2, _ => rfl
    · rw [if_neg (by omega), Array.getElem?_eq_none (by simp; omega)]
  have hp : (part 69 (brow 72 (ccell T)).toArray (k * 3)).run Tryz.prog w = .ok (.agg #[.int .i64 (T.zone k), .int .i64 (T.off k), .string (T.tag k)]) w := by
    simp only [part, Sem.run_bind, ha, Result.andThen_ok, if_true, hz, Sem.run_pure, hx]
  generalize (brow 72 (ccell T)).toArray = cs at *
  simp [Instr.index, go_sem, run_underlying Tryz.underlying70, hz, hk, Result.andThen]
  exact hx
theorem ln73 (T : Tb) : (brow 73 (tcell T)).length = 73 := brow_length _ _
end Tw
end Go.Proofs.YtlgocfgnfdnloaaGreatDoor
