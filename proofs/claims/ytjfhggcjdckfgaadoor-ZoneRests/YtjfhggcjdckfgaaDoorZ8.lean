/- slices.Backward over writes of slots. -/
import Derived.Test.YtjfhggcjdckfgaaDoorZ7
import Derived.RangeFuncNested
import Derived.RangeFuncBound
import Derived.RangeFuncCalls
import Derived.RangeFuncLeaves
import Derived.Shelf.Abstract
import Derived.Shelf.RegionOpen
import Derived.OwnWalkIn
import Derived.TacticsInMore
import Derived.LoopNIn
import Derived.LoopIn
namespace Go.Proofs.YtjfhggcjdckfgaaDoor
set_option linter.unusedSimpArgs false
set_option linter.unusedVariables false
open Go.RowKit Go.Shelf
attribute [local go_sem] Oper.semAt_some

/-- number i of the writes, with its number -/
def item (ws : List (Nat × ByteArray)) (i : Nat) : Nat × Nat × ByteArray := (i, ws.getD i (0, ⟨#[]⟩))
/-- the last k writes, the last one first -/
def dn (ws : List (Nat × ByteArray)) (k : Nat) : List (Nat × Nat × ByteArray) := (List.range k).map fun j => item ws (ws.length - 1 - j)
theorem dn_succ (ws : List (Nat × ByteArray)) (k : Nat) : dn ws (k + 1) = dn ws k ++ [item ws (ws.length - 1 - k)] := by
  unfold dn
  rw [List.range_succ, List.map_append]
  rfl
theorem dn_prefix (ws : List (Nat × ByteArray)) (k : Nat) (hk : k ≤ ws.length) : dn ws k <+: dn ws ws.length := by
  have h : dn ws k = (dn ws ws.length).take k := by
    unfold dn
    rw [← List.map_take, List.take_range, Nat.min_eq_left hk]
  rw [h]
  exact List.take_prefix _ _
/-- the writes lie in v's row, below n₀ -/
def WRow (n₀ : Nat) (W : World) (v : Value) (ws : List (Nat × ByteArray)) : Prop :=
  (v = .slice none 0 0 ∧ ws = []) ∨ ∃ g cap, v = .slice (some ⟨g, 0, none⟩) ws.length cap ∧ g < n₀ ∧ ∀ i, i < ws.length → W.cell? ⟨g, i * 2, none⟩ = some (.int .i64 ((ws.getD i (0, ⟨#[]⟩)).1 : Int)) ∧ W.cell? ⟨g, i * 2 + 1, none⟩ = some (.string (ws.getD i (0, ⟨#[]⟩)).2)
theorem WRow.below {n₀ : Nat} {A B : World} {v : Value} {ws : List (Nat × ByteArray)} (h : WRow n₀ A v ws) (hb : Below n₀ A B) : WRow n₀ B v ws := by
  rcases h with h | ⟨g, cap, hv, hg, hc⟩
  · exact Or.inl h
  · exact Or.inr ⟨g, cap, hv, hg, fun i hi => ⟨(hb.cell (p := ⟨g, i * 2, none⟩) hg).trans (hc i hi).1, (hb.cell (p := ⟨g, i * 2 + 1, none⟩) hg).trans (hc i hi).2⟩⟩
def encw (x : Nat × Nat × ByteArray) : Array Value := #[.int .i64 (x.1 : Int), .agg #[.int .i64 (x.2.1 : Int), .string x.2.2]]

set_option maxRecDepth 100000 in
set_option maxHeartbeats 1000000 in
theorem backF_in (F : Fence) (n : Nat) (h6 : F.fn 164) (hro : F.round = none) (hn : 1 ≤ n) (l Bn n₀ : Nat) (v : Value) (ws : List (Nat × ByteArray)) (J Jx : List (Nat × Nat × ByteArray) → World → Prop)
    (hY : ∀ pre x W, J pre W → pre.length < ws.length → YieldAt F (n - 1) Tryd.prog l (encw x) W fun e W' =>
      (e = .returned (.bool true) ∧ J (pre ++ [x]) W' ∧ Below n₀ W W') ∨ (e = .returned (.bool false) ∧ Jx (pre ++ [x]) W'))
    (W : World) (hBn : W.cell? ⟨Bn, 0, none⟩ = some v) (hBl : Bn < n₀) (hL : WRow n₀ W v ws) (hlen : ws.length ≤ 1000) (h0 : J [] W) :
    CallsIn F n Tryd.prog 164 #[.func (.yield l) #[] #[], .pointer (some ⟨Bn, 0, none⟩)] W fun e W' => (∃ v, e = .returned v) ∧
      ((∃ ys, ys = dn ws ws.length ∧ J ys W') ∨ (∃ pre, pre <+: dn ws ws.length ∧ Jx pre W')) := by
  rcases hL with ⟨rfl, rfl⟩ | ⟨g, cap, rfl, hg, hc⟩
  · refine callsIn_of_wp Tryd.func164 rfl h6 ?_ hro
    simp only [Tryd.ntmps164, List.size_toArray, List.length_cons, List.length_nil, Nat.reduceAdd, Nat.reduceSub, Array.replicate_succ, Array.replicate_zero, List.push_toArray, List.append_toArray, List.nil_append, List.cons_append]
    gi_wp2
    gi_loopw [3] (fun p wr => p = .int .i64 (-1) ∧ J [] wr) (fun p wr => 0)
    case atStart => exact ⟨rfl, h0⟩
    case round =>
      obtain ⟨rfl, hJ⟩ := hrel
      gi_wp2
      go_end0
      exact ⟨⟨_, rfl⟩, .inl ⟨_, rfl, hJ⟩⟩
  · refine callsIn_of_wp Tryd.func164 rfl h6 ?_ hro
    simp only [Tryd.ntmps164, List.size_toArray, List.length_cons, List.length_nil, Nat.reduceAdd, Nat.reduceSub, Array.replicate_succ, Array.replicate_zero, List.push_toArray, List.append_toArray, List.nil_append, List.cons_append]
    gi_wp2
    gi_loopw [3] (fun p wr => ∃ k : Nat, k ≤ ws.length ∧ p = .int .i64 ((ws.length - k : Nat) - 1 : Int) ∧ WRow n₀ wr (.slice (some ⟨g, 0, none⟩) ws.length cap) ws ∧ wr.cell? ⟨Bn, 0, none⟩ = some (.slice (some ⟨g, 0, none⟩) ws.length cap) ∧ J (dn ws k) wr)
      (fun p wr => (intOf p + 1).toNat)
    case atStart =>
      exact ⟨0, Nat.zero_le _, by simp, Or.inr ⟨g, cap, rfl, hg, hc⟩, hBn, h0⟩
    case round =>
      obtain ⟨k, hk, rfl, hr, hb, hJ⟩ := hrel
      by_cases hlt : k < ws.length
      · obtain ⟨m, hm⟩ : ∃ m, ws.length - k = m + 1 := ⟨ws.length - k - 1, by omega⟩
        have hmi : ws.length - 1 - k = m := by omega
        have hml : m < ws.length := by omega
        have hr' := hr
        rcases hr with ⟨e, _⟩ | ⟨g', cap', he, hg', hc'⟩
        · cases e
        injection he with he1 he2 he3
        injection he1 with he1
        injection he1 with he1
        subst he1
        subst he3
        obtain ⟨c1, c2⟩ := hc' m hml
        have hJd := dn_succ ws k
        rw [hmi] at hJd
        obtain ⟨fn, tmps, assign, body, hy, hR⟩ := hY (dn ws k) (item ws m) wr hJ (by simp [dn]; omega)
        have hy' : (Instr.yield l #[.int .i64 (m : Int), .agg #[.int .i64 ((ws.getD m (0, ⟨#[]⟩)).1 : Int), .string (ws.getD m (0, ⟨#[]⟩)).2]]).run Tryd.prog wr = .ok (.round l fn tmps assign body) wr := hy
        have e1 : (((ws.length - k : Nat) : Int) - 1) = (m : Int) := by omega
        rw [e1]
        have hml2 : (m : Int) < ws.length := by omega
        have HR := (show Hid _ from hr')
        clear hy hc hc' hr' hY
        generalize (ws.getD m (0, ⟨#[]⟩)).1 = x1 at *
        generalize (ws.getD m (0, ⟨#[]⟩)).2 = x2 at *
        gi_wp2
        refine hR.mono ?_
        rintro e W3 (⟨rfl, hJ3, hk3⟩ | ⟨rfl, hJx3⟩)
        · have hr3 := WRow.below (show WRow n₀ wr _ ws from HR.out) hk3
          have hb3 : W3.cell? ⟨Bn, 0, none⟩ = some (.slice (some ⟨g, 0, none⟩) ws.length cap) := (hk3.cell (p := ⟨Bn, 0, none⟩) hBl).trans hb
          have HR3 := (show Hid _ from hr3)
          clear hr3
          gi_wp2
          go_roundw
          case rel =>
            refine ⟨k + 1, by omega, ?_, HR3.out, hb3, by rw [hJd]; exact hJ3⟩
            congr 1
            omega
          case measure => simp [intOf]
        · gi_wp2
          refine bodyPost_ret (results_none rfl _ _ _) rfl ?_
          refine ⟨⟨_, rfl⟩, .inr ⟨dn ws k ++ [item ws m], ?_, hJx3⟩⟩
          rw [← hJd]
          exact dn_prefix ws (k + 1) (by omega)
      · have hke : k = ws.length := by omega
        subst hke
        rw [Nat.sub_self]
        gi_wp2
        go_end0
        exact ⟨⟨_, rfl⟩, .inl ⟨_, rfl, hJ⟩⟩
theorem back_in (F : Fence) (n : Nat) (h5 : F.fn 144) (hro : F.round = none) (a : Option Addr) (m c : Nat) (w : World) :
    CallsIn F n Tryd.prog 144 #[.slice a m c] w fun e w' => e = .returned (.func (.func 164) #[] #[.pointer (some ⟨w.heap.size, 0, none⟩)]) ∧ w' = w.alloc (.cells #[.slice a m c] 153) := by
  refine callsIn_of_wp Tryd.func144 rfl h5 ?_ hro
  simp only [Tryd.ntmps144, List.size_toArray, List.length_cons, List.length_nil, Nat.reduceAdd, Nat.reduceSub, Array.replicate_succ, Array.replicate_zero, List.push_toArray, List.append_toArray, List.nil_append, List.cons_append]
  gi_wp2
  go_ret
  exact ⟨rfl, rfl⟩
theorem back_stops (F : Fence) (n : Nat) (h6 : F.fn 164) (hro : F.round = none) (hn : 1 ≤ n) (Bn n₀ : Nat) (v : Value) (ws : List (Nat × ByteArray)) (w : World) (hBn : Bn < n₀) (hn₀ : n₀ ≤ w.heap.size)
    (hc : w.cell? ⟨Bn, 0, none⟩ = some v) (hL : WRow n₀ w v ws) (hlen : ws.length ≤ 1000) :
    SeqStopsK F n Tryd.prog 164 #[.pointer (some ⟨Bn, 0, none⟩)] encw (Below n₀) (fun ys => ys = dn ws ws.length) (fun pre => pre <+: dn ws ws.length) ws.length w := fun l J Jx W hW _ _ hY h0 =>
  backF_in F n h6 hro hn l Bn n₀ v ws J Jx hY W ((hW.cell (p := ⟨Bn, 0, none⟩) (by show Bn < _; omega)).trans hc) hBn (hL.below (hW.mono hn₀)) hlen h0
end Go.Proofs.YtjfhggcjdckfgaaDoor
