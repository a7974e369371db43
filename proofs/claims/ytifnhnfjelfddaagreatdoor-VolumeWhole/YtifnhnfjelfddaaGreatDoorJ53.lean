import Derived.ProofKit
import Derived.OpenShut
import Derived.SliceStrings
import Derived.Deep.Grids
import Derived.Deep.Slices
import Derived.Deep.MidRow
import Derived.Test.YtifnhnfjelfddaaGreatDoorJ11
set_option linter.unusedSimpArgs false
set_option linter.unusedVariables false
namespace Go.Proofs.YtifnhnfjelfddaaGreatDoor
set_option maxRecDepth 100000
namespace Vl
open Go.ChangeShapes Go.WideShapes Go.ChangeAt Go.RowKit Go.Deep
section
variable {H : Type} {enc : TypeId × Value → H} {W : World} {fuel : Nat} {x : DataW H × List MemPlace}
theorem kc9 : Tryz.prog.cellsOf 9 = 1 := by kernel_rfl
theorem kc3 : Tryz.prog.cellsOf 3 = 1 := by kernel_rfl
theorem kcS : Tryz.prog.cellsOf 23 = 1 := by kernel_rfl
theorem kcP : Tryz.prog.cellsOf 25 = 2 := by kernel_rfl
theorem rd_str {v : Value} (h : DataW.trod enc Tryz.prog W 0 (fun _ => true) true fuel 23 [v] = some x) :
    ∃ tx : List ByteArray, SlA W W.heap.size v tx.length (tlf tx) := by
  rcases open_strings Tryz.underlying23 Tryz.underlying9 kc9 h with ⟨hcs, hx⟩ | ⟨a, len, cap, ss, hcs, _, hl, hm, hz, hx, hcell, hsz⟩
  · injection hcs with hv
    exact ⟨[], none, 0, hv, fun h => by simp at h⟩
  · injection hcs with hv
    simp only [if_true] at hz
    refine ⟨(List.range len).map (fun j => ss.getD j ByteArray.empty), some a, cap, by simpa using hv, fun hpos => ?_⟩
    simp only [List.length_map, List.length_range] at hpos
    obtain ⟨b, off, spot⟩ := a
    have hspot : spot = none := by simpa [Addr.add] using World.cell?_spot (hcell 0 (by omega))
    subst hspot
    refine ⟨b, off, rfl, World.block_lt_of_cell? W _ (hcell 0 (by omega)), fun j hj => ?_⟩
    simp only [List.length_map, List.length_range] at hj
    have hc := hcell j (by omega)
    rw [Addr.add_mid] at hc
    rw [hc]
    unfold tlf
    simp [List.getD_eq_getElem?_getD, hj]
theorem kc4 : Tryz.prog.cellsOf 4 = 1 := by kernel_rfl
theorem rd_int {v : Value} (h : DataW.trod enc Tryz.prog W 0 (fun _ => true) true fuel 26 [v] = some x) :
    ∃ (n : Nat) (l : Nat → Int), SlA W W.heap.size v n (fun j => .int .i64 (l j)) := by
  rcases open_ints Tryz.underlying26 Tryz.underlying3 kc3 h with ⟨hcs, hx⟩ | ⟨a, len, cap, ss, hcs, _, hl, hm, hz, hx, hcell, hsz⟩
  · injection hcs with hv
    exact ⟨0, fun _ => 0, none, 0, hv, fun h => by omega⟩
  · injection hcs with hv
    simp only [if_true] at hz
    refine ⟨len, fun j => ss.getD j 0, some a, cap, hv, fun hpos => ?_⟩
    obtain ⟨b, off, spot⟩ := a
    have hspot : spot = none := by simpa [Addr.add] using World.cell?_spot (hcell 0 (by omega))
    subst hspot
    exact ⟨b, off, rfl, World.block_lt_of_cell? W _ (hcell 0 (by omega)), fun j hj => by rw [← Addr.add_mid]; exact hcell j (by omega)⟩
theorem rd_bool {v : Value} (h : DataW.trod enc Tryz.prog W 0 (fun _ => true) true fuel 27 [v] = some x) :
    ∃ (n : Nat) (l : Nat → Bool), SlA W W.heap.size v n (fun j => .bool (l j)) := by
  rcases open_bools Tryz.underlying27 Tryz.underlying4 kc4 h with ⟨hcs, hx⟩ | ⟨a, len, cap, B, hcs, _, hl, hm, hx, hcell⟩
  · injection hcs with hv
    exact ⟨0, fun _ => false, none, 0, hv, fun h => by omega⟩
  · injection hcs with hv
    refine ⟨len, B, some a, cap, hv, fun hpos => ?_⟩
    obtain ⟨b, off, spot⟩ := a
    have hspot : spot = none := by simpa [Addr.add] using World.cell?_spot (hcell 0 (by omega))
    subst hspot
    exact ⟨b, off, rfl, World.block_lt_of_cell? W _ (hcell 0 (by omega)), fun j hj => by rw [← Addr.add_mid]; exact hcell j (by omega)⟩
structure StV where
  s : Stp
  tv : Value
def stNone : StV := ⟨⟨0, []⟩, .slice none 0 0⟩
theorem rd_step {cs : List Value} (h : DataW.trod enc Tryz.prog W 0 (fun _ => true) true fuel 25 cs = some x) :
    ∃ o : StV, cs = [.int .i64 o.s.at_, o.tv] ∧ SlA W W.heap.size o.tv o.s.tx.length (tlf o.s.tx) := by
  obtain ⟨xs, m, _, _, hlen, hxl, hf⟩ := DataW.trod_struct Tryz.underlying25 h
  rw [kcP] at hlen
  match cs, hlen with
  | [v0, v1], _ =>
    have g0 : DataW.trod enc Tryz.prog W 0 (fun _ => true) true m 3 ((([v0, v1] : List Value).drop 0).take (Tryz.prog.cellsOf 3)) = xs[0]? := hf 0 _ rfl
    have g1 : DataW.trod enc Tryz.prog W 0 (fun _ => true) true m 23 ((([v0, v1] : List Value).drop 1).take (Tryz.prog.cellsOf 23)) = xs[1]? := hf 1 _ rfl
    rw [kc3] at g0
    rw [kcS] at g1
    match xs, hxl with
    | [y0, y1], _ =>
      obtain ⟨n0, e0, _, _⟩ := DataW.trod_int Tryz.underlying3 g0
      have f0 : v0 = .int .i64 n0 := by simpa using e0
      clear e0
      subst f0
      obtain ⟨tx, hk⟩ := rd_str (v := v1) g1
      exact ⟨⟨⟨n0, tx⟩, v1⟩, rfl, hk⟩
theorem rd_steps {a0 : Option Addr} {len cap : Nat} (h : DataW.trod enc Tryz.prog W 0 (fun _ => true) true fuel 22 [.slice a0 len cap] = some x) :
    ∃ l : List Stp, Sts W (.slice a0 len cap) l := by
  rcases open_slice Tryz.underlying22 h with ⟨hcs, hx⟩ | ⟨a, len', cap', mm, n, D, Pl, hcs, _, hl, hm, hmm, hx, hel⟩
  · simp at hcs
    obtain ⟨rfl, rfl, rfl⟩ := hcs
    exact ⟨[], none, 0, rfl, fun h => by simp at h⟩
  · simp at hcs
    obtain ⟨rfl, rfl, rfl⟩ := hcs
    simp only [if_true] at hmm
    subst hmm
    rw [kcP] at hel
    have hinh : Inhabited StV := ⟨stNone⟩
    obtain ⟨o, ho⟩ := choose_lt (α := StV) (n := mm) (p := fun i o => W.cells? 0 (a.add (i * 2)) 2 = some [.int .i64 o.s.at_, o.tv] ∧ SlA W W.heap.size o.tv o.s.tx.length (tlf o.s.tx)) (fun i hi => by
      obtain ⟨cs', h1, h2⟩ := hel i hi
      obtain ⟨o, rfl, r⟩ := rd_step h2
      exact ⟨o, h1, r⟩)
    refine ⟨(List.range len).map (fun j => (o j).s), some a, mm, by simp, fun hpos => ?_⟩
    simp only [List.length_map, List.length_range] at hpos
    obtain ⟨b, off, spot⟩ := a
    have hc0 := (World.cells?_some (ho 0 (by omega)).1).2.2 0 (by omega)
    have hspot : spot = none := by simpa [Addr.add] using World.cell?_spot hc0
    subst hspot
    refine ⟨b, off, rfl, World.block_lt_of_cell? W ⟨b, off, none⟩ (by simpa [Addr.add] using hc0), fun j s hj => ?_⟩
    have hjl : j < len := by have := (List.getElem?_eq_some_iff.1 hj).1; simpa using this
    have hjm : j < mm := by omega
    rw [List.getElem?_map, List.getElem?_range hjl] at hj
    have hs : (o j).s = s := by simpa using hj
    subst hs
    have h0 := (World.cells?_some (ho j hjm).1).2.2 0 (by omega)
    have h1 := (World.cells?_some (ho j hjm).1).2.2 1 (by omega)
    rw [Addr.add_mid, Addr.add_mid] at h0 h1
    exact ⟨(o j).tv, (ho j hjm).2, by simpa using h0, by simpa using h1⟩
end
end Vl
end Go.Proofs.YtifnhnfjelfddaaGreatDoor
