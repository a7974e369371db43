/- The law TableWrites's arguments opened: a table. -/
import Derived.Test.YtjfhggcjdckfgaaDoorYF
import Derived.ProofKit
import Derived.OpenShut
import Derived.Deep.Slices
namespace Go.Proofs.YtjfhggcjdckfgaaDoor
set_option linter.unusedSimpArgs false
set_option linter.unusedVariables false
set_option maxRecDepth 100000
namespace Tw
open Go.ChangeShapes Go.WideShapes Go.ChangeAt Go.RowKit Go.Deep

section
variable {H : Type} {enc : TypeId × Value → H} {W : World} {fuel : Nat} {x : DataW H × List MemPlace}
theorem kc9 : Tryd.prog.cellsOf 9 = 1 := by kernel_rfl
theorem kc98 : Tryd.prog.cellsOf 98 = 72 := by kernel_rfl
theorem kc100 : Tryd.prog.cellsOf 100 = 73 := by kernel_rfl
theorem rd_cellv {cs : List Value} (h : DataW.trod enc Tryd.prog W 0 (fun _ => true) true fuel 97 cs = some x) : ∃ c : Int × Int × ByteArray, cs = [.int .i64 c.1, .int .i64 c.2.1, .string c.2.2] := by
  obtain ⟨xs, m, _, _, hlen, hxl, hf⟩ := DataW.trod_struct Tryd.underlying97 h
  rw [cellsCell] at hlen
  match cs, hlen with
  | [v0, v1, v2], _ =>
    have g0 : DataW.trod enc Tryd.prog W 0 (fun _ => true) true m 3 ((([v0, v1, v2] : List Value).drop 0).take (Tryd.prog.cellsOf 3)) = xs[0]? := hf 0 _ rfl
    have g1 : DataW.trod enc Tryd.prog W 0 (fun _ => true) true m 3 ((([v0, v1, v2] : List Value).drop 1).take (Tryd.prog.cellsOf 3)) = xs[1]? := hf 1 _ rfl
    have g2 : DataW.trod enc Tryd.prog W 0 (fun _ => true) true m 9 ((([v0, v1, v2] : List Value).drop 2).take (Tryd.prog.cellsOf 9)) = xs[2]? := hf 2 _ rfl
    rw [cells3] at g0 g1
    rw [kc9] at g2
    match xs, hxl with
    | [y0, y1, y2], _ =>
      obtain ⟨n0, e0, _, _⟩ := DataW.trod_int Tryd.underlying3 g0
      obtain ⟨n1, e1, _, _⟩ := DataW.trod_int Tryd.underlying3 g1
      obtain ⟨t2, e2, _, _⟩ := DataW.trod_string Tryd.underlying9 g2
      have f0 : v0 = .int .i64 n0 := by simpa using e0
      have f1 : v1 = .int .i64 n1 := by simpa using e1
      have f2 : v2 = .string t2 := by simpa using e2
      exact ⟨(n0, n1, t2), by rw [f0, f1, f2]⟩
theorem rd_table {cs : List Value} (h : DataW.trod enc Tryd.prog W 0 (fun _ => true) true fuel 100 cs = some x) : ∃ T : Tb, cs = brow 73 (tcell T) := by
  obtain ⟨xs, m, _, _, hlen, hxl, hf⟩ := DataW.trod_struct Tryd.underlying100 h
  rw [kc100] at hlen
  have g0 : DataW.trod enc Tryd.prog W 0 (fun _ => true) true m 3 ((cs.drop 0).take (Tryd.prog.cellsOf 3)) = xs[0]? := hf 0 _ rfl
  have g1 : DataW.trod enc Tryd.prog W 0 (fun _ => true) true m 98 ((cs.drop 1).take (Tryd.prog.cellsOf 98)) = xs[1]? := hf 1 _ rfl
  rw [cells3] at g0
  rw [kc98] at g1
  match xs, hxl with
  | [y0, y1], _ =>
    obtain ⟨n0, e0, _, _⟩ := DataW.trod_int Tryd.underlying3 g0
    obtain ⟨ys, m1, _, _, _, hyl, hy⟩ := DataW.trod_array Tryd.underlying98 g1
    rw [cellsCell] at hy
    obtain ⟨c, hc⟩ := choose_lt (α := Int × Int × ByteArray) (n := 24) (p := fun i c => (((cs.drop 1).take 72).drop (i * 3)).take 3 = [.int .i64 c.1, .int .i64 c.2.1, .string c.2.2]) (fun i hi => by
      have hq := hy i hi
      rw [List.getElem?_eq_getElem (by omega)] at hq
      exact rd_cellv hq)
    refine ⟨⟨n0, fun i => (c i).1, fun i => (c i).2.1, fun i => (c i).2.2⟩, brow_of hlen (fun j hj => ?_)⟩
    by_cases e : j = 0
    · subst e
      have := congrArg (fun l => l[0]?) e0
      simpa [tcell] using this
    · obtain ⟨i, r, hr, rfl⟩ : ∃ i r, r < 3 ∧ j = 1 + i * 3 + r := ⟨(j - 1) / 3, (j - 1) % 3, by omega, by omega⟩
      have hi : i < 24 := by omega
      rw [tcell_at _ i r hr]
      have hq := congrArg (fun l => l[r]?) (hc i hi)
      simp only [List.getElem?_take_of_lt hr, List.getElem?_drop] at hq
      rw [List.getElem?_take_of_lt (by omega), List.getElem?_drop] at hq
      rw [show 1 + i * 3 + r = 1 + (i * 3 + r) by omega, hq]
      match r, hr with
      | 0, _ => rfl
      | 1, _ => rfl
      | 2, _ => rfl
end
end Tw
end Go.Proofs.YtjfhggcjdckfgaaDoor
