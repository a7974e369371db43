/- Lists of numbers and tables, opened as they are handed in; the five functions of package space as the laws ask for them. -/
import Derived.Test.YtegileohambjbaaP1
import Derived.Test.YtegileohambjbaaP3
import Derived.Test.YtegileohambjbaaV5
import Derived.ProofKit
import Derived.OpenShut
import Derived.Deep.Slices
namespace Go.Proofs.Ytegileohambjbaa
set_option linter.unusedSimpArgs false
set_option linter.unusedVariables false
set_option maxRecDepth 100000
namespace Sp
open Go.ChangeShapes Go.WideShapes Go.ChangeAt Go.RowKit Go.Deep
open Tw (Tb tcell tcell_at)

theorem freeOk : FreeOk := fun v n b f w h hn => (free_any v n b f w h hn).mono fun e w' ⟨h1, h2⟩ => ⟨h1, by rw [h2]; exact Since.refl w⟩
theorem openOk : OpenOk := fun v n b f but w h hn => (open_any v n b f but w h hn).mono fun e w' ⟨h1, h2⟩ => ⟨h1, by rw [h2]; exact Since.refl w⟩
theorem vicOk : VicOk := fun v u n m b f g w h h2 hn hm => victim_any v u n m b f g w h h2 hn hm
theorem inOk : InOk := fun T z w => (in_any T z w).mono fun e w' ⟨x, h1, h2, h3⟩ => ⟨x, h1, Ls.of_own h2 (fun j hj => vals_get T z j hj), h3⟩
theorem liveOk : LiveOk := fun T w => (live_any T w).mono fun e w' ⟨x, h1, ⟨b, h2, h3⟩, h4⟩ => ⟨x, h1, ⟨_, _, h2, by omega, fun _ => ⟨b, 0, rfl, h3.lt (by omega), fun j hj => by rw [Nat.zero_add]; exact h3.cell j hj⟩⟩, h4⟩

section
variable {H : Type} {enc : TypeId × Value → H} {W : World} {fuel : Nat} {x : DataW H × List MemPlace}
theorem kc3 : Try.prog.cellsOf 3 = 1 := by kernel_rfl
theorem kc9 : Try.prog.cellsOf 9 = 1 := by kernel_rfl
theorem kcell : Try.prog.cellsOf 24 = 3 := by kernel_rfl
theorem kcells : Try.prog.cellsOf 25 = 72 := by kernel_rfl
theorem ktable : Try.prog.cellsOf 27 = 73 := by kernel_rfl
theorem rd_cellv {cs : List Value} (h : DataW.trod enc Try.prog W 0 (fun _ => true) true fuel 24 cs = some x) : ∃ c : Int × Int × ByteArray, cs = [.int .i64 c.1, .int .i64 c.2.1, .string c.2.2] := by
  obtain ⟨xs, m, _, _, hlen, hxl, hf⟩ := DataW.trod_struct Try.underlying24 h
  rw [kcell] at hlen
  match cs, hlen with
  | [v0, v1, v2], _ =>
    have g0 : DataW.trod enc Try.prog W 0 (fun _ => true) true m 3 ((([v0, v1, v2] : List Value).drop 0).take (Try.prog.cellsOf 3)) = xs[0]? := hf 0 _ rfl
    have g1 : DataW.trod enc Try.prog W 0 (fun _ => true) true m 3 ((([v0, v1, v2] : List Value).drop 1).take (Try.prog.cellsOf 3)) = xs[1]? := hf 1 _ rfl
    have g2 : DataW.trod enc Try.prog W 0 (fun _ => true) true m 9 ((([v0, v1, v2] : List Value).drop 2).take (Try.prog.cellsOf 9)) = xs[2]? := hf 2 _ rfl
    rw [kc3] at g0 g1
    rw [kc9] at g2
    match xs, hxl with
    | [y0, y1, y2], _ =>
      obtain ⟨n0, e0, _, _⟩ := DataW.trod_int Try.underlying3 g0
      obtain ⟨n1, e1, _, _⟩ := DataW.trod_int Try.underlying3 g1
      obtain ⟨t2, e2, _, _⟩ := DataW.trod_string Try.underlying9 g2
      have f0 : v0 = .int .i64 n0 := by simpa using e0
      have f1 : v1 = .int .i64 n1 := by simpa using e1
      have f2 : v2 = .string t2 := by simpa using e2
      exact ⟨(n0, n1, t2), by rw [f0, f1, f2]⟩
theorem rd_table {cs : List Value} (h : DataW.trod enc Try.prog W 0 (fun _ => true) true fuel 27 cs = some x) : ∃ T : Tb, cs = brow 73 (tcell T) := by
  obtain ⟨xs, m, _, _, hlen, hxl, hf⟩ := DataW.trod_struct Try.underlying27 h
  rw [ktable] at hlen
  have g0 : DataW.trod enc Try.prog W 0 (fun _ => true) true m 3 ((cs.drop 0).take (Try.prog.cellsOf 3)) = xs[0]? := hf 0 _ rfl
  have g1 : DataW.trod enc Try.prog W 0 (fun _ => true) true m 25 ((cs.drop 1).take (Try.prog.cellsOf 25)) = xs[1]? := hf 1 _ rfl
  rw [kc3] at g0
  rw [kcells] at g1
  match xs, hxl with
  | [y0, y1], _ =>
    obtain ⟨n0, e0, _, _⟩ := DataW.trod_int Try.underlying3 g0
    obtain ⟨ys, m1, _, _, _, hyl, hy⟩ := DataW.trod_array Try.underlying25 g1
    rw [kcell] at hy
    obtain ⟨c, hc⟩ := choose_lt (α := Int × Int × ByteArray) (n := 24) (p := fun i c => (((cs.drop 1).take 72).drop (i * 3)).take 3 = [.int .i64 c.1, .int .i64 c.2.1, .string c.2.2]) (fun i hi => by
      have hq := hy i hi
      rw [List.getElem?_eq_getElem (by omega)] at hq
      exact rd_cellv hq)
    refine ⟨⟨n0, fun i => (c i).1, fun i => (c i).2.1, fun i => (c i).2.2⟩, brow_of hlen (fun j hj => ?_)⟩
    by_cases e : j = 0
    · subst e
      have := congrArg (fun l => l[0]?) e0
      simpa [tcell] using this
    · obtain ⟨i, r, hr, rfl⟩ : ∃ i r, r < 3 ∧ j = 1 + i * 3 + r := ⟨(j - 1) / 3, (j - 1) % 3, by omega, by omega⟩
      have hi : i < 24 := by omega
      rw [tcell_at _ i r hr]
      have hq := congrArg (fun l => l[r]?) (hc i hi)
      simp only [List.getElem?_take_of_lt hr, List.getElem?_drop] at hq
      rw [List.getElem?_take_of_lt (by omega), List.getElem?_drop] at hq
      rw [show 1 + i * 3 + r = 1 + (i * 3 + r) by omega, hq]
      match r, hr with
      | 0, _ => rfl
      | 1, _ => rfl
      | 2, _ => rfl
theorem rd_ints {a0 : Option Addr} {len cap : Nat} {d : DataW H} {p : List MemPlace} (h : DataW.Trod enc Try.prog W 0 (fun _ => true) true 22 (.slice a0 len cap) d p) :
    ∃ l : Nat → Int, Ls W W.heap.size (.slice a0 len cap) len l := by
  obtain ⟨fuel, hf⟩ := h
  rcases open_ints Try.underlying22 Try.underlying3 kc3 hf with ⟨hcs, hx⟩ | ⟨a, len', cap', ss, hcs, hcap, hl, hm, hz, hx, hcell, hsz⟩
  · simp [Value.cells] at hcs
    obtain ⟨rfl, rfl, rfl⟩ := hcs
    exact ⟨fun _ => 0, none, 0, rfl, by omega, fun h => by omega⟩
  · simp [Value.cells] at hcs
    obtain ⟨rfl, rfl, rfl⟩ := hcs
    simp only [if_true] at hz
    refine ⟨fun j => ss.getD j 0, some a, cap, rfl, by omega, fun hpos => ?_⟩
    obtain ⟨b, off, spot⟩ := a
    have hspot : spot = none := by simpa [Addr.add] using World.cell?_spot (hcell 0 (by omega))
    subst hspot
    exact ⟨b, off, rfl, World.block_lt_of_cell? W _ (hcell 0 (by omega)), fun j hj => by rw [← Addr.add_mid]; exact hcell j (by omega)⟩
end
end Sp
end Go.Proofs.Ytegileohambjbaa
