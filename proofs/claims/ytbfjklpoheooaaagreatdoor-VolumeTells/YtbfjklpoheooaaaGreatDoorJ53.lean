import Derived.ProofKit
import Derived.OpenShut
import Derived.SliceStrings
import Derived.Deep.Grids
import Derived.Deep.Slices
import Derived.Deep.MidRow
import Derived.Test.YtbfjklpoheooaaaGreatDoorJ52
set_option linter.unusedSimpArgs false
set_option linter.unusedVariables false
namespace Go.Proofs.YtbfjklpoheooaaaGreatDoor
set_option maxRecDepth 100000
namespace Vl
open Go.ChangeShapes Go.WideShapes Go.ChangeAt Go.RowKit Go.Deep
section
variable {H : Type} {enc : TypeId × Value → H} {W : World} {fuel : Nat} {x : DataW H × List MemPlace}
theorem kc9 : Tryz.prog.cellsOf 9 = 1 := by kernel_rfl
theorem kc3 : Tryz.prog.cellsOf 3 = 1 := by kernel_rfl
theorem kc4 : Tryz.prog.cellsOf 4 = 1 := by kernel_rfl
theorem kc51 : Tryz.prog.cellsOf 49 = 1 := by kernel_rfl
theorem kc52 : Tryz.prog.cellsOf 50 = 1 := by kernel_rfl
theorem kc54 : Tryz.prog.cellsOf 52 = 6 := by kernel_rfl
theorem rd_int {v : Value} (h : DataW.trod enc Tryz.prog W 0 (fun _ => true) true fuel 49 [v] = some x) :
    ∃ (n : Nat) (l : Nat → Int), SlA W W.heap.size v n (fun j => .int .i64 (l j)) := by
  rcases open_ints Tryz.underlying49 Tryz.underlying3 kc3 h with ⟨hcs, hx⟩ | ⟨a, len, cap, ss, hcs, _, hl, hm, hz, hx, hcell, hsz⟩
  · injection hcs with hv
    exact ⟨0, fun _ => 0, none, 0, hv, fun h => by omega⟩
  · injection hcs with hv
    simp only [if_true] at hz
    refine ⟨len, fun j => ss.getD j 0, some a, cap, hv, fun hpos => ?_⟩
    obtain ⟨b, off, spot⟩ := a
    have hspot : spot = none := by simpa [Addr.add] using World.cell?_spot (hcell 0 (by omega))
    subst hspot
    exact ⟨b, off, rfl, World.block_lt_of_cell? W _ (hcell 0 (by omega)), fun j hj => by rw [← Addr.add_mid]; exact hcell j (by omega)⟩
theorem rd_bool {v : Value} (h : DataW.trod enc Tryz.prog W 0 (fun _ => true) true fuel 50 [v] = some x) :
    ∃ (n : Nat) (l : Nat → Bool), SlA W W.heap.size v n (fun j => .bool (l j)) := by
  rcases open_bools Tryz.underlying50 Tryz.underlying4 kc4 h with ⟨hcs, hx⟩ | ⟨a, len, cap, B, hcs, _, hl, hm, hx, hcell⟩
  · injection hcs with hv
    exact ⟨0, fun _ => false, none, 0, hv, fun h => by omega⟩
  · injection hcs with hv
    refine ⟨len, B, some a, cap, hv, fun hpos => ?_⟩
    obtain ⟨b, off, spot⟩ := a
    have hspot : spot = none := by simpa [Addr.add] using World.cell?_spot (hcell 0 (by omega))
    subst hspot
    exact ⟨b, off, rfl, World.block_lt_of_cell? W _ (hcell 0 (by omega)), fun j hj => by rw [← Addr.add_mid]; exact hcell j (by omega)⟩
structure ActV where
  wh : Int
  at_ : Int
  by_ : Int
  s : ByteArray
  kv : Value
  sv : Value
  nk : Nat
  ns : Nat
  ks : Nat → Int
  sl : Nat → Bool
def actNone : ActV := ⟨0, 0, 0, ⟨#[]⟩, .slice none 0 0, .slice none 0 0, 0, 0, fun _ => 0, fun _ => false⟩
theorem rd_act {cs : List Value} (h : DataW.trod enc Tryz.prog W 0 (fun _ => true) true fuel 52 cs = some x) :
    ∃ o : ActV, cs = [.int .i64 o.wh, .int .i64 o.at_, .int .i64 o.by_, .string o.s, o.kv, o.sv] ∧ SlA W W.heap.size o.kv o.nk (fun i => .int .i64 (o.ks i)) ∧ SlA W W.heap.size o.sv o.ns (fun i => .bool (o.sl i)) ∧ -9223372036854775808 ≤ o.at_ ∧ o.at_ ≤ 9223372036854775807 := by
  obtain ⟨xs, m, _, _, hlen, hxl, hf⟩ := DataW.trod_struct Tryz.underlying52 h
  rw [kc54] at hlen
  match cs, hlen with
  | [v0, v1, v2, v3, v4, v5], _ =>
    have g0 : DataW.trod enc Tryz.prog W 0 (fun _ => true) true m 3 ((([v0, v1, v2, v3, v4, v5] : List Value).drop 0).take (Tryz.prog.cellsOf 3)) = xs[0]? := hf 0 _ rfl
    have g1 : DataW.trod enc Tryz.prog W 0 (fun _ => true) true m 3 ((([v0, v1, v2, v3, v4, v5] : List Value).drop 1).take (Tryz.prog.cellsOf 3)) = xs[1]? := hf 1 _ rfl
    have g2 : DataW.trod enc Tryz.prog W 0 (fun _ => true) true m 3 ((([v0, v1, v2, v3, v4, v5] : List Value).drop 2).take (Tryz.prog.cellsOf 3)) = xs[2]? := hf 2 _ rfl
    have g3 : DataW.trod enc Tryz.prog W 0 (fun _ => true) true m 9 ((([v0, v1, v2, v3, v4, v5] : List Value).drop 3).take (Tryz.prog.cellsOf 9)) = xs[3]? := hf 3 _ rfl
    have g4 : DataW.trod enc Tryz.prog W 0 (fun _ => true) true m 49 ((([v0, v1, v2, v3, v4, v5] : List Value).drop 4).take (Tryz.prog.cellsOf 49)) = xs[4]? := hf 4 _ rfl
    have g5 : DataW.trod enc Tryz.prog W 0 (fun _ => true) true m 50 ((([v0, v1, v2, v3, v4, v5] : List Value).drop 5).take (Tryz.prog.cellsOf 50)) = xs[5]? := hf 5 _ rfl
    rw [kc3] at g0 g1 g2
    rw [kc9] at g3
    rw [kc51] at g4
    rw [kc52] at g5
    match xs, hxl with
    | [y0, y1, y2, y3, y4, y5], _ =>
      obtain ⟨n0, e0, _, _⟩ := DataW.trod_int Tryz.underlying3 g0
      obtain ⟨n1, e1, _, hw⟩ := DataW.trod_int Tryz.underlying3 g1
      obtain ⟨n2, e2, _, _⟩ := DataW.trod_int Tryz.underlying3 g2
      obtain ⟨s, e3, _, _⟩ := DataW.trod_string Tryz.underlying9 g3
      have f0 : v0 = .int .i64 n0 := by simpa using e0
      have f1 : v1 = .int .i64 n1 := by simpa using e1
      have f2 : v2 = .int .i64 n2 := by simpa using e2
      have f3 : v3 = .string s := by simpa using e3
      clear e0 e1 e2 e3
      subst f0 f1 f2 f3
      obtain ⟨nk, ks, hk⟩ := rd_int (v := v4) g4
      obtain ⟨ns, sl, hs⟩ := rd_bool (v := v5) g5
      have e1 : IntKind.i64.min = -9223372036854775808 := rfl
      have e2 : IntKind.i64.max = 9223372036854775807 := rfl
      have hw2 : -9223372036854775808 ≤ n1 ∧ n1 ≤ 9223372036854775807 := by simpa [Lit.wf, e1, e2] using hw
      exact ⟨⟨n0, n1, n2, s, v4, v5, nk, ns, ks, sl⟩, rfl, hk, hs, hw2.1, hw2.2⟩
theorem rd_acts {a0 : Option Addr} {len cap : Nat} (h : DataW.trod enc Tryz.prog W 0 (fun _ => true) true fuel 22 [.slice a0 len cap] = some x) :
    ∃ o : Nat → ActV, Acts W a0 len (fun j => (o j).wh) (fun j => (o j).at_) (fun j => (o j).by_) (fun j => (o j).s) (fun j => (o j).kv) (fun j => (o j).sv) (fun j => (o j).nk) (fun j => (o j).ns) (fun j => (o j).ks) (fun j => (o j).sl) := by
  rcases open_slice Tryz.underlying22 h with ⟨hcs, hx⟩ | ⟨a, len', cap', mm, n, D, Pl, hcs, _, hl, hm, hmm, hx, hel⟩
  · simp at hcs
    obtain ⟨rfl, rfl, rfl⟩ := hcs
    exact ⟨fun _ => actNone, fun h => by omega, fun j hj => by omega, fun j hj => by omega, fun j hj => by omega⟩
  · simp at hcs
    obtain ⟨rfl, rfl, rfl⟩ := hcs
    simp only [if_true] at hmm
    subst hmm
    rw [kc54] at hel
    have hinh : Inhabited ActV := ⟨actNone⟩
    obtain ⟨o, ho⟩ := choose_lt (α := ActV) (n := mm) (p := fun i o => W.cells? 0 (a.add (i * 6)) 6 = some [.int .i64 o.wh, .int .i64 o.at_, .int .i64 o.by_, .string o.s, o.kv, o.sv] ∧ SlA W W.heap.size o.kv o.nk (fun i => .int .i64 (o.ks i)) ∧ SlA W W.heap.size o.sv o.ns (fun i => .bool (o.sl i)) ∧ -9223372036854775808 ≤ o.at_ ∧ o.at_ ≤ 9223372036854775807) (fun i hi => by
      obtain ⟨cs', h1, h2⟩ := hel i hi
      obtain ⟨o, rfl, r⟩ := rd_act h2
      exact ⟨o, h1, r⟩)
    refine ⟨o, fun hpos => ?_, fun j hj => (ho j (by omega)).2.1, fun j hj => (ho j (by omega)).2.2.1, fun j hj => (ho j (by omega)).2.2.2⟩
    obtain ⟨b, off, spot⟩ := a
    have hc0 := (World.cells?_some (ho 0 (by omega)).1).2.2 0 (by omega)
    have hspot : spot = none := by simpa [Addr.add] using World.cell?_spot hc0
    subst hspot
    refine ⟨b, off, rfl, fun j hj i v hi => ?_⟩
    have hi5 : i < 6 := by
      have := (List.getElem?_eq_some_iff.1 hi).1
      simpa using this
    have hc := (World.cells?_some (ho j (by omega)).1).2.2 i hi5
    rw [Addr.add_mid, Addr.add_mid] at hc
    rw [hc]
    exact hi
end
end Vl
end Go.Proofs.YtbfjklpoheooaaaGreatDoor
