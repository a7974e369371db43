/- The law ZoneKeeps's arguments opened: a list of steps, an image. -/
import Derived.Test.YtjfhggcjdckfgaaDoorT14
import Derived.ProofKit
import Derived.OpenShut
import Derived.SliceStrings
import Derived.Deep.Grids
import Derived.Deep.Slices
import Derived.Deep.MidRow
namespace Go.Proofs.YtjfhggcjdckfgaaDoor
set_option linter.unusedSimpArgs false
set_option linter.unusedVariables false
set_option maxRecDepth 100000
open Go.ChangeShapes Go.WideShapes Go.ChangeAt Go.RowKit Go.Deep

section
variable {H : Type} {enc : TypeId × Value → H} {W : World} {fuel : Nat} {x : DataW H × List MemPlace}
theorem kc9 : Tryd.prog.cellsOf 9 = 1 := by kernel_rfl
theorem kc3 : Tryd.prog.cellsOf 3 = 1 := by kernel_rfl
theorem kc4 : Tryd.prog.cellsOf 4 = 1 := by kernel_rfl
theorem kc22 : Tryd.prog.cellsOf 22 = 1 := by kernel_rfl
theorem kc51 : Tryd.prog.cellsOf 51 = 1 := by kernel_rfl
theorem kc52 : Tryd.prog.cellsOf 52 = 1 := by kernel_rfl
theorem kc42 : Tryd.prog.cellsOf 42 = 8 := by kernel_rfl
theorem kc43 : Tryd.prog.cellsOf 43 = 2 := by kernel_rfl
theorem kc45 : Tryd.prog.cellsOf 45 = 10 := by kernel_rfl
theorem kc54 : Tryd.prog.cellsOf 54 = 5 := by kernel_rfl
theorem rd_str {v : Value} (h : DataW.trod enc Tryd.prog W 0 (fun _ => true) true fuel 22 [v] = some x) :
    ∃ (n : Nat) (l : Nat → ByteArray) (a : Option Addr) (c : Nat), v = .slice a n c ∧ n ≤ c ∧ (0 < n → ∃ k o, a = some ⟨k, o, none⟩ ∧ k < W.heap.size ∧ ∀ j, j < n → W.cell? ⟨k, o + j, none⟩ = some (.string (l j))) := by
  rcases open_strings Tryd.underlying22 Tryd.underlying9 kc9 h with ⟨hcs, hx⟩ | ⟨a, len, cap, ss, hcs, _, hl, hm, hz, hx, hcell, hsz⟩
  · injection hcs with hv
    exact ⟨0, fun _ => ⟨#[]⟩, none, 0, hv, Nat.le_refl _, fun h => by omega⟩
  · injection hcs with hv
    simp only [if_true] at hz
    refine ⟨len, fun j => ss.getD j ByteArray.empty, some a, cap, hv, hl, fun hpos => ?_⟩
    obtain ⟨b, off, spot⟩ := a
    have hspot : spot = none := by simpa [Addr.add] using World.cell?_spot (hcell 0 (by omega))
    subst hspot
    exact ⟨b, off, rfl, World.block_lt_of_cell? W _ (hcell 0 (by omega)), fun j hj => by rw [← Addr.add_mid]; exact hcell j (by omega)⟩
theorem rd_int {v : Value} (h : DataW.trod enc Tryd.prog W 0 (fun _ => true) true fuel 51 [v] = some x) :
    ∃ (n : Nat) (l : Nat → Int), SlA W W.heap.size v n (fun j => .int .i64 (l j)) := by
  rcases open_ints Tryd.underlying51 Tryd.underlying3 kc3 h with ⟨hcs, hx⟩ | ⟨a, len, cap, ss, hcs, _, hl, hm, hz, hx, hcell, hsz⟩
  · injection hcs with hv
    exact ⟨0, fun _ => 0, none, 0, hv, fun h => by omega⟩
  · injection hcs with hv
    simp only [if_true] at hz
    refine ⟨len, fun j => ss.getD j 0, some a, cap, hv, fun hpos => ?_⟩
    obtain ⟨b, off, spot⟩ := a
    have hspot : spot = none := by simpa [Addr.add] using World.cell?_spot (hcell 0 (by omega))
    subst hspot
    exact ⟨b, off, rfl, World.block_lt_of_cell? W _ (hcell 0 (by omega)), fun j hj => by rw [← Addr.add_mid]; exact hcell j (by omega)⟩
theorem rd_bool {v : Value} (h : DataW.trod enc Tryd.prog W 0 (fun _ => true) true fuel 52 [v] = some x) :
    ∃ (n : Nat) (l : Nat → Bool), SlA W W.heap.size v n (fun j => .bool (l j)) := by
  rcases open_bools Tryd.underlying52 Tryd.underlying4 kc4 h with ⟨hcs, hx⟩ | ⟨a, len, cap, B, hcs, _, hl, hm, hx, hcell⟩
  · injection hcs with hv
    exact ⟨0, fun _ => false, none, 0, hv, fun h => by omega⟩
  · injection hcs with hv
    refine ⟨len, B, some a, cap, hv, fun hpos => ?_⟩
    obtain ⟨b, off, spot⟩ := a
    have hspot : spot = none := by simpa [Addr.add] using World.cell?_spot (hcell 0 (by omega))
    subst hspot
    exact ⟨b, off, rfl, World.block_lt_of_cell? W _ (hcell 0 (by omega)), fun j hj => by rw [← Addr.add_mid]; exact hcell j (by omega)⟩

/-- an image opened -/
theorem rd_image {cs : List Value} (h : DataW.trod enc Tryd.prog W 0 (fun _ => true) true fuel 45 cs = some x) :
    ∃ (iv : Nat → Value) (n : Nat → Nat) (l : Nat → Nat → ByteArray) (s0 s1 : ByteArray), cs = brow 10 (icell iv s0 s1) ∧ ImA W W.heap.size iv n l := by
  obtain ⟨xs, m, _, _, hlen, hxl, hf⟩ := DataW.trod_struct Tryd.underlying45 h
  rw [kc45] at hlen
  match cs, hlen with
  | [v0, v1, v2, v3, v4, v5, v6, v7, v8, v9], _ =>
    have g0 : DataW.trod enc Tryd.prog W 0 (fun _ => true) true m 42 ((([v0, v1, v2, v3, v4, v5, v6, v7, v8, v9] : List Value).drop 0).take (Tryd.prog.cellsOf 42)) = xs[0]? := hf 0 _ rfl
    have g1 : DataW.trod enc Tryd.prog W 0 (fun _ => true) true m 43 ((([v0, v1, v2, v3, v4, v5, v6, v7, v8, v9] : List Value).drop 8).take (Tryd.prog.cellsOf 43)) = xs[1]? := hf 1 _ rfl
    rw [kc42] at g0
    rw [kc43] at g1
    match xs, hxl with
    | [y0, y1], _ =>
      obtain ⟨ys, m1, _, _, _, hyl, hy⟩ := DataW.trod_array Tryd.underlying42 g0
      obtain ⟨zs, m2, _, _, _, hzl, hz⟩ := DataW.trod_array Tryd.underlying43 g1
      simp only [kc22] at hy
      simp only [kc9] at hz
      have hz0 := hz 0 (by omega)
      have hz1 := hz 1 (by omega)
      rw [List.getElem?_eq_getElem (by omega)] at hz0 hz1
      obtain ⟨s0, e0, _, _⟩ := DataW.trod_string Tryd.underlying9 hz0
      obtain ⟨s1, e1, _, _⟩ := DataW.trod_string Tryd.underlying9 hz1
      have f0 : v8 = .string s0 := by simpa using e0
      have f1 : v9 = .string s1 := by simpa using e1
      clear e0 e1
      subst f0 f1
      have g : ∀ z, z < 8 → ∃ q : Nat × (Nat → ByteArray), ∃ (a : Option Addr) (c : Nat), ([v0, v1, v2, v3, v4, v5, v6, v7] : List Value).getD z (.slice none 0 0) = .slice a q.1 c ∧ q.1 ≤ c ∧ (0 < q.1 → ∃ k o, a = some ⟨k, o, none⟩ ∧ k < W.heap.size ∧ ∀ j, j < q.1 → W.cell? ⟨k, o + j, none⟩ = some (.string (q.2 j))) := fun z hz8 => by
        have hq := hy z hz8
        rw [List.getElem?_eq_getElem (by omega)] at hq
        have e : (List.take 1 (List.drop (z * 1) (List.take 8 (List.drop 0 [v0, v1, v2, v3, v4, v5, v6, v7, .string s0, .string s1])))) = [([v0, v1, v2, v3, v4, v5, v6, v7] : List Value).getD z (.slice none 0 0)] := by
          match z, hz8 with
          | 0, _ => rfl
          | 1, _ => rfl
          | 2, _ => rfl
          | 3, _ => rfl
          | 4, _ => rfl
          | 5, _ => rfl
          | 6, _ => rfl
          | 7, _ => rfl
        rw [e] at hq
        obtain ⟨n, l, a, c, h1, h2, h3⟩ := rd_str hq
        exact ⟨(n, l), a, c, h1, h2, h3⟩
      obtain ⟨q, hq⟩ := choose_lt g
      exact ⟨fun z => ([v0, v1, v2, v3, v4, v5, v6, v7] : List Value).getD z (.slice none 0 0), fun z => (q z).1, fun z => (q z).2, s0, s1, rfl, ⟨fun z hz8 => hq z hz8⟩⟩

structure OpV where
  wh : Int
  at_ : Int
  s : ByteArray
  kv : Value
  sv : Value
  nk : Nat
  ns : Nat
  ks : Nat → Int
  sl : Nat → Bool
def opNone : OpV := ⟨0, 0, ⟨#[]⟩, .slice none 0 0, .slice none 0 0, 0, 0, fun _ => 0, fun _ => false⟩
/-- a step opened -/
theorem rd_op {cs : List Value} (h : DataW.trod enc Tryd.prog W 0 (fun _ => true) true fuel 54 cs = some x) :
    ∃ o : OpV, cs = [.int .i64 o.wh, .int .i64 o.at_, .string o.s, o.kv, o.sv] ∧ SlA W W.heap.size o.kv o.nk (fun i => .int .i64 (o.ks i)) ∧ SlA W W.heap.size o.sv o.ns (fun i => .bool (o.sl i)) ∧ -9223372036854775808 ≤ o.at_ ∧ o.at_ ≤ 9223372036854775807 := by
  obtain ⟨xs, m, _, _, hlen, hxl, hf⟩ := DataW.trod_struct Tryd.underlying54 h
  rw [kc54] at hlen
  match cs, hlen with
  | [v0, v1, v2, v3, v4], _ =>
    have g0 : DataW.trod enc Tryd.prog W 0 (fun _ => true) true m 3 ((([v0, v1, v2, v3, v4] : List Value).drop 0).take (Tryd.prog.cellsOf 3)) = xs[0]? := hf 0 _ rfl
    have g1 : DataW.trod enc Tryd.prog W 0 (fun _ => true) true m 3 ((([v0, v1, v2, v3, v4] : List Value).drop 1).take (Tryd.prog.cellsOf 3)) = xs[1]? := hf 1 _ rfl
    have g2 : DataW.trod enc Tryd.prog W 0 (fun _ => true) true m 9 ((([v0, v1, v2, v3, v4] : List Value).drop 2).take (Tryd.prog.cellsOf 9)) = xs[2]? := hf 2 _ rfl
    have g3 : DataW.trod enc Tryd.prog W 0 (fun _ => true) true m 51 ((([v0, v1, v2, v3, v4] : List Value).drop 3).take (Tryd.prog.cellsOf 51)) = xs[3]? := hf 3 _ rfl
    have g4 : DataW.trod enc Tryd.prog W 0 (fun _ => true) true m 52 ((([v0, v1, v2, v3, v4] : List Value).drop 4).take (Tryd.prog.cellsOf 52)) = xs[4]? := hf 4 _ rfl
    rw [kc3] at g0 g1
    rw [kc9] at g2
    rw [kc51] at g3
    rw [kc52] at g4
    match xs, hxl with
    | [y0, y1, y2, y3, y4], _ =>
      obtain ⟨n0, e0, _, _⟩ := DataW.trod_int Tryd.underlying3 g0
      obtain ⟨n1, e1, _, hw⟩ := DataW.trod_int Tryd.underlying3 g1
      obtain ⟨s, e2, _, _⟩ := DataW.trod_string Tryd.underlying9 g2
      have f0 : v0 = .int .i64 n0 := by simpa using e0
      have f1 : v1 = .int .i64 n1 := by simpa using e1
      have f2 : v2 = .string s := by simpa using e2
      clear e0 e1 e2
      subst f0 f1 f2
      obtain ⟨nk, ks, hk⟩ := rd_int (v := v3) g3
      obtain ⟨ns, sl, hs⟩ := rd_bool (v := v4) g4
      have e1 : IntKind.i64.min = -9223372036854775808 := rfl
      have e2 : IntKind.i64.max = 9223372036854775807 := rfl
      have hw2 : -9223372036854775808 ≤ n1 ∧ n1 ≤ 9223372036854775807 := by simpa [Lit.wf, e1, e2] using hw
      exact ⟨⟨n0, n1, s, v3, v4, nk, ns, ks, sl⟩, rfl, hk, hs, hw2.1, hw2.2⟩
/-- a list of steps opened -/
theorem rd_ops {a0 : Option Addr} {len cap : Nat} (h : DataW.trod enc Tryd.prog W 0 (fun _ => true) true fuel 41 [.slice a0 len cap] = some x) :
    ∃ o : Nat → OpV, Ops W a0 len (fun j => (o j).wh) (fun j => (o j).at_) (fun j => (o j).s) (fun j => (o j).kv) (fun j => (o j).sv) (fun j => (o j).nk) (fun j => (o j).ns) (fun j => (o j).ks) (fun j => (o j).sl) := by
  rcases open_slice Tryd.underlying41 h with ⟨hcs, hx⟩ | ⟨a, len', cap', mm, n, D, Pl, hcs, _, hl, hm, hmm, hx, hel⟩
  · simp at hcs
    obtain ⟨rfl, rfl, rfl⟩ := hcs
    exact ⟨fun _ => opNone, fun h => by omega, fun j hj => by omega, fun j hj => by omega, fun j hj => by omega⟩
  · simp at hcs
    obtain ⟨rfl, rfl, rfl⟩ := hcs
    simp only [if_true] at hmm
    subst hmm
    rw [kc54] at hel
    have hinh : Inhabited OpV := ⟨opNone⟩
    obtain ⟨o, ho⟩ := choose_lt (α := OpV) (n := mm) (p := fun i o => W.cells? 0 (a.add (i * 5)) 5 = some [.int .i64 o.wh, .int .i64 o.at_, .string o.s, o.kv, o.sv] ∧ SlA W W.heap.size o.kv o.nk (fun i => .int .i64 (o.ks i)) ∧ SlA W W.heap.size o.sv o.ns (fun i => .bool (o.sl i)) ∧ -9223372036854775808 ≤ o.at_ ∧ o.at_ ≤ 9223372036854775807) (fun i hi => by
      obtain ⟨cs', h1, h2⟩ := hel i hi
      obtain ⟨o, rfl, r⟩ := rd_op h2
      exact ⟨o, h1, r⟩)
    refine ⟨o, fun hpos => ?_, fun j hj => (ho j (by omega)).2.1, fun j hj => (ho j (by omega)).2.2.1, fun j hj => (ho j (by omega)).2.2.2⟩
    obtain ⟨b, off, spot⟩ := a
    have hc0 := (World.cells?_some (ho 0 (by omega)).1).2.2 0 (by omega)
    have hspot : spot = none := by simpa [Addr.add] using World.cell?_spot hc0
    subst hspot
    refine ⟨b, off, rfl, fun j hj i v hi => ?_⟩
    have hi5 : i < 5 := by
      have := (List.getElem?_eq_some_iff.1 hi).1
      simpa using this
    have hc := (World.cells?_some (ho j (by omega)).1).2.2 i hi5
    rw [Addr.add_mid, Addr.add_mid] at hc
    rw [hc]
    exact hi
end
end Go.Proofs.YtjfhggcjdckfgaaDoor
