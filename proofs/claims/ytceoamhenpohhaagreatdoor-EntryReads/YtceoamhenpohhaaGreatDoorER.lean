/- Lists of files opened; what the library's variables hold. -/
import Derived.Test.YtceoamhenpohhaaGreatDoorEE
import Derived.ProofKit
import Derived.OpenShut
import Derived.SliceStrings
import Derived.Deep.Grids
import Derived.Deep.Slices
import Derived.Deep.MidRow
import Derived.Lib.LaidTab
import Derived.LaidLaws
import Derived.Lay
namespace Go.Proofs.YtceoamhenpohhaaGreatDoor
set_option linter.unusedSimpArgs false
set_option linter.unusedVariables false
set_option maxRecDepth 100000
namespace En
open Go.ChangeShapes Go.WideShapes Go.ChangeAt Go.RowKit Go.Deep
section
variable {H : Type} {enc : TypeId × Value → H} {W : World} {fuel : Nat} {x : DataW H × List MemPlace}
theorem kc9 : Tryz.prog.cellsOf 9 = 1 := by kernel_rfl
theorem kc3 : Tryz.prog.cellsOf 3 = 1 := by kernel_rfl
theorem kcI : Tryz.prog.cellsOf 35 = 1 := by kernel_rfl
theorem kcF : Tryz.prog.cellsOf 44 = 3 := by kernel_rfl
theorem rd_int {v : Value} (h : DataW.trod enc Tryz.prog W 0 (fun _ => true) true fuel 35 [v] = some x) : ∃ cs, Ints W v cs := by
  rcases open_ints Tryz.underlying35 Tryz.underlying3 kc3 h with ⟨hcs, hx⟩ | ⟨a, len, cap, ss, hcs, _, hl, hm, hz, hx, hcell, hsz⟩
  · injection hcs with hv
    exact ⟨[], none, 0, hv, Nat.le_refl _, fun h => by simp at h⟩
  · injection hcs with hv
    simp only [if_true] at hz
    refine ⟨(List.range len).map (fun j => ss.getD j 0), some a, cap, by simpa using hv, by simpa using hl, fun hpos => ?_⟩
    simp at hpos
    obtain ⟨b, off, spot⟩ := a
    have hspot : spot = none := by simpa [Addr.add] using World.cell?_spot (hcell 0 (by omega))
    subst hspot
    refine ⟨b, off, rfl, World.block_lt_of_cell? W _ (hcell 0 (by omega)), fun j y hj => ?_⟩
    have hjl : j < len := by have := (List.getElem?_eq_some_iff.1 hj).1; simpa using this
    have e : y = ss.getD j 0 := by
      rw [List.getElem?_map, List.getElem?_range hjl] at hj
      simpa using hj.symm
    rw [e, ← Addr.add_mid]
    exact hcell j (by omega)
theorem rd_file {cs : List Value} (h : DataW.trod enc Tryz.prog W 0 (fun _ => true) true fuel 44 cs = some x) :
    ∃ o : Fi × Value, cs = [.string o.1.nm, .int .i64 o.1.sz, o.2] ∧ Ints W o.2 o.1.cs ∧ -9223372036854775808 ≤ o.1.sz ∧ o.1.sz ≤ 9223372036854775807 := by
  obtain ⟨xs, m, _, _, hlen, hxl, hf⟩ := DataW.trod_struct Tryz.underlying44 h
  rw [kcF] at hlen
  match cs, hlen with
  | [v0, v1, v2], _ =>
    have g0 : DataW.trod enc Tryz.prog W 0 (fun _ => true) true m 9 ((([v0, v1, v2] : List Value).drop 0).take (Tryz.prog.cellsOf 9)) = xs[0]? := hf 0 _ rfl
    have g1 : DataW.trod enc Tryz.prog W 0 (fun _ => true) true m 3 ((([v0, v1, v2] : List Value).drop 1).take (Tryz.prog.cellsOf 3)) = xs[1]? := hf 1 _ rfl
    have g2 : DataW.trod enc Tryz.prog W 0 (fun _ => true) true m 35 ((([v0, v1, v2] : List Value).drop 2).take (Tryz.prog.cellsOf 35)) = xs[2]? := hf 2 _ rfl
    rw [kc9] at g0
    rw [kc3] at g1
    rw [kcI] at g2
    match xs, hxl with
    | [y0, y1, y2], _ =>
      obtain ⟨s, e0, _, _⟩ := DataW.trod_string Tryz.underlying9 g0
      obtain ⟨n1, e1, _, hw⟩ := DataW.trod_int Tryz.underlying3 g1
      have f0 : v0 = .string s := by simpa using e0
      have f1 : v1 = .int .i64 n1 := by simpa using e1
      clear e0 e1
      subst f0 f1
      obtain ⟨cs, hc⟩ := rd_int (v := v2) g2
      have e1 : IntKind.i64.min = -9223372036854775808 := rfl
      have e2 : IntKind.i64.max = 9223372036854775807 := rfl
      have hw2 : -9223372036854775808 ≤ n1 ∧ n1 ≤ 9223372036854775807 := by simpa [Lit.wf, e1, e2] using hw
      exact ⟨(⟨s, n1, cs⟩, v2), rfl, hc, hw2.1, hw2.2⟩
theorem rd_files {a0 : Option Addr} {len cap : Nat} (h : DataW.trod enc Tryz.prog W 0 (fun _ => true) true fuel 22 [.slice a0 len cap] = some x) :
    ∃ l : List Fi, Fls W (.slice a0 len cap) l ∧ Sized l := by
  rcases open_slice Tryz.underlying22 h with ⟨hcs, hx⟩ | ⟨a, len', cap', mm, n, D, Pl, hcs, _, hl, hm, hmm, hx, hel⟩
  · simp at hcs
    obtain ⟨rfl, rfl, rfl⟩ := hcs
    exact ⟨[], ⟨none, 0, rfl, Nat.le_refl _, fun h => by simp at h⟩, fun f hf => by cases hf⟩
  · simp at hcs
    obtain ⟨rfl, rfl, rfl⟩ := hcs
    simp only [if_true] at hmm
    subst hmm
    rw [kcF] at hel
    have hinh : Inhabited (Fi × Value) := ⟨(⟨⟨#[]⟩, 0, []⟩, .nilIface)⟩
    obtain ⟨o, ho⟩ := choose_lt (α := Fi × Value) (n := mm) (p := fun i o => W.cells? 0 (a.add (i * 3)) 3 = some [.string o.1.nm, .int .i64 o.1.sz, o.2] ∧ Ints W o.2 o.1.cs ∧ -9223372036854775808 ≤ o.1.sz ∧ o.1.sz ≤ 9223372036854775807) (fun i hi => by
      obtain ⟨cs', h1, h2⟩ := hel i hi
      obtain ⟨o, rfl, r⟩ := rd_file h2
      exact ⟨o, h1, r⟩)
    have hget : ∀ j f, ((List.range len).map (fun j => (o j).1))[j]? = some f → j < len ∧ f = (o j).1 := fun j f hj => by
      have hjl : j < len := by have := (List.getElem?_eq_some_iff.1 hj).1; simpa using this
      rw [List.getElem?_map, List.getElem?_range hjl] at hj
      exact ⟨hjl, by simpa using hj.symm⟩
    refine ⟨(List.range len).map (fun j => (o j).1), ⟨some a, mm, by simp, by simpa using hl, fun hpos => ?_⟩, fun f hf => ?_⟩
    · simp at hpos
      obtain ⟨b, off, spot⟩ := a
      have hc0 := (World.cells?_some (ho 0 (by omega)).1).2.2 0 (by omega)
      have hspot : spot = none := by simpa [Addr.add] using World.cell?_spot hc0
      subst hspot
      have hb : b < W.heap.size := by
        have := World.block_lt_of_cell? W _ hc0
        simpa [Addr.add] using this
      refine ⟨b, off, rfl, hb, fun j f hj => ?_⟩
      obtain ⟨hjl, rfl⟩ := hget j f hj
      have hc := (World.cells?_some (ho j (by omega)).1).2.2
      have c0 := hc 0 (by omega)
      have c1 := hc 1 (by omega)
      have c2 := hc 2 (by omega)
      rw [Addr.add_mid, Addr.add_mid] at c0 c1 c2
      exact ⟨(o j).2, (ho j (by omega)).2.1, c0, c1, c2⟩
    · rw [List.mem_map] at hf
      obtain ⟨j, hj, rfl⟩ := hf
      rw [List.mem_range] at hj
      exact (ho j (by omega)).2.2
end
/-! the library's variables -/
theorem laid_at {P : Program} {w : World} : ∀ (l : List (String × DataW Unit)) (ps : List MemPlace), DataW.LaidVars P w l ps → ∀ x, x ∈ l → ∃ g t cs fuel p, P.globalNamed x.1 = some g ∧ (P.globals[g]?).map (·.type) = some t ∧ w.var? P x.1 = some cs ∧ DataW.trod (fun _ => ()) P w 0 (fun _ => true) false fuel t cs.toList = some (x.2, p)
  | [], _, _, x, hx => by cases hx
  | (n, d) :: r, ps, h, x, hx => by
    obtain ⟨g, t, cs, fuel, p, q, h1, h2, h3, h4, h5, _⟩ := h
    rcases List.mem_cons.1 hx with rfl | hx
    · exact ⟨g, t, cs, fuel, p, h1, h2, h3, h4⟩
    · exact laid_at r q h5 x hx
theorem gPow : Tryz.prog.globalNamed powN = some 3 := by kernel_rfl
theorem gPowT : (Tryz.prog.globals[3]?).map (·.type) = some 132 := by kernel_rfl
theorem kc64 : Tryz.prog.cellsOf 103 = 1 := by kernel_rfl
theorem kc20 : Tryz.prog.cellsOf 132 = 20 := by kernel_rfl
theorem pow_eq : (Rows.laid_internal_strconv_uint64pow10 : DataW Unit) = Lib.tabData .u64 Lib.pow10Tab := by kernel_rfl
theorem sent_cell {w : World} {l : List (String × DataW Unit)} {ps : List MemPlace} (h : DataW.LaidVars Tryz.prog w l ps) {n nm : String} {d : DataW Unit} (hx : (n, DataW.iface nm d) ∈ l) {g : Nat} (hg : Tryz.prog.globalNamed n = some g) (ht : (Tryz.prog.globals[g]?).map (·.type) = some 28) : ∃ v, w.cell? ⟨g, 0, none⟩ = some v ∧ IsErr v := by
  obtain ⟨g', t, cs, fuel, p, h1, h2, h3, h4⟩ := laid_at l ps h _ hx
  obtain rfl := Option.some.inj (hg.symm.trans h1)
  obtain rfl := Option.some.inj (ht.symm.trans h2)
  obtain ⟨_, u, v, hcs, _⟩ := iface_of_trod Tryz.underlying28 h4
  refine ⟨.iface u v, ?_, Or.inr ⟨u, v, rfl⟩⟩
  have := World.var?_cell hg h3 0
  rw [this]
  have : cs[0]? = cs.toList[0]? := by simp
  rw [this, hcs]
  rfl
theorem pow_tab {w : World} {l : List (String × DataW Unit)} {ps : List MemPlace} (h : DataW.LaidVars Tryz.prog w l ps) (hx : (powN, Lib.tabData .u64 Lib.pow10Tab) ∈ l) : Lib.TabIs Tryz.prog w powN .u64 Lib.pow10Tab := by
  obtain ⟨g', t, cs, fuel, p, h1, h2, h3, h4⟩ := laid_at l ps h _ hx
  obtain rfl := Option.some.inj (gPow.symm.trans h1)
  obtain rfl := Option.some.inj (gPowT.symm.trans h2)
  unfold Lib.TabIs
  rw [h3, ← Lib.cells_of_tab Tryz.underlying132 Tryz.underlying103 kc64 kc20 h4]
theorem max_cell {w : World} (h : w.ShapedOpen Tryz.prog) : ∃ m, w.cell? ⟨4, 0, none⟩ = some (.int .i64 m) :=
  Go.Proofs.cell_of_shapedOpen_int (zero := #[.int .i64 0]) (t := 3) h (of_decide_eq_true (by kernel_rfl)) (by kernel_rfl) rfl (by kernel_rfl) (by kernel_rfl) Tryz.underlying3
end En
end Go.Proofs.YtceoamhenpohhaaGreatDoor
