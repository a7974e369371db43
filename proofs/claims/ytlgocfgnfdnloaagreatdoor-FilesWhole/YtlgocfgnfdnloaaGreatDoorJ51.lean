import Derived.Test.YtlgocfgnfdnloaaGreatDoorJ45
import Derived.Test.YtlgocfgnfdnloaaGreatDoorJ49
import Derived.Test.YtlgocfgnfdnloaaGreatDoorJ50
set_option linter.unusedSimpArgs false
set_option linter.unusedVariables false
namespace Go.Proofs.YtlgocfgnfdnloaaGreatDoor
set_option maxRecDepth 100000
namespace Fl
open Go.ChangeShapes Go.WideShapes Go.ChangeAt Go.RowKit Go.Deep
section
variable {H : Type} {enc : TypeId × Value → H} {W : World} {fuel : Nat} {x : DataW H × List MemPlace}
theorem kcD : Tryz.prog.cellsOf 88 = 3 := by kernel_rfl
theorem rd_deed {cs : List Value} (h : DataW.trod enc Tryz.prog W 0 (fun _ => true) true fuel 88 cs = some x) :
    ∃ o : Dd, cs = [.int .i64 o.what, .string o.nm, .string o.tx] := by
  obtain ⟨xs, m, _, _, hlen, hxl, hf⟩ := DataW.trod_struct Tryz.underlying88 h
  rw [kcD] at hlen
  match cs, hlen with
  | [v0, v1, v2], _ =>
    have g0 : DataW.trod enc Tryz.prog W 0 (fun _ => true) true m 3 ((([v0, v1, v2] : List Value).drop 0).take (Tryz.prog.cellsOf 3)) = xs[0]? := hf 0 _ rfl
    have g1 : DataW.trod enc Tryz.prog W 0 (fun _ => true) true m 9 ((([v0, v1, v2] : List Value).drop 1).take (Tryz.prog.cellsOf 9)) = xs[1]? := hf 1 _ rfl
    have g2 : DataW.trod enc Tryz.prog W 0 (fun _ => true) true m 9 ((([v0, v1, v2] : List Value).drop 2).take (Tryz.prog.cellsOf 9)) = xs[2]? := hf 2 _ rfl
    rw [En.kc3] at g0
    rw [En.kc9] at g1 g2
    match xs, hxl with
    | [y0, y1, y2], _ =>
      obtain ⟨n0, e0, _, _⟩ := DataW.trod_int Tryz.underlying3 g0
      obtain ⟨s1, e1, _, _⟩ := DataW.trod_string Tryz.underlying9 g1
      obtain ⟨s2, e2, _, _⟩ := DataW.trod_string Tryz.underlying9 g2
      have f0 : v0 = .int .i64 n0 := by simpa using e0
      have f1 : v1 = .string s1 := by simpa using e1
      have f2 : v2 = .string s2 := by simpa using e2
      clear e0 e1 e2
      subst f0 f1 f2
      exact ⟨⟨n0, s1, s2⟩, rfl⟩
theorem rd_deeds {a0 : Option Addr} {len cap : Nat} (h : DataW.trod enc Tryz.prog W 0 (fun _ => true) true fuel 81 [.slice a0 len cap] = some x) :
    ∃ l : List Dd, Dds W (.slice a0 len cap) l := by
  rcases open_slice Tryz.underlying81 h with ⟨hcs, hx⟩ | ⟨a, len', cap', mm, n, D, Pl, hcs, _, hl, hm, hmm, hx, hel⟩
  · simp at hcs
    obtain ⟨rfl, rfl, rfl⟩ := hcs
    exact ⟨[], none, 0, rfl, Nat.le_refl _, fun h => by simp at h⟩
  · simp at hcs
    obtain ⟨rfl, rfl, rfl⟩ := hcs
    simp only [if_true] at hmm
    subst hmm
    rw [kcD] at hel
    have hinh : Inhabited Dd := ⟨⟨0, ⟨#[]⟩, ⟨#[]⟩⟩⟩
    obtain ⟨o, ho⟩ := choose_lt (α := Dd) (n := mm) (p := fun i o => W.cells? 0 (a.add (i * 3)) 3 = some [.int .i64 o.what, .string o.nm, .string o.tx]) (fun i hi => by
      obtain ⟨cs', h1, h2⟩ := hel i hi
      obtain ⟨o, rfl⟩ := rd_deed h2
      exact ⟨o, h1⟩)
    have hget : ∀ j f, ((List.range len).map o)[j]? = some f → j < len ∧ f = o j := fun j f hj => by
      have hjl : j < len := by have := (List.getElem?_eq_some_iff.1 hj).1; simpa using this
      rw [List.getElem?_map, List.getElem?_range hjl] at hj
      exact ⟨hjl, by simpa using hj.symm⟩
    refine ⟨(List.range len).map o, some a, mm, by simp, by simpa using hl, fun hpos => ?_⟩
    simp at hpos
    obtain ⟨b, off, spot⟩ := a
    have hc0 := (World.cells?_some (ho 0 (by omega))).2.2 0 (by omega)
    have hspot : spot = none := by simpa [Addr.add] using World.cell?_spot hc0
    subst hspot
    have hb : b < W.heap.size := by
      have := World.block_lt_of_cell? W _ hc0
      simpa [Addr.add] using this
    refine ⟨b, off, rfl, hb, fun j f hj => ?_⟩
    obtain ⟨hjl, rfl⟩ := hget j f hj
    have hc := (World.cells?_some (ho j (by omega))).2.2
    have c0 := hc 0 (by omega)
    have c1 := hc 1 (by omega)
    have c2 := hc 2 (by omega)
    rw [Addr.add_mid, Addr.add_mid] at c0 c1 c2
    exact ⟨c0, c1, c2⟩
end
theorem cellsU32 : Tryz.prog.cellsOf 106 = 1 := by kernel_rfl
theorem cellsA64 : Tryz.prog.cellsOf 108 = 64 := by kernel_rfl
theorem gRounds : Tryz.prog.globalNamed "saltern/sum.rounds" = some 7 := by kernel_rfl
theorem gRoundsType : (Tryz.prog.globals[7]?).map (·.type) = some 108 := by kernel_rfl
def roundsD : DataW Unit := Lib.tabData .u32 ((List.range 64).map fun j => ((Sm.kn j).toNat : Int))
theorem rounds_eq : (Rows.laid_saltern_sum_rounds : DataW Unit) = roundsD := by kernel_rfl
theorem rounds_tab {w : World} {l : List (String × DataW Unit)} {ps : List MemPlace} (h : DataW.LaidVars Tryz.prog w l ps) (hx : ("saltern/sum.rounds", roundsD) ∈ l) : Sm.Tab w := by
  obtain ⟨g', t, cs, fuel, p, h1, h2, h3, h4⟩ := En.laid_at l ps h _ hx
  obtain rfl := Option.some.inj (gRounds.symm.trans h1)
  obtain rfl := Option.some.inj (gRoundsType.symm.trans h2)
  have ht : Lib.TabIs Tryz.prog w "saltern/sum.rounds" .u32 ((List.range 64).map fun j => ((Sm.kn j).toNat : Int)) := by
    unfold Lib.TabIs
    rw [h3, ← Lib.cells_of_tab Tryz.underlying108 Tryz.underlying106 cellsU32 cellsA64 h4]
  intro j hj
  have h5 := ht.cell gRounds j (by simpa using hj)
  rw [h5]
  simp [Sm.U, hj, List.getD]
theorem gSyn : Tryz.prog.globalNamed "strconv.ErrSyntax" = some 2 := by kernel_rfl
theorem gSynT : (Tryz.prog.globals[2]?).map (·.type) = some 38 := by kernel_rfl
theorem gRan : Tryz.prog.globalNamed "strconv.ErrRange" = some 3 := by kernel_rfl
theorem gRanT : (Tryz.prog.globals[3]?).map (·.type) = some 38 := by kernel_rfl
end Fl
end Go.Proofs.YtlgocfgnfdnloaaGreatDoor
