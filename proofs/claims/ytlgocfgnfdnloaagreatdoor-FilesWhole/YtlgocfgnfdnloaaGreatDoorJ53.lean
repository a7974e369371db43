import Derived.Deep.DeepHandedRow
import Derived.LaidHandle
import Derived.Test.YtlgocfgnfdnloaaGreatDoorCards
import Derived.Test.YtlgocfgnfdnloaaGreatDoorTie
import Derived.Test.YtlgocfgnfdnloaaGreatDoorJ48
import Derived.Test.YtlgocfgnfdnloaaGreatDoorJ51
import Derived.Test.YtlgocfgnfdnloaaGreatDoorJ52
set_option linter.unusedSimpArgs false
set_option linter.unusedVariables false
namespace Go.Proofs.YtlgocfgnfdnloaaGreatDoor
open Go.ChangeShapes Go.WideShapes Go.ChangeAt Go.RowKit
theorem own : ownKnob Tryz.prog.godebug = none := by kernel_rfl
theorem laidOut : laidOutB Tryz.prog = true := by kernel_rfl
theorem et : Tryz.prog.globalNamed "errors.errorType" = some 0 := by kernel_rfl
theorem rt : (Tryz.prog.cutTypes.find? (·.1 == "internal/reflectlite.rtype")).map (·.2) = some 279 := by kernel_rfl
theorem oneRow : ((List.range 450).filter fun t => Tryz.prog.rowNamed t [101, 114, 114, 111, 114]) = [38] := by kernel_rfl
theorem tsize : Tryz.prog.types.size = 450 := by kernel_rfl
def plainLaid : List (String × DataW Unit) := [("math/bits.deBruijn32tab", Rows.laid_math_bits_deBruijn32tab), ("math/bits.deBruijn64tab", Rows.laid_math_bits_deBruijn64tab), ("internal/strconv.uint64pow10", Rows.laid_internal_strconv_uint64pow10), ("unicode/utf8.acceptRanges", Rows.laid_unicode_utf8_acceptRanges), ("strconv.ErrRange", Rows.laid_strconv_ErrRange), ("strconv.ErrSyntax", Rows.laid_strconv_ErrSyntax), ("saltern/sum.rounds", Rows.laid_saltern_sum_rounds), ("unicode/utf8.first", Rows.laid_unicode_utf8_first)]
theorem laid_split {W : World} (h : laidMetH Tryz.prog Rows.filesWholeRow.laid W) : laidMet Tryz.prog plainLaid W ∧ handlesMet Tryz.prog [("errors.errorType", Rows.laid_errors_errorType)] W := h
theorem handle_of_laid {W : World} (h : laidMetH Tryz.prog Rows.filesWholeRow.laid W) : Et W := by
  obtain ⟨name, u, ty, e1, e2, e3, e4, e5⟩ := (laid_split h).2 _ (List.mem_singleton.2 rfl)
  have en : name = [101, 114, 114, 111, 114] := (Option.some.inj e1).symm
  subst en
  obtain rfl := Option.some.inj (rt.symm.trans e2)
  have hm : ty ∈ (List.range 450).filter fun t => Tryz.prog.rowNamed t [101, 114, 114, 111, 114] := List.mem_filter.2 ⟨List.mem_range.2 (by rw [← tsize]; exact e3), e4⟩
  rw [oneRow] at hm
  obtain rfl := List.mem_singleton.1 hm
  have hh : typeHandle Tryz.prog 38 = .pointer (some ⟨10, 38, none⟩) := by kernel_rfl
  rw [hh] at e5
  unfold Et
  simpa using World.var?_cell et e5 0
theorem lb_of_laid {W : World} (h : laidMetH Tryz.prog Rows.filesWholeRow.laid W) (hs : W.ShapedOpen Tryz.prog) : En.Lb W ∧ Sm.Tab W := by
  obtain ⟨ps, hl, _⟩ := (laid_split h).1
  refine ⟨⟨En.pow_tab hl ?_, En.max_cell hs, En.sent_cell hl (n := "strconv.ErrSyntax") (nm := "*errors.errorString") (d := .ptr (.agg [.lit (.string [105, 110, 118, 97, 108, 105, 100, 32, 115, 121, 110, 116, 97, 120])])) ?_ Fl.gSyn Fl.gSynT, En.sent_cell hl (n := "strconv.ErrRange") (nm := "*errors.errorString") (d := .ptr (.agg [.lit (.string [118, 97, 108, 117, 101, 32, 111, 117, 116, 32, 111, 102, 32, 114, 97, 110, 103, 101])])) ?_ Fl.gRan Fl.gRanT⟩, Fl.rounds_tab hl ?_⟩
  · rw [← En.pow_eq]
    exact List.mem_of_getElem? (i := 2) rfl
  · exact List.mem_of_getElem? (i := 5) rfl
  · exact List.mem_of_getElem? (i := 4) rfl
  · rw [← Fl.rounds_eq]
    exact List.mem_of_getElem? (i := 6) rfl
theorem laid_met (os : Os) (args : Array Value) : laidMetH Tryz.prog Rows.filesWholeRow.laid (((World.laidAll Tryz.prog os plainLaid).setCell ⟨0, 0, none⟩ (.iface 279 (.agg #[.pointer (some ⟨10, 38, none⟩)]))).forCall (fun _ _ => 0) ⟨#[], args, []⟩).memory :=
  laidMetH_of_parts (laidMet_of_run' 8 (by kernel_rfl) (by kernel_rfl)) (by kernel_rfl)
theorem reads (os : Os) {H : Type} (enc : TypeId × Value → H) : ∃ places, DataW.whole enc Tryz.prog (((World.laidAll Tryz.prog os plainLaid).setCell ⟨0, 0, none⟩ (.iface 279 (.agg #[.pointer (some ⟨10, 38, none⟩)]))).forCall (fun _ _ => 0) ⟨#[], #[.slice none 0 0, .int .i64 0, .slice none 0 0, .slice none 0 0], []⟩).memory Tryz.f6.params.toList Rows.filesWholeSpec.vars false
    (#[.slice none 0 0, .int .i64 0, .slice none 0 0, .slice none 0 0] : Array Value).toList 8 = some ([.nil, .lit (.int .i64 0), .nil, .nil], [], places) :=
  ⟨[], by kernel_rfl⟩
set_option maxRecDepth 100000 in
theorem contract (H : Type) (enc : TypeId × Value → H) (W : World) (base : Nat) (args : Array Value) (ds gs : List (DataW H)) (before : List MemPlace)
    (hval : ∀ (j : Nat) t v, Tryz.f6.params[j]? = some t → args[j]? = some v → Value.okWide Tryz.prog W .any base t v)
    (hW : DataW.Whole enc Tryz.prog Tryz.f6.params.toList Rows.filesWholeSpec.vars false W args.toList ds gs before) (hL : laidMetH Tryz.prog Rows.filesWholeRow.laid W) (hsh : W.ShapedOpen Tryz.prog) :
    Calls Tryz.prog 6 args W fun e W' => ∃ v, e = .returned v ∧ Rows.filesWholeSpec.post enc Tryz.prog Tryz.f6 false true false false W args v W' := by
  have hW' := hW
  obtain ⟨p, q, hA0, hV, rfl, hfz, hnd⟩ := hW
  have hA : DataW.TrodAll enc Tryz.prog W 0 (fun _ => true) true Tryz.f6.params.toList args.toList ds p := hA0
  rw [Tryz.params6] at hA hval
  obtain ⟨v0, vs0, d0, ds0, p0, q0, hargs, rfl, rfl, h0, r0⟩ := trodAll_cons hA
  obtain ⟨v1, vs1, d1, ds1, p1, q1, hargs1, rfl, rfl, h1, r1⟩ := trodAll_cons r0
  obtain ⟨v2, vs2, d2, ds2, p2, q2, hargs2, rfl, rfl, h2, r2⟩ := trodAll_cons r1
  obtain ⟨v3, vs3, d3, ds3, p3, q3, hargs3, rfl, rfl, h3, r3⟩ := trodAll_cons r2
  obtain ⟨rfl, rfl, rfl⟩ := trodAll_nil r3
  obtain rfl : args = #[v0, v1, v2, v3] := by cases args; simp_all
  obtain ⟨rfl, rfl⟩ := trodVars_none hV
  obtain ⟨a0, m0, c0, rfl⟩ := okWide_slice Tryz.underlying81 (hval 0 81 v0 rfl rfl)
  obtain ⟨a2, m2, c2, rfl⟩ := okWide_slice Tryz.underlying61 (hval 2 61 v2 rfl rfl)
  obtain ⟨a3, m3, c3, rfl⟩ := okWide_slice Tryz.underlying62 (hval 3 62 v3 rfl rfl)
  obtain ⟨l0, hl0⟩ : ∃ l : List Fl.Dd, Fl.Dds W (.slice a0 m0 c0) l := by
    obtain ⟨fuel, hf⟩ := h0
    exact Fl.rd_deeds hf
  obtain ⟨n1, rfl, rfl, rfl, w1⟩ := open_int Tryz.underlying3 (hval 1 3 v1 rfl rfl) h1
  obtain ⟨n2, t2, ht2⟩ : ∃ (n : Nat) (l : Nat → Int), SlA W W.heap.size (.slice a2 m2 c2) n (fun j => .int .i64 (l j)) := by
    obtain ⟨fuel, hf⟩ := h2
    exact Vl.rd_int hf
  obtain ⟨n3, t3, ht3⟩ : ∃ (n : Nat) (l : Nat → Bool), SlA W W.heap.size (.slice a3 m3 c3) n (fun j => .bool (l j)) := by
    obtain ⟨fuel, hf⟩ := h3
    exact Vl.rd_bool hf
  clear hA0
  obtain ⟨hlb, htb⟩ := lb_of_laid hL hsh
  simp only [List.append_nil, List.nil_append] at hW'
  have hlt : ∀ x ∈ p0 ++ (p2 ++ p3), x.block < W.heap.size := fun x hx => by simpa using hW'.lt x (by simpa using hx)
  refine (Fl.whole_go l0 _ _ _ n1 n2 n3 t2 t3 W htb hlb (handle_of_laid hL) hl0 ht2 ht3).mono fun e W' ⟨he, hg⟩ => ?_
  subst he
  have bel : Below W.heap.size W W' := hg
  refine ⟨_, rfl, _, _, _, [], p0 ++ ([] ++ (p2 ++ (p3 ++ []))), [], hW', ?_, ?_, rfl, bel.frame _, fun h => by cases h⟩
  · exact trodAll_mk1 (shut_bool Tryz.underlying4 _)
  · exact trodAll_cons_mk (Below.trod laidOut (by kernel_rfl) (of_decide_eq_true (by kernel_rfl)) h0 bel (fun x hx => hlt x (by simp [hx])))
      (trodAll_cons_mk (p := []) (shut_int Tryz.underlying3 w1)
        (trodAll_cons_mk (Below.trod laidOut (by kernel_rfl) (of_decide_eq_true (by kernel_rfl)) h2 bel (fun x hx => hlt x (by simp [hx])))
          (trodAll_cons_mk (Below.trod laidOut (by kernel_rfl) (of_decide_eq_true (by kernel_rfl)) h3 bel (fun x hx => hlt x (by simp [hx]))) trodAll_mk0)))
theorem w_vars (os : Os) : World.variablesB Tryz.checked.prog (((World.laidAll Tryz.prog os plainLaid).setCell ⟨0, 0, none⟩ (.iface 279 (.agg #[.pointer (some ⟨10, 38, none⟩)]))).forCall (fun x x_1 => 0) { blocks := #[], args := #[.slice none 0 0, .int .i64 0, .slice none 0 0, .slice none 0 0] }) = true := by kernel_rfl
theorem w_heap (os : Os) : List.take ((begin Tryz.checked.prog (fun x x_1 => 0) default).world.heap.size - Tryz.checked.prog.globals.size) (List.drop Tryz.checked.prog.globals.size (((World.laidAll Tryz.prog os plainLaid).setCell ⟨0, 0, none⟩ (.iface 279 (.agg #[.pointer (some ⟨10, 38, none⟩)]))).forCall (fun x x_1 => 0) { blocks := #[], args := #[.slice none 0 0, .int .i64 0, .slice none 0 0, .slice none 0 0] }).heap.toList) = List.drop Tryz.checked.prog.globals.size (begin Tryz.checked.prog (fun x x_1 => 0) default).world.heap.toList := by kernel_rfl
theorem w_ok (os : Os) : Input.okWideB Tryz.checked.prog (((World.laidAll Tryz.prog os plainLaid).setCell ⟨0, 0, none⟩ (.iface 279 (.agg #[.pointer (some ⟨10, 38, none⟩)]))).forCall (fun x x_1 => 0) { blocks := #[], args := #[.slice none 0 0, .int .i64 0, .slice none 0 0, .slice none 0 0] }) 6 { blocks := #[], args := #[.slice none 0 0, .int .i64 0, .slice none 0 0, .slice none 0 0] } = true := by kernel_rfl
theorem w_os (W : World) (p : Addr) (v : Value) : (W.setCell p v).os = W.os := rfl
end Go.Proofs.YtlgocfgnfdnloaaGreatDoor
