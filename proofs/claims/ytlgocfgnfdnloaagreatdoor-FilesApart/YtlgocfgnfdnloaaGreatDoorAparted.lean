/- The law FilesApart (the document's chapter 10) is proved for every input, in its full form, with its card: for all lists of deeds and of turns the call returns true and its arguments read as they did; no condition. -/
import Derived.Deep.DeepHandedRow
import Derived.LaidHandle
import Derived.Test.YtlgocfgnfdnloaaGreatDoorCards
import Derived.Test.YtlgocfgnfdnloaaGreatDoorTie
import Derived.Test.YtlgocfgnfdnloaaGreatDoorJ49
import Derived.Test.YtlgocfgnfdnloaaGreatDoorJ52
import Derived.Test.YtlgocfgnfdnloaaGreatDoorJ53
set_option linter.unusedSimpArgs false
set_option linter.unusedVariables false
namespace Go.Proofs.YtlgocfgnfdnloaaGreatDoor
open Go.ChangeShapes Go.WideShapes Go.ChangeAt Go.RowKit
theorem own : ownKnob Tryz.prog.godebug = none := by kernel_rfl
theorem laidOut : laidOutB Tryz.prog = true := by kernel_rfl
theorem lb_of_laid {W : World} (h : laidMetH Tryz.prog Rows.filesApartRow.laid W) (hs : W.ShapedOpen Tryz.prog) : En.Lb W ∧ Sm.Tab W := by
  have h' : laidMet Tryz.prog Rows.filesApartRow.laid W := h
  obtain ⟨ps, hl, _⟩ := h'
  refine ⟨⟨En.pow_tab hl ?_, En.max_cell hs, En.sent_cell hl (n := "strconv.ErrSyntax") (nm := "*errors.errorString") (d := .ptr (.agg [.lit (.string [105, 110, 118, 97, 108, 105, 100, 32, 115, 121, 110, 116, 97, 120])])) ?_ Fl.gSyn Fl.gSynT, En.sent_cell hl (n := "strconv.ErrRange") (nm := "*errors.errorString") (d := .ptr (.agg [.lit (.string [118, 97, 108, 117, 101, 32, 111, 117, 116, 32, 111, 102, 32, 114, 97, 110, 103, 101])])) ?_ Fl.gRan Fl.gRanT⟩, Fl.rounds_tab hl ?_⟩
  · rw [← En.pow_eq]
    exact List.mem_of_getElem? (i := 2) rfl
  · exact List.mem_of_getElem? (i := 5) rfl
  · exact List.mem_of_getElem? (i := 4) rfl
  · rw [← Fl.rounds_eq]
    exact List.mem_of_getElem? (i := 6) rfl
theorem laid_met (os : Os) (args : Array Value) : laidMetH Tryz.prog Rows.filesApartRow.laid ((World.laidAll Tryz.prog os Rows.filesApartRow.laid).forCall (fun _ _ => 0) ⟨#[], args, []⟩).memory :=
  show laidMet Tryz.prog Rows.filesApartRow.laid _ from laidMet_of_run' 8 (by kernel_rfl) (by kernel_rfl)
theorem reads (os : Os) {H : Type} (enc : TypeId × Value → H) : ∃ places, DataW.whole enc Tryz.prog ((World.laidAll Tryz.prog os Rows.filesApartRow.laid).forCall (fun _ _ => 0) ⟨#[], #[.slice none 0 0, .slice none 0 0, .slice none 0 0], []⟩).memory Tryz.f7.params.toList Rows.filesApartSpec.vars false
    (#[.slice none 0 0, .slice none 0 0, .slice none 0 0] : Array Value).toList 8 = some ([.nil, .nil, .nil], [], places) :=
  ⟨[], by kernel_rfl⟩
set_option maxRecDepth 100000 in
theorem contract (H : Type) (enc : TypeId × Value → H) (W : World) (base : Nat) (args : Array Value) (ds gs : List (DataW H)) (before : List MemPlace)
    (hval : ∀ (j : Nat) t v, Tryz.f7.params[j]? = some t → args[j]? = some v → Value.okWide Tryz.prog W .any base t v)
    (hW : DataW.Whole enc Tryz.prog Tryz.f7.params.toList Rows.filesApartSpec.vars false W args.toList ds gs before) (hL : laidMetH Tryz.prog Rows.filesApartRow.laid W) (hsh : W.ShapedOpen Tryz.prog) :
    Calls Tryz.prog 7 args W fun e W' => ∃ v, e = .returned v ∧ Rows.filesApartSpec.post enc Tryz.prog Tryz.f7 false true false false W args v W' := by
  have hW' := hW
  obtain ⟨p, q, hA0, hV, rfl, hfz, hnd⟩ := hW
  have hA : DataW.TrodAll enc Tryz.prog W 0 (fun _ => true) true Tryz.f7.params.toList args.toList ds p := hA0
  rw [Tryz.params7] at hA hval
  obtain ⟨v0, vs0, d0, ds0, p0, q0, hargs, rfl, rfl, h0, r0⟩ := trodAll_cons hA
  obtain ⟨v1, vs1, d1, ds1, p1, q1, hargs1, rfl, rfl, h1, r1⟩ := trodAll_cons r0
  obtain ⟨v2, vs2, d2, ds2, p2, q2, hargs2, rfl, rfl, h2, r2⟩ := trodAll_cons r1
  obtain ⟨rfl, rfl, rfl⟩ := trodAll_nil r2
  obtain rfl : args = #[v0, v1, v2] := by cases args; simp_all
  obtain ⟨rfl, rfl⟩ := trodVars_none hV
  obtain ⟨a0, m0, c0, rfl⟩ := okWide_slice Tryz.underlying81 (hval 0 81 v0 rfl rfl)
  obtain ⟨a1, m1, c1, rfl⟩ := okWide_slice Tryz.underlying81 (hval 1 81 v1 rfl rfl)
  obtain ⟨l0, hl0⟩ : ∃ l : List Fl.Dd, Fl.Dds W (.slice a0 m0 c0) l := by
    obtain ⟨fuel, hf⟩ := h0
    exact Fl.rd_deeds hf
  obtain ⟨l1, hl1⟩ : ∃ l : List Fl.Dd, Fl.Dds W (.slice a1 m1 c1) l := by
    obtain ⟨fuel, hf⟩ := h1
    exact Fl.rd_deeds hf
  obtain ⟨a2, m2, c2, rfl⟩ := okWide_slice Tryz.underlying62 (hval 2 62 v2 rfl rfl)
  obtain ⟨n2, t2, ht2⟩ : ∃ (n : Nat) (l : Nat → Bool), SlA W W.heap.size (.slice a2 m2 c2) n (fun j => .bool (l j)) := by
    obtain ⟨fuel, hf⟩ := h2
    exact Vl.rd_bool hf
  clear hA0
  obtain ⟨hlb, htb⟩ := lb_of_laid hL hsh
  have hlt : ∀ x ∈ p0 ++ (p1 ++ (p2 ++ [])), x.block < W.heap.size := fun x hx => by simpa using hW'.lt x (by simpa using hx)
  refine (Fl.apart_go l0 l1 _ _ _ n2 t2 W htb hlb hl0 hl1 ht2).mono fun e W' ⟨he, hg⟩ => ?_
  subst he
  have bel : Below W.heap.size W W' := hg
  refine ⟨_, rfl, _, _, _, [], p0 ++ (p1 ++ (p2 ++ [])), [], hW', ?_, ?_, rfl, bel.frame _, fun h => by cases h⟩
  · exact trodAll_mk1 (shut_bool Tryz.underlying4 _)
  · exact trodAll_cons_mk (Below.trod laidOut (by kernel_rfl) (of_decide_eq_true (by kernel_rfl)) h0 bel (fun x hx => hlt x (by simp [hx])))
      (trodAll_cons_mk (Below.trod laidOut (by kernel_rfl) (of_decide_eq_true (by kernel_rfl)) h1 bel (fun x hx => hlt x (by simp [hx])))
        (trodAll_cons_mk (Below.trod laidOut (by kernel_rfl) (of_decide_eq_true (by kernel_rfl)) h2 bel (fun x hx => hlt x (by simp [hx]))) trodAll_mk0))
theorem w_vars (os : Os) : World.variablesB Tryz.checked.prog ((World.laidAll Tryz.prog os Rows.filesApartRow.laid).forCall (fun x x_1 => 0) { blocks := #[], args := #[.slice none 0 0, .slice none 0 0, .slice none 0 0] }) = true := by kernel_rfl
theorem w_heap (os : Os) : List.take ((begin Tryz.checked.prog (fun x x_1 => 0) default).world.heap.size - Tryz.checked.prog.globals.size) (List.drop Tryz.checked.prog.globals.size ((World.laidAll Tryz.prog os Rows.filesApartRow.laid).forCall (fun x x_1 => 0) { blocks := #[], args := #[.slice none 0 0, .slice none 0 0, .slice none 0 0] }).heap.toList) = List.drop Tryz.checked.prog.globals.size (begin Tryz.checked.prog (fun x x_1 => 0) default).world.heap.toList := by kernel_rfl
theorem w_ok (os : Os) : Input.okWideB Tryz.checked.prog ((World.laidAll Tryz.prog os Rows.filesApartRow.laid).forCall (fun x x_1 => 0) { blocks := #[], args := #[.slice none 0 0, .slice none 0 0, .slice none 0 0] }) 7 { blocks := #[], args := #[.slice none 0 0, .slice none 0 0, .slice none 0 0] } = true := by kernel_rfl
set_option maxRecDepth 100000 in
theorem lifted (os : Os) (started : os.Started) (H : Type) (enc : TypeId × Value → H) (F : Stop.Interp) :
    ReturnsInHanded {} Tryz.checked os 7 .any ((OpenSpec.ofChange Rows.filesApartSpec).preRow enc Tryz.prog Tryz.f7 Rows.filesApartRow.domain false Rows.filesApartRow.laid) (((OpenSpec.ofChange Rows.filesApartSpec).at F).post enc Tryz.prog Tryz.f7 false true false false) := by
  obtain ⟨places, hx⟩ := reads os enc
  refine returnsInHanded_of_row (C := Tryz.checked) (s := OpenSpec.ofChange Rows.filesApartSpec) own started (by kernel_rfl) Tryz.func7
    (witness_row_at (enc := enc) (C := Tryz.checked) false (World.laidAll Tryz.prog os Rows.filesApartRow.laid) #[.slice none 0 0, .slice none 0 0, .slice none 0 0] (by show (World.laidAll Tryz.prog os Rows.filesApartRow.laid).os = os; exact World.laidAll_os _ _ _) (w_vars os) (w_heap os) (w_ok os)
      (OpenSpec.preRow_of_cond 8 hx (by kernel_rfl) (fun k hk => by cases hk) (by kernel_rfl) (laid_met os _))) ?_
  intro W base args ds gs before hval hW _ _ _ hL hsh _
  exact contract H enc W base args ds gs before hval hW hL hsh
theorem said : Rows.FilesApartSaid :=
  OpenClaim.holds_of_cond 7 Tryz.f7 rfl rfl rfl rfl rfl rfl rfl ⟨rfl, rfl, rfl, rfl, rfl⟩ rfl rfl rfl rfl rfl said_named Tryz.func7 said_facts said_inst said_wrap
    (fun os started H enc _ F => by rw [OpenClaim.pre_eq_preRow]; exact lifted os started H enc F)
theorem plain (f : FuncId) (fn : Func) (hf : Tryz.pinned.checked.prog.funcNamed "saltern/salternkeep.FilesApart" = some f) (hfn : Tryz.pinned.checked.prog.funcs[f]? = some fn) :
    true = Tryz.pinned.checked.prog.looks [] ∧ ∀ (j : Nat) t, fn.params[j]? = some t → Tryz.pinned.checked.prog.wantsStandIn t = false := by
  obtain rfl : f = 7 := Option.some.inj ((show Tryz.prog.funcNamed "saltern/salternkeep.FilesApart" = some 7 by kernel_rfl).symm.trans hf) |>.symm
  obtain rfl : fn = Tryz.f7 := (Option.some.inj (Tryz.func7.symm.trans hfn)).symm
  refine ⟨by kernel_rfl, fun j t ht => ?_⟩
  rw [Tryz.params7] at ht
  have ht2 : t = 81 ∨ t = 62 := by
    have hm := Array.mem_of_getElem? ht
    simpa using hm
  rcases ht2 with rfl | rfl
  · exact (show Tryz.prog.wantsStandIn 81 = false by kernel_rfl)
  · exact (show Tryz.prog.wantsStandIn 62 = false by kernel_rfl)
theorem filesApart_card : Rows.FilesApartCardSaid :=
  Claim7.holds_tied_plain_at .later [] _ _ _ _ said (fun _ h => by cases h) (by kernel_rfl) (fun _ h => by cases h) filesApart_row_tie rfl ⟨rfl, rfl⟩ (by kernel_rfl) rfl plain (by kernel_rfl)
end Go.Proofs.YtlgocfgnfdnloaaGreatDoor
