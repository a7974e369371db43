/- The law VolumeWhole (the document's chapter 8) is proved for every input, in its full form, with its card: for all lists of steps, all steps more, all fuses and all that is kept the call returns true and its arguments read as they did; no condition. -/
import Derived.ProofKit
import Derived.OpenShut
import Derived.Deep.DeepHandedRow
import Derived.Lib.LaidTab
import Derived.LaidLaws
import Derived.LaidHandle
import Derived.Lay
import Derived.Test.YtifnhnfjelfddaaGreatDoorCards
import Derived.Test.YtifnhnfjelfddaaGreatDoorTie
import Derived.Test.YtifnhnfjelfddaaGreatDoorJ52
import Derived.Test.YtifnhnfjelfddaaGreatDoorJ53
set_option linter.unusedSimpArgs false
set_option linter.unusedVariables false
namespace Go.Proofs.YtifnhnfjelfddaaGreatDoor
open Go.ChangeShapes Go.WideShapes Go.ChangeAt Go.RowKit
open Go.ChangeMaps (open_string shut_string)
theorem own : ownKnob Tryz.prog.godebug = none := by kernel_rfl
theorem laidOut : laidOutB Tryz.prog = true := by kernel_rfl
theorem et : Tryz.prog.globalNamed "errors.errorType" = some 0 := by kernel_rfl
theorem rt : (Tryz.prog.cutTypes.find? (·.1 == "internal/reflectlite.rtype")).map (·.2) = some 163 := by kernel_rfl
theorem oneRow : ((List.range 270).filter fun t => Tryz.prog.rowNamed t [101, 114, 114, 111, 114]) = [41] := by kernel_rfl
theorem tsize : Tryz.prog.types.size = 270 := by kernel_rfl
theorem handle_of_laid {W : World} (h : laidMetH Tryz.prog Rows.volumeWholeRow.laid W) : Et W := by
  have h' : laidMet Tryz.prog [("saltern/sum.rounds", Rows.laid_saltern_sum_rounds)] W ∧ handlesMet Tryz.prog [("errors.errorType", Rows.laid_errors_errorType)] W := h
  obtain ⟨name, u, ty, e1, e2, e3, e4, e5⟩ := h'.2 _ (List.mem_singleton.2 rfl)
  have en : name = [101, 114, 114, 111, 114] := (Option.some.inj e1).symm
  subst en
  obtain rfl := Option.some.inj (rt.symm.trans e2)
  have hm : ty ∈ (List.range 270).filter fun t => Tryz.prog.rowNamed t [101, 114, 114, 111, 114] := List.mem_filter.2 ⟨List.mem_range.2 (by rw [← tsize]; exact e3), e4⟩
  rw [oneRow] at hm
  obtain rfl := List.mem_singleton.1 hm
  have hh : typeHandle Tryz.prog 41 = .pointer (some ⟨6, 41, none⟩) := by kernel_rfl
  rw [hh] at e5
  unfold Et
  simpa using World.var?_cell et e5 0
theorem cellsU32 : Tryz.prog.cellsOf 195 = 1 := by kernel_rfl
theorem cellsA64 : Tryz.prog.cellsOf 232 = 64 := by kernel_rfl
theorem gRounds : Tryz.prog.globalNamed "saltern/sum.rounds" = some 2 := by kernel_rfl
theorem gRoundsType : (Tryz.prog.globals[2]?).map (·.type) = some 232 := by kernel_rfl
theorem rounds_eq : (Rows.laid_saltern_sum_rounds : DataW Unit) = Lib.tabData .u32 ((List.range 64).map fun j => ((Sm.kn j).toNat : Int)) := by kernel_rfl
theorem tab {W : World} (h : laidMetH Tryz.prog Rows.volumeWholeRow.laid W) : Sm.Tab W := by
  have h' : laidMet Tryz.prog [("saltern/sum.rounds", Rows.laid_saltern_sum_rounds)] W ∧ handlesMet Tryz.prog [("errors.errorType", Rows.laid_errors_errorType)] W := h
  have h1 := h'.1
  rw [rounds_eq] at h1
  have h2 := Lib.tabIs_of_head (rest := []) gRounds gRoundsType Tryz.underlying232 Tryz.underlying195 cellsU32 cellsA64 h1
  intro j hj
  have h3 := h2.cell gRounds j (by simpa using hj)
  rw [h3]
  simp [Sm.U, hj, List.getD]
theorem laid_met (os : Os) (args : Array Value) : laidMetH Tryz.prog Rows.volumeWholeRow.laid (((World.laidAll Tryz.prog os [("saltern/sum.rounds", Rows.laid_saltern_sum_rounds)]).setCell ⟨0, 0, none⟩ (.iface 163 (.agg #[.pointer (some ⟨6, 41, none⟩)]))).forCall (fun _ _ => 0) ⟨#[], args, []⟩).memory :=
  laidMetH_of_parts (laidMet_of_run' 8 (by kernel_rfl) (by kernel_rfl)) (by kernel_rfl)
theorem reads (os : Os) {H : Type} (enc : TypeId × Value → H) : ∃ places, DataW.whole enc Tryz.prog (((World.laidAll Tryz.prog os [("saltern/sum.rounds", Rows.laid_saltern_sum_rounds)]).setCell ⟨0, 0, none⟩ (.iface 163 (.agg #[.pointer (some ⟨6, 41, none⟩)]))).forCall (fun _ _ => 0) ⟨#[], #[.slice none 0 0, .agg #[.int .i64 0, .slice none 0 0], .int .i64 0, .slice none 0 0, .slice none 0 0], []⟩).memory Tryz.f3.params.toList Rows.volumeWholeSpec.vars false
    (#[.slice none 0 0, .agg #[.int .i64 0, .slice none 0 0], .int .i64 0, .slice none 0 0, .slice none 0 0] : Array Value).toList 8 = some ([.nil, .agg [.lit (.int .i64 0), .nil], .lit (.int .i64 0), .nil, .nil], [], places) :=
  ⟨[], by kernel_rfl⟩
set_option maxRecDepth 100000 in
theorem contract (H : Type) (enc : TypeId × Value → H) (W : World) (base : Nat) (args : Array Value) (ds gs : List (DataW H)) (before : List MemPlace)
    (hval : ∀ (j : Nat) t v, Tryz.f3.params[j]? = some t → args[j]? = some v → Value.okWide Tryz.prog W .any base t v)
    (hW : DataW.Whole enc Tryz.prog Tryz.f3.params.toList Rows.volumeWholeSpec.vars false W args.toList ds gs before) (hL : laidMetH Tryz.prog Rows.volumeWholeRow.laid W) :
    Calls Tryz.prog 3 args W fun e W' => ∃ v, e = .returned v ∧ Rows.volumeWholeSpec.post enc Tryz.prog Tryz.f3 false true false false W args v W' := by
  have hW' := hW
  obtain ⟨p, q, hA0, hV, rfl, hfz, hnd⟩ := hW
  have hA : DataW.TrodAll enc Tryz.prog W 0 (fun _ => true) true Tryz.f3.params.toList args.toList ds p := hA0
  rw [Tryz.params3] at hA hval
  obtain ⟨v0, vs0, d0, ds0, p0, q0, hargs, rfl, rfl, h0, r0⟩ := trodAll_cons hA
  obtain ⟨v1, vs1, d1, ds1, p1, q1, hargs1, rfl, rfl, h1, r1⟩ := trodAll_cons r0
  obtain ⟨v2, vs2, d2, ds2, p2, q2, hargs2, rfl, rfl, h2, r2⟩ := trodAll_cons r1
  obtain ⟨v3, vs3, d3, ds3, p3, q3, hargs3, rfl, rfl, h3, r3⟩ := trodAll_cons r2
  obtain ⟨v4, vs4, d4, ds4, p4, q4, hargs4, rfl, rfl, h4, r4⟩ := trodAll_cons r3
  obtain ⟨rfl, rfl, rfl⟩ := trodAll_nil r4
  obtain rfl : args = #[v0, v1, v2, v3, v4] := by cases args; simp_all
  obtain ⟨rfl, rfl⟩ := trodVars_none hV
  obtain ⟨a0, m0, c0, rfl⟩ := okWide_slice Tryz.underlying22 (hval 0 22 v0 rfl rfl)
  obtain ⟨l0, hl0⟩ : ∃ l : List Vl.Stp, Vl.Sts W (.slice a0 m0 c0) l := by
    obtain ⟨fuel, hf⟩ := h0
    exact Vl.rd_steps hf
  obtain ⟨cs, rfl, _⟩ := okWide_struct Tryz.underlying25 (hval 1 25 v1 rfl rfl)
  obtain ⟨o, hcs, ho⟩ : ∃ o : Vl.StV, cs.toList = [.int .i64 o.s.at_, o.tv] ∧ SlA W W.heap.size o.tv o.s.tx.length (Vl.tlf o.s.tx) := by
    obtain ⟨fuel, hf⟩ := h1
    exact Vl.rd_step hf
  obtain rfl : cs = #[.int .i64 o.s.at_, o.tv] := by rw [← Array.toList_inj]; exact hcs
  obtain ⟨n2, rfl, rfl, rfl, w2⟩ := open_int Tryz.underlying3 (hval 2 3 v2 rfl rfl) h2
  obtain ⟨a3, m3, c3, rfl⟩ := okWide_slice Tryz.underlying26 (hval 3 26 v3 rfl rfl)
  obtain ⟨nk, ks, hk⟩ : ∃ (n : Nat) (l : Nat → Int), SlA W W.heap.size (.slice a3 m3 c3) n (fun j => .int .i64 (l j)) := by
    obtain ⟨fuel, hf⟩ := h3
    exact Vl.rd_int hf
  obtain ⟨a4, m4, c4, rfl⟩ := okWide_slice Tryz.underlying27 (hval 4 27 v4 rfl rfl)
  obtain ⟨ns, sl, hs⟩ : ∃ (n : Nat) (l : Nat → Bool), SlA W W.heap.size (.slice a4 m4 c4) n (fun j => .bool (l j)) := by
    obtain ⟨fuel, hf⟩ := h4
    exact Vl.rd_bool hf
  clear hA0
  simp only [List.append_nil, List.nil_append] at hW'
  have hlt : ∀ x ∈ p0 ++ (p1 ++ (p3 ++ p4)), x.block < W.heap.size := fun x hx => by simpa using hW'.lt x (by simpa using hx)
  refine (Vl.whole_go W l0 _ o.s o.tv n2 _ _ nk ns ks sl hl0 ho hk hs (tab hL) (handle_of_laid hL)).mono fun e W' ⟨he, hg⟩ => ?_
  subst he
  have bel : Below W.heap.size W W' := hg
  refine ⟨_, rfl, _, _, _, [], p0 ++ (p1 ++ (p3 ++ (p4 ++ []))), [], hW', ?_, ?_, rfl, bel.frame _, fun h => by cases h⟩
  · exact trodAll_mk1 (shut_bool Tryz.underlying4 _)
  · have hb0 := Below.trod laidOut (by kernel_rfl) (of_decide_eq_true (by kernel_rfl)) h0 bel (fun x hx => hlt x (by simp [hx]))
    have hb1 := Below.trod laidOut (by kernel_rfl) (of_decide_eq_true (by kernel_rfl)) h1 bel (fun x hx => hlt x (by simp [hx]))
    have hb3 := Below.trod laidOut (by kernel_rfl) (of_decide_eq_true (by kernel_rfl)) h3 bel (fun x hx => hlt x (by simp [hx]))
    have hb4 := Below.trod laidOut (by kernel_rfl) (of_decide_eq_true (by kernel_rfl)) h4 bel (fun x hx => hlt x (by simp [hx]))
    exact trodAll_cons_mk hb0 (trodAll_cons_mk hb1 (trodAll_cons_mk (p := []) (shut_int Tryz.underlying3 w2) (trodAll_cons_mk hb3 (trodAll_cons_mk hb4 trodAll_mk0))))
set_option maxRecDepth 100000 in
theorem lifted (os : Os) (started : os.Started) (H : Type) (enc : TypeId × Value → H) (F : Stop.Interp) :
    ReturnsInHanded {} Tryz.checked os 3 .any ((OpenSpec.ofChange Rows.volumeWholeSpec).preRow enc Tryz.prog Tryz.f3 Rows.volumeWholeRow.domain false Rows.volumeWholeRow.laid) (((OpenSpec.ofChange Rows.volumeWholeSpec).at F).post enc Tryz.prog Tryz.f3 false true false false) := by
  obtain ⟨places, hx⟩ := reads os enc
  refine returnsInHanded_of_row (C := Tryz.checked) (s := OpenSpec.ofChange Rows.volumeWholeSpec) own started (by kernel_rfl) Tryz.func3
    (witness_row_at (enc := enc) (C := Tryz.checked) false ((World.laidAll Tryz.prog os [("saltern/sum.rounds", Rows.laid_saltern_sum_rounds)]).setCell ⟨0, 0, none⟩ (.iface 163 (.agg #[.pointer (some ⟨6, 41, none⟩)]))) #[.slice none 0 0, .agg #[.int .i64 0, .slice none 0 0], .int .i64 0, .slice none 0 0, .slice none 0 0] (by show (World.laidAll Tryz.prog os [("saltern/sum.rounds", Rows.laid_saltern_sum_rounds)]).os = os; exact World.laidAll_os _ _ _) (by kernel_rfl) (by kernel_rfl) (by kernel_rfl)
      (OpenSpec.preRow_of_cond 8 hx (by kernel_rfl) (fun k hk => by cases hk) (by kernel_rfl) (laid_met os _))) ?_
  intro W base args ds gs before hval hW _ _ _ hL _ _
  exact contract H enc W base args ds gs before hval hW hL
theorem said : Rows.VolumeWholeSaid :=
  OpenClaim.holds_of_cond 3 Tryz.f3 rfl rfl rfl rfl rfl rfl rfl ⟨rfl, rfl, rfl, rfl, rfl⟩ rfl rfl rfl rfl rfl (by kernel_rfl) Tryz.func3 (by kernel_rfl)
    (of_decide_eq_true (by kernel_rfl)) (by unfold Func.isWrapper; first | (rw [if_pos (by decide +kernel)]; kernel_rfl) | (rw [if_neg (by decide +kernel)]; exact ⟨rfl, rfl⟩))
    (fun os started H enc _ F => by rw [OpenClaim.pre_eq_preRow]; exact lifted os started H enc F)
theorem plain (f : FuncId) (fn : Func) (hf : Tryz.pinned.checked.prog.funcNamed "saltern/salternkeep.VolumeWhole" = some f) (hfn : Tryz.pinned.checked.prog.funcs[f]? = some fn) :
    true = Tryz.pinned.checked.prog.looks [] ∧ ∀ (j : Nat) t, fn.params[j]? = some t → Tryz.pinned.checked.prog.wantsStandIn t = false := by
  obtain rfl : f = 3 := Option.some.inj ((show Tryz.prog.funcNamed "saltern/salternkeep.VolumeWhole" = some 3 by kernel_rfl).symm.trans hf) |>.symm
  obtain rfl : fn = Tryz.f3 := (Option.some.inj (Tryz.func3.symm.trans hfn)).symm
  refine ⟨by kernel_rfl, fun j t ht => ?_⟩
  rw [Tryz.params3] at ht
  have ht2 : t = 22 ∨ t = 25 ∨ t = 3 ∨ t = 26 ∨ t = 27 := by
    have hm := Array.mem_of_getElem? ht
    simpa using hm
  rcases ht2 with rfl | rfl | rfl | rfl | rfl
  · exact (show Tryz.prog.wantsStandIn 22 = false by kernel_rfl)
  · exact (show Tryz.prog.wantsStandIn 25 = false by kernel_rfl)
  · exact (show Tryz.prog.wantsStandIn 3 = false by kernel_rfl)
  · exact (show Tryz.prog.wantsStandIn 26 = false by kernel_rfl)
  · exact (show Tryz.prog.wantsStandIn 27 = false by kernel_rfl)
theorem volumeWhole_card : Rows.VolumeWholeCardSaid :=
  Claim7.holds_tied_plain_at .later [] _ _ _ _ said (fun _ h => by cases h) (by kernel_rfl) (fun _ h => by cases h) volumeWhole_row_tie rfl ⟨rfl, rfl⟩ (by kernel_rfl) rfl plain (by kernel_rfl)
end Go.Proofs.YtifnhnfjelfddaaGreatDoor
