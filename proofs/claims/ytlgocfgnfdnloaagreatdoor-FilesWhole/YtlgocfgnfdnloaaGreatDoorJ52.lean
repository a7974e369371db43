import Derived.LaidHandle
import Derived.Deep.DeepHandedRow
import Derived.Test.YtlgocfgnfdnloaaGreatDoorCards
set_option linter.unusedSimpArgs false
set_option linter.unusedVariables false
section
namespace Go.Proofs.YtlgocfgnfdnloaaGreatDoor
theorem said_named : Tryz.pinned.checked.prog.funcNamed Rows.filesWholeRow.func = some 6 := by kernel_rfl
theorem said_inst : Func.isInstance Tryz.pinned.checked.prog Tryz.f6 Rows.filesWholeRow.origin Rows.filesWholeRow.targs := of_decide_eq_true (by kernel_rfl)
theorem said_wrap : Func.isWrapper Tryz.pinned.checked.prog Tryz.f6 Rows.filesWholeRow.wrapper Rows.filesWholeRow.mainSum := by unfold Func.isWrapper; first | (rw [if_pos (by decide +kernel)]; kernel_rfl) | (rw [if_neg (by decide +kernel)]; exact ⟨rfl, rfl⟩)
theorem said_j0 : Rows.filesWholeRow.wf (OpenSpec.ofChange (OpenSpec.ofChange Rows.filesWholeSpec).bare) = true := by kernel_rfl
theorem said_j1 : laidOutB Tryz.pinned.checked.prog = true := by kernel_rfl
theorem said_j2 : mapsRowed Tryz.pinned.checked.prog = true := by kernel_rfl
theorem said_j3 : Tryz.f6.params.all (Tryz.pinned.checked.prog.readableRec ·) = true := by kernel_rfl
theorem said_j4 : namedTie Tryz.pinned.checked.prog Rows.filesWholeRow.named (OpenSpec.ofChange Rows.filesWholeSpec).bare.vars = true := by kernel_rfl
theorem said_j5 : (Rows.filesWholeRow.stops == []) = true := by kernel_rfl
theorem said_j6 : (Tryz.pinned.checked.prog.stops == []) = true := by kernel_rfl
theorem said_j7 : (Rows.filesWholeRow.knobs == []) = true := by kernel_rfl
theorem said_j8 : (Tryz.pinned.checked.prog.stopKnobs == []) = true := by kernel_rfl
theorem said_j9 : (Rows.filesWholeRow.inPlace == Tryz.pinned.checked.prog.inPlace 6) = true := by kernel_rfl
theorem said_j10 : (Rows.filesWholeRow.unfollowed == Tryz.pinned.checked.prog.unfollowed 6) = true := by kernel_rfl
theorem said_j11 : (Rows.filesWholeRow.recurses == Tryz.pinned.checked.prog.recurses 6) = true := by kernel_rfl
theorem said_j12 : (Rows.filesWholeRow.named == Tryz.pinned.checked.prog.varsNamed 6) = true := by kernel_rfl
theorem said_j13 : (Rows.filesWholeRow.maps == (Tryz.f6.params.toList ++ (OpenSpec.ofChange Rows.filesWholeSpec).bare.plain.varTypes Tryz.pinned.checked.prog).any (Tryz.pinned.checked.prog.mapsRec ·)) = true := by kernel_rfl
theorem said_j14 : (Rows.filesWholeRow.ifaces == (Tryz.f6.params.toList ++ (OpenSpec.ofChange Rows.filesWholeSpec).bare.plain.varTypes Tryz.pinned.checked.prog).any (Tryz.pinned.checked.prog.ifacesRec ·)) = true := by kernel_rfl
theorem said_j15 : (Rows.filesWholeRow.mapsOut == Tryz.pinned.checked.prog.mapsAmong Tryz.f6.resultTypes.toList) = true := by kernel_rfl
theorem said_j16 : (Rows.filesWholeRow.loops == (Tryz.f6.params.toList ++ (OpenSpec.ofChange Rows.filesWholeSpec).bare.plain.varTypes Tryz.pinned.checked.prog).any (Tryz.pinned.checked.prog.loopsFrom ·)) = true := by kernel_rfl
theorem said_j17 : (Rows.filesWholeRow.wideKeys == (Tryz.f6.params.toList ++ (OpenSpec.ofChange Rows.filesWholeSpec).bare.plain.varTypes Tryz.pinned.checked.prog ++ Tryz.f6.resultTypes.toList).any (Tryz.pinned.checked.prog.wideKeysFrom ·)) = true := by kernel_rfl
theorem said_j18 : (OpenSpec.ofChange Rows.filesWholeSpec).bare.vars.all (Tryz.pinned.checked.prog.varReadable ·) = true := by kernel_rfl
theorem said_j19 : Tryz.f6.resultTypes.all (fun t => Tryz.pinned.checked.prog.readableRec t && decide (t < Tryz.pinned.checked.prog.types.size)) = true := by kernel_rfl
theorem said_j20 : (Rows.filesWholeRow.ifacesOut == Tryz.f6.resultTypes.toList.any (Tryz.pinned.checked.prog.ifacesRec ·)) = true := by kernel_rfl
theorem said_j21 : (Rows.filesWholeRow.loopsOut == Tryz.f6.resultTypes.toList.any (Tryz.pinned.checked.prog.loopsFrom ·)) = true := by kernel_rfl
theorem said_j22 : (Rows.filesWholeRow.plainKeys == Tryz.pinned.checked.prog.plainKeys) = true := by kernel_rfl
theorem said_j23 : Rows.filesWholeRow.shortTexts.isNone = true := by kernel_rfl
theorem said_j24 : Tryz.pinned.checked.prog.stopsHeard = true := by kernel_rfl
theorem said_j25 : Tryz.pinned.checked.prog.mayEnter = true := by kernel_rfl
theorem said_j26 : (Rows.filesWholeRow.lifted == Tryz.pinned.checked.prog.liftsFinal) = true := by kernel_rfl
theorem said_j27 : (Tryz.pinned.checked.prog.make == some Rows.filesWholeRow.make) = true := by kernel_rfl
theorem said_j28 : (Rows.filesWholeRow.kinds == (if Rows.filesWholeRow.domain.isEmpty then [] else Tryz.f6.params.toList.map fun t => match Tryz.pinned.checked.prog.underlying t with | some (.int k) => some k | _ => none)) = true := by kernel_rfl
theorem said_j29 : (Rows.filesWholeRow.pinned == Rows.filesWholeRow.pinnedBy) = true := by kernel_rfl
theorem said_j30 : (Rows.filesWholeRow.veiled == (Tryz.f6.params.toList ++ (OpenSpec.ofChange Rows.filesWholeSpec).bare.plain.varTypes Tryz.pinned.checked.prog ++ Tryz.f6.resultTypes.toList).any (Tryz.pinned.checked.prog.veiledRec ·)) = true := by kernel_rfl
theorem said_j31 : Rows.filesWholeRow.veiledFits Tryz.pinned.checked.prog Tryz.f6.params.toList (Tryz.f6.params.toList ++ (OpenSpec.ofChange Rows.filesWholeSpec).bare.plain.varTypes Tryz.pinned.checked.prog ++ Tryz.f6.resultTypes.toList) = true := by kernel_rfl
end Go.Proofs.YtlgocfgnfdnloaaGreatDoor
end
section
namespace Go.Proofs.YtlgocfgnfdnloaaGreatDoor
theorem andI {a b : Bool} (h1 : a = true) (h2 : b = true) : (a && b) = true := by rw [h1, h2]; rfl
set_option maxRecDepth 100000 in
theorem said_facts : joinedFacts Tryz.pinned.checked.prog 6 Tryz.f6 (OpenSpec.ofChange Rows.filesWholeSpec).bare Rows.filesWholeRow = true := by
  unfold joinedFacts
  exact andI (andI (andI (andI (andI (andI (andI (andI (andI (andI (andI (andI (andI (andI (andI (andI (andI (andI (andI (andI (andI (andI (andI (andI (andI (andI (andI (andI (andI (andI (andI (said_j0) said_j1) said_j2) said_j3) said_j4) said_j5) said_j6) said_j7) said_j8) said_j9) said_j10) said_j11) said_j12) said_j13) said_j14) said_j15) said_j16) said_j17) said_j18) said_j19) said_j20) said_j21) said_j22) said_j23) said_j24) said_j25) said_j26) said_j27) said_j28) said_j29) said_j30) said_j31
end Go.Proofs.YtlgocfgnfdnloaaGreatDoor
end
