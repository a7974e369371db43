/-
  DERIVED. GIVEN WITH THE SEED: THE CARDS: each row of YtlgbfkcpdelcbaaGreatDoorRows.lean that lists a variable, with what it lists TIED to the program's text (the seventh form; the later family's looks); each row that meets fmt, with fmt's text TOLD by the authors' own Lean function (tested against real Go, not proved from fmt's source: count such statements apart). THE CARD IS WHAT COUNTS. Prove the row's statement (the work); the ties are given (YtlgbfkcpdelcbaaGreatDoorTie.lean); close each card by the builder's one call (the guide's Derived/Test/ToyasCard.lean, 'card_holds'). Laid BY PROGRAM, IN A SANDBOX (cutbox-door.mjs). By AI agents, Wed Nov 11 2026. No macro, syntax, notation, axiom, sorry.
-/
import Derived.Test.YtlgbfkcpdelcbaaGreatDoorRows
import GoSem.ClaimSeven
namespace Go.Proofs.YtlgbfkcpdelcbaaGreatDoor
namespace Rows

/-- THE TIED CARD OF 'salternlaw.FilesKeep'. -/
def filesKeepCard : Claim7 := { stood := { row := filesKeepRow, standIns := [], harness := (true, "dddb4db2f1c5f6765752bbebe818e7d7848d0bd9cd4b14a57b5ad4ae95b20bf0"), looks := true }, kinds := [], alts := [], laidByText := true, laidKinds := [.data, .data, .data, .data, .handle, .sentinel, .sentinel, .data, .pinned], laidTests := true, laidLooks := .later }
def FilesKeepCardSaid : Prop := Claim7.holds Tryz.pinned (.plain (OpenSpec.ofChange filesKeepSpec)) filesKeepCard

/-- THE SECOND FORM's CARD OF 'salternlaw.FilesKeep'. -/
def filesKeepUptoCard : Claim7 := { stood := { row := filesKeepUptoRow, standIns := [], harness := (true, "dddb4db2f1c5f6765752bbebe818e7d7848d0bd9cd4b14a57b5ad4ae95b20bf0"), looks := true }, kinds := [], alts := [], laidByText := true, laidKinds := [.data, .data, .data, .data, .handle, .sentinel, .sentinel, .data, .pinned], laidTests := true, laidLooks := .later }
def FilesKeepUptoCardSaid : Prop := Claim7.holds Tryz.pinned (.plain (OpenSpec.upto filesKeepSpec)) filesKeepUptoCard
end Rows
end Go.Proofs.YtlgbfkcpdelcbaaGreatDoor
