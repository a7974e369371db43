/-
  DERIVED. GIVEN WITH THE SEED: THE CARDS: each row of YtbfjklpoheooaaaGreatDoorRows.lean that lists a variable, with what it lists TIED to the program's text (the seventh form; the later family's looks); each row that meets fmt, with fmt's text TOLD by the authors' own Lean function (tested against real Go, not proved from fmt's source: count such statements apart). THE CARD IS WHAT COUNTS. Prove the row's statement (the work); the ties are given (YtbfjklpoheooaaaGreatDoorTie.lean); close each card by the builder's one call (the guide's Derived/Test/ToyasCard.lean, 'card_holds'). Laid BY PROGRAM, IN A SANDBOX (cutbox-door.mjs). By AI agents, Wed Nov 11 2026. No macro, syntax, notation, axiom, sorry.
-/
import Derived.Test.YtbfjklpoheooaaaGreatDoorRows
import GoSem.ClaimSeven
namespace Go.Proofs.YtbfjklpoheooaaaGreatDoor
namespace Rows

/-- THE TIED CARD OF 'salternlaw.VolumeTells'. -/
def volumeTellsCard : Claim7 := { stood := { row := volumeTellsRow, standIns := [], harness := (true, "fd9f8c6467afeac9897bc7031f2c192dffadcc85482fb0b03fbd1969dee6470e"), looks := true }, kinds := [], alts := [], laidByText := true, laidKinds := [.handle, .data], laidTests := true, laidLooks := .later }
def VolumeTellsCardSaid : Prop := Claim7.holds Tryz.pinned (.plain (OpenSpec.ofChange volumeTellsSpec)) volumeTellsCard

/-- THE SECOND FORM's CARD OF 'salternlaw.VolumeTells'. -/
def volumeTellsUptoCard : Claim7 := { stood := { row := volumeTellsUptoRow, standIns := [], harness := (true, "fd9f8c6467afeac9897bc7031f2c192dffadcc85482fb0b03fbd1969dee6470e"), looks := true }, kinds := [], alts := [], laidByText := true, laidKinds := [.handle, .data], laidTests := true, laidLooks := .later }
def VolumeTellsUptoCardSaid : Prop := Claim7.holds Tryz.pinned (.plain (OpenSpec.upto volumeTellsSpec)) volumeTellsUptoCard
end Rows
end Go.Proofs.YtbfjklpoheooaaaGreatDoor
