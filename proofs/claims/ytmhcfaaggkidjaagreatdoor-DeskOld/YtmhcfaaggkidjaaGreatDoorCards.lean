/-
  DERIVED. GIVEN WITH THE SEED: THE CARDS: each row of YtmhcfaaggkidjaaGreatDoorRows.lean that lists a variable, with what it lists TIED to the program's text (the seventh form; the later family's looks); each row that meets fmt, with fmt's text TOLD by the authors' own Lean function (tested against real Go, not proved from fmt's source: count such statements apart). THE CARD IS WHAT COUNTS. Prove the row's statement (the work); the ties are given (YtmhcfaaggkidjaaGreatDoorTie.lean); close each card by the builder's one call (the guide's Derived/Test/ToyasCard.lean, 'card_holds'). Laid BY PROGRAM, IN A SANDBOX (cutbox-door.mjs). By AI agents, Wed Nov 11 2026. No macro, syntax, notation, axiom, sorry.
-/
import Derived.Test.YtmhcfaaggkidjaaGreatDoorRows
import GoSem.ClaimSeven
namespace Go.Proofs.YtmhcfaaggkidjaaGreatDoor
namespace Rows

/-- THE TIED CARD OF 'salternkeep.DeskPieces'. -/
def deskPiecesCard : Claim7 := { stood := { row := deskPiecesRow, standIns := [], harness := (true, "c6ddd7bec69764b91ddc777e9457924e9706ead0aac7580d9daebe31e7511b74"), looks := true }, kinds := [], alts := [], laidByText := true, laidKinds := [.data, .data, .data, .data, .handle, .sentinel, .sentinel, .data, .pinned], laidTests := true, laidLooks := .later }
def DeskPiecesCardSaid : Prop := Claim7.holds Tryz.pinned (.plain (OpenSpec.ofChange deskPiecesSpec)) deskPiecesCard

/-- THE TIED CARD OF 'salternkeep.DeskOld'. -/
def deskOldCard : Claim7 := { stood := { row := deskOldRow, standIns := [], harness := (true, "c6ddd7bec69764b91ddc777e9457924e9706ead0aac7580d9daebe31e7511b74"), looks := true }, kinds := [], alts := [], laidByText := true, laidKinds := [.data, .data, .data, .data, .handle, .sentinel, .sentinel, .data, .pinned], laidTests := true, laidLooks := .later }
def DeskOldCardSaid : Prop := Claim7.holds Tryz.pinned (.plain (OpenSpec.ofChange deskOldSpec)) deskOldCard

/-- THE SECOND FORM's CARD OF 'salternkeep.DeskPieces'. -/
def deskPiecesUptoCard : Claim7 := { stood := { row := deskPiecesUptoRow, standIns := [], harness := (true, "c6ddd7bec69764b91ddc777e9457924e9706ead0aac7580d9daebe31e7511b74"), looks := true }, kinds := [], alts := [], laidByText := true, laidKinds := [.data, .data, .data, .data, .handle, .sentinel, .sentinel, .data, .pinned], laidTests := true, laidLooks := .later }
def DeskPiecesUptoCardSaid : Prop := Claim7.holds Tryz.pinned (.plain (OpenSpec.upto deskPiecesSpec)) deskPiecesUptoCard

/-- THE SECOND FORM's CARD OF 'salternkeep.DeskOld'. -/
def deskOldUptoCard : Claim7 := { stood := { row := deskOldUptoRow, standIns := [], harness := (true, "c6ddd7bec69764b91ddc777e9457924e9706ead0aac7580d9daebe31e7511b74"), looks := true }, kinds := [], alts := [], laidByText := true, laidKinds := [.data, .data, .data, .data, .handle, .sentinel, .sentinel, .data, .pinned], laidTests := true, laidLooks := .later }
def DeskOldUptoCardSaid : Prop := Claim7.holds Tryz.pinned (.plain (OpenSpec.upto deskOldSpec)) deskOldUptoCard
end Rows
end Go.Proofs.YtmhcfaaggkidjaaGreatDoor
