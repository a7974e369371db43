/-
  DERIVED. GIVEN WITH THE SEED: THE CARDS: each row of YtifnhnfjelfddaaGreatDoorRows.lean that lists a variable, with what it lists TIED to the program's text (the seventh form; the later family's looks); each row that meets fmt, with fmt's text TOLD by the authors' own Lean function (tested against real Go, not proved from fmt's source: count such statements apart). THE CARD IS WHAT COUNTS. Prove the row's statement (the work); the ties are given (YtifnhnfjelfddaaGreatDoorTie.lean); close each card by the builder's one call (the guide's Derived/Test/ToyasCard.lean, 'card_holds'). Laid BY PROGRAM, IN A SANDBOX (cutbox-door.mjs). By AI agents, Wed Nov 11 2026. No macro, syntax, notation, axiom, sorry.
-/
import Derived.Test.YtifnhnfjelfddaaGreatDoorRows
import GoSem.ClaimSeven
namespace Go.Proofs.YtifnhnfjelfddaaGreatDoor
namespace Rows

/-- THE TIED CARD OF 'salternkeep.VolumeWhole'. -/
def volumeWholeCard : Claim7 := { stood := { row := volumeWholeRow, standIns := [], harness := (true, "e13f3a35b1954091271c42f4aa40a11d402ec7f000aaaa26b72fcd91cde29899"), looks := true }, kinds := [], alts := [], laidByText := true, laidKinds := [.handle, .data], laidTests := true, laidLooks := .later }
def VolumeWholeCardSaid : Prop := Claim7.holds Tryz.pinned (.plain (OpenSpec.ofChange volumeWholeSpec)) volumeWholeCard

/-- THE TIED CARD OF 'salternkeep.VolumeQuiet'. -/
def volumeQuietCard : Claim7 := { stood := { row := volumeQuietRow, standIns := [], harness := (true, "e13f3a35b1954091271c42f4aa40a11d402ec7f000aaaa26b72fcd91cde29899"), looks := true }, kinds := [], alts := [], laidByText := true, laidKinds := [.data], laidTests := true, laidLooks := .later }
def VolumeQuietCardSaid : Prop := Claim7.holds Tryz.pinned (.plain (OpenSpec.ofChange volumeQuietSpec)) volumeQuietCard

/-- THE TIED CARD OF 'salternkeep.VolumeMoves'. -/
def volumeMovesCard : Claim7 := { stood := { row := volumeMovesRow, standIns := [], harness := (true, "e13f3a35b1954091271c42f4aa40a11d402ec7f000aaaa26b72fcd91cde29899"), looks := true }, kinds := [], alts := [], laidByText := true, laidKinds := [.data], laidTests := true, laidLooks := .later }
def VolumeMovesCardSaid : Prop := Claim7.holds Tryz.pinned (.plain (OpenSpec.ofChange volumeMovesSpec)) volumeMovesCard

/-- THE TIED CARD OF 'salternkeep.VolumeOld'. -/
def volumeOldCard : Claim7 := { stood := { row := volumeOldRow, standIns := [], harness := (true, "e13f3a35b1954091271c42f4aa40a11d402ec7f000aaaa26b72fcd91cde29899"), looks := true }, kinds := [], alts := [], laidByText := true, laidKinds := [.handle, .data], laidTests := true, laidLooks := .later }
def VolumeOldCardSaid : Prop := Claim7.holds Tryz.pinned (.plain (OpenSpec.ofChange volumeOldSpec)) volumeOldCard

/-- THE TIED CARD OF 'salternkeep.VolumeLasts'. -/
def volumeLastsCard : Claim7 := { stood := { row := volumeLastsRow, standIns := [], harness := (true, "e13f3a35b1954091271c42f4aa40a11d402ec7f000aaaa26b72fcd91cde29899"), looks := true }, kinds := [], alts := [], laidByText := true, laidKinds := [.data, .data, .data, .data], laidTests := true, laidLooks := .later }
def VolumeLastsCardSaid : Prop := Claim7.holds Tryz.pinned (.plain (OpenSpec.ofChange volumeLastsSpec)) volumeLastsCard

/-- THE SECOND FORM's CARD OF 'salternkeep.VolumeWhole'. -/
def volumeWholeUptoCard : Claim7 := { stood := { row := volumeWholeUptoRow, standIns := [], harness := (true, "e13f3a35b1954091271c42f4aa40a11d402ec7f000aaaa26b72fcd91cde29899"), looks := true }, kinds := [], alts := [], laidByText := true, laidKinds := [.handle, .data], laidTests := true, laidLooks := .later }
def VolumeWholeUptoCardSaid : Prop := Claim7.holds Tryz.pinned (.plain (OpenSpec.upto volumeWholeSpec)) volumeWholeUptoCard

/-- THE SECOND FORM's CARD OF 'salternkeep.VolumeQuiet'. -/
def volumeQuietUptoCard : Claim7 := { stood := { row := volumeQuietUptoRow, standIns := [], harness := (true, "e13f3a35b1954091271c42f4aa40a11d402ec7f000aaaa26b72fcd91cde29899"), looks := true }, kinds := [], alts := [], laidByText := true, laidKinds := [.data], laidTests := true, laidLooks := .later }
def VolumeQuietUptoCardSaid : Prop := Claim7.holds Tryz.pinned (.plain (OpenSpec.upto volumeQuietSpec)) volumeQuietUptoCard

/-- THE SECOND FORM's CARD OF 'salternkeep.VolumeMoves'. -/
def volumeMovesUptoCard : Claim7 := { stood := { row := volumeMovesUptoRow, standIns := [], harness := (true, "e13f3a35b1954091271c42f4aa40a11d402ec7f000aaaa26b72fcd91cde29899"), looks := true }, kinds := [], alts := [], laidByText := true, laidKinds := [.data], laidTests := true, laidLooks := .later }
def VolumeMovesUptoCardSaid : Prop := Claim7.holds Tryz.pinned (.plain (OpenSpec.upto volumeMovesSpec)) volumeMovesUptoCard

/-- THE SECOND FORM's CARD OF 'salternkeep.VolumeOld'. -/
def volumeOldUptoCard : Claim7 := { stood := { row := volumeOldUptoRow, standIns := [], harness := (true, "e13f3a35b1954091271c42f4aa40a11d402ec7f000aaaa26b72fcd91cde29899"), looks := true }, kinds := [], alts := [], laidByText := true, laidKinds := [.handle, .data], laidTests := true, laidLooks := .later }
def VolumeOldUptoCardSaid : Prop := Claim7.holds Tryz.pinned (.plain (OpenSpec.upto volumeOldSpec)) volumeOldUptoCard

/-- THE SECOND FORM's CARD OF 'salternkeep.VolumeLasts'. -/
def volumeLastsUptoCard : Claim7 := { stood := { row := volumeLastsUptoRow, standIns := [], harness := (true, "e13f3a35b1954091271c42f4aa40a11d402ec7f000aaaa26b72fcd91cde29899"), looks := true }, kinds := [], alts := [], laidByText := true, laidKinds := [.data, .data, .data, .data], laidTests := true, laidLooks := .later }
def VolumeLastsUptoCardSaid : Prop := Claim7.holds Tryz.pinned (.plain (OpenSpec.upto volumeLastsSpec)) volumeLastsUptoCard
end Rows
end Go.Proofs.YtifnhnfjelfddaaGreatDoor
