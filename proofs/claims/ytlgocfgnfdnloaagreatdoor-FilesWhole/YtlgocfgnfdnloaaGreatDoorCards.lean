/-
  DERIVED. GIVEN WITH THE SEED: THE CARDS: each row of YtlgocfgnfdnloaaGreatDoorRows.lean that lists a variable, with what it lists TIED to the program's text (the seventh form; the later family's looks); each row that meets fmt, with fmt's text TOLD by the authors' own Lean function (tested against real Go, not proved from fmt's source: count such statements apart). THE CARD IS WHAT COUNTS. Prove the row's statement (the work); the ties are given (YtlgocfgnfdnloaaGreatDoorTie.lean); close each card by the builder's one call (the guide's Derived/Test/ToyasCard.lean, 'card_holds'). Laid BY PROGRAM, IN A SANDBOX (cutbox-door.mjs). By AI agents, Wed Nov 11 2026. No macro, syntax, notation, axiom, sorry.
-/
import Derived.Test.YtlgocfgnfdnloaaGreatDoorRows
import GoSem.ClaimSeven
namespace Go.Proofs.YtlgocfgnfdnloaaGreatDoor
namespace Rows

/-- THE TIED CARD OF 'salternlaw.FilesKeep'. -/
def filesKeepCard : Claim7 := { stood := { row := filesKeepRow, standIns := [], harness := (true, "f8e8ab62f3cc9b93d70a100e391fcf96a905b0fcdc2bccb6a59397f83d8b8a16"), looks := true }, kinds := [], alts := [], laidByText := true, laidKinds := [.data, .data, .data, .data, .handle, .sentinel, .sentinel, .data, .pinned], laidTests := true, laidLooks := .later }
def FilesKeepCardSaid : Prop := Claim7.holds Tryz.pinned (.plain (OpenSpec.ofChange filesKeepSpec)) filesKeepCard

/-- THE TIED CARD OF 'salternkeep.FilesSay'. -/
def filesSayCard : Claim7 := { stood := { row := filesSayRow, standIns := [], harness := (true, "f8e8ab62f3cc9b93d70a100e391fcf96a905b0fcdc2bccb6a59397f83d8b8a16"), looks := true }, kinds := [], alts := [], laidByText := true, laidKinds := [.data, .data, .data, .data, .handle, .sentinel, .sentinel, .data, .pinned], laidTests := true, laidLooks := .later }
def FilesSayCardSaid : Prop := Claim7.holds Tryz.pinned (.plain (OpenSpec.ofChange filesSaySpec)) filesSayCard

/-- THE TIED CARD OF 'salternkeep.FilesQuiet'. -/
def filesQuietCard : Claim7 := { stood := { row := filesQuietRow, standIns := [], harness := (true, "f8e8ab62f3cc9b93d70a100e391fcf96a905b0fcdc2bccb6a59397f83d8b8a16"), looks := true }, kinds := [], alts := [], laidByText := true, laidKinds := [.data, .data, .data, .data, .handle, .sentinel, .sentinel, .data, .pinned], laidTests := true, laidLooks := .later }
def FilesQuietCardSaid : Prop := Claim7.holds Tryz.pinned (.plain (OpenSpec.ofChange filesQuietSpec)) filesQuietCard

/-- THE TIED CARD OF 'salternkeep.FilesWhole'. -/
def filesWholeCard : Claim7 := { stood := { row := filesWholeRow, standIns := [], harness := (true, "f8e8ab62f3cc9b93d70a100e391fcf96a905b0fcdc2bccb6a59397f83d8b8a16"), looks := true }, kinds := [], alts := [], laidByText := true, laidKinds := [.data, .data, .data, .data, .handle, .sentinel, .sentinel, .data, .pinned], laidTests := true, laidLooks := .later }
def FilesWholeCardSaid : Prop := Claim7.holds Tryz.pinned (.plain (OpenSpec.ofChange filesWholeSpec)) filesWholeCard

/-- THE TIED CARD OF 'salternkeep.FilesApart'. -/
def filesApartCard : Claim7 := { stood := { row := filesApartRow, standIns := [], harness := (true, "f8e8ab62f3cc9b93d70a100e391fcf96a905b0fcdc2bccb6a59397f83d8b8a16"), looks := true }, kinds := [], alts := [], laidByText := true, laidKinds := [.data, .data, .data, .data, .sentinel, .sentinel, .data, .pinned], laidTests := true, laidLooks := .later }
def FilesApartCardSaid : Prop := Claim7.holds Tryz.pinned (.plain (OpenSpec.ofChange filesApartSpec)) filesApartCard

/-- THE SECOND FORM's CARD OF 'salternlaw.FilesKeep'. -/
def filesKeepUptoCard : Claim7 := { stood := { row := filesKeepUptoRow, standIns := [], harness := (true, "f8e8ab62f3cc9b93d70a100e391fcf96a905b0fcdc2bccb6a59397f83d8b8a16"), looks := true }, kinds := [], alts := [], laidByText := true, laidKinds := [.data, .data, .data, .data, .handle, .sentinel, .sentinel, .data, .pinned], laidTests := true, laidLooks := .later }
def FilesKeepUptoCardSaid : Prop := Claim7.holds Tryz.pinned (.plain (OpenSpec.upto filesKeepSpec)) filesKeepUptoCard

/-- THE SECOND FORM's CARD OF 'salternkeep.FilesSay'. -/
def filesSayUptoCard : Claim7 := { stood := { row := filesSayUptoRow, standIns := [], harness := (true, "f8e8ab62f3cc9b93d70a100e391fcf96a905b0fcdc2bccb6a59397f83d8b8a16"), looks := true }, kinds := [], alts := [], laidByText := true, laidKinds := [.data, .data, .data, .data, .handle, .sentinel, .sentinel, .data, .pinned], laidTests := true, laidLooks := .later }
def FilesSayUptoCardSaid : Prop := Claim7.holds Tryz.pinned (.plain (OpenSpec.upto filesSaySpec)) filesSayUptoCard

/-- THE SECOND FORM's CARD OF 'salternkeep.FilesQuiet'. -/
def filesQuietUptoCard : Claim7 := { stood := { row := filesQuietUptoRow, standIns := [], harness := (true, "f8e8ab62f3cc9b93d70a100e391fcf96a905b0fcdc2bccb6a59397f83d8b8a16"), looks := true }, kinds := [], alts := [], laidByText := true, laidKinds := [.data, .data, .data, .data, .handle, .sentinel, .sentinel, .data, .pinned], laidTests := true, laidLooks := .later }
def FilesQuietUptoCardSaid : Prop := Claim7.holds Tryz.pinned (.plain (OpenSpec.upto filesQuietSpec)) filesQuietUptoCard

/-- THE SECOND FORM's CARD OF 'salternkeep.FilesWhole'. -/
def filesWholeUptoCard : Claim7 := { stood := { row := filesWholeUptoRow, standIns := [], harness := (true, "f8e8ab62f3cc9b93d70a100e391fcf96a905b0fcdc2bccb6a59397f83d8b8a16"), looks := true }, kinds := [], alts := [], laidByText := true, laidKinds := [.data, .data, .data, .data, .handle, .sentinel, .sentinel, .data, .pinned], laidTests := true, laidLooks := .later }
def FilesWholeUptoCardSaid : Prop := Claim7.holds Tryz.pinned (.plain (OpenSpec.upto filesWholeSpec)) filesWholeUptoCard

/-- THE SECOND FORM's CARD OF 'salternkeep.FilesApart'. -/
def filesApartUptoCard : Claim7 := { stood := { row := filesApartUptoRow, standIns := [], harness := (true, "f8e8ab62f3cc9b93d70a100e391fcf96a905b0fcdc2bccb6a59397f83d8b8a16"), looks := true }, kinds := [], alts := [], laidByText := true, laidKinds := [.data, .data, .data, .data, .sentinel, .sentinel, .data, .pinned], laidTests := true, laidLooks := .later }
def FilesApartUptoCardSaid : Prop := Claim7.holds Tryz.pinned (.plain (OpenSpec.upto filesApartSpec)) filesApartUptoCard
end Rows
end Go.Proofs.YtlgocfgnfdnloaaGreatDoor
