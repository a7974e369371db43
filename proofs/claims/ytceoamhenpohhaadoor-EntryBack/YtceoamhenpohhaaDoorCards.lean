/-
  DERIVED. GIVEN WITH THE SEED: THE CARDS: each row of YtceoamhenpohhaaDoorRows.lean that lists a variable, with what it lists TIED to the program's text (the seventh form; the later family's looks); each row that meets fmt, with fmt's text TOLD by the authors' own Lean function (tested against real Go, not proved from fmt's source: count such statements apart). THE CARD IS WHAT COUNTS. Prove the row's statement (the work); the ties are given (YtceoamhenpohhaaDoorTie.lean); close each card by the builder's one call (the guide's Derived/Test/ToyasCard.lean, 'card_holds'). Laid BY PROGRAM, IN A SANDBOX (cutbox-door.mjs). By AI agents, Wed Nov 11 2026. No macro, syntax, notation, axiom, sorry.
-/
import Derived.Test.YtceoamhenpohhaaDoorRows
import GoSem.ClaimSeven
namespace Go.Proofs.YtceoamhenpohhaaDoor
namespace Rows

/-- THE TIED CARD OF 'salternkeep.EntryBack'. -/
def entryBackCard : Claim7 := { stood := { row := entryBackRow, standIns := [], harness := (true, "df2ead5f5801cf3a0e56c877d4a682d598754a2e27dda127d8c2996b1cfa3a2f"), looks := true }, kinds := [], alts := [], laidByText := true, laidKinds := [.data, .data, .data, .data, .sentinel, .sentinel, .pinned], laidTests := true, laidLooks := .later }
def EntryBackCardSaid : Prop := Claim7.holds Tryd.pinned (.plain (OpenSpec.ofChange entryBackSpec)) entryBackCard

/-- THE TIED CARD OF 'salternkeep.EntryFree'. -/
def entryFreeCard : Claim7 := { stood := { row := entryFreeRow, standIns := [], harness := (true, "df2ead5f5801cf3a0e56c877d4a682d598754a2e27dda127d8c2996b1cfa3a2f"), looks := true }, kinds := [], alts := [], laidByText := true, laidKinds := [.data, .data, .data, .data, .sentinel, .sentinel, .pinned], laidTests := true, laidLooks := .later }
def EntryFreeCardSaid : Prop := Claim7.holds Tryd.pinned (.plain (OpenSpec.ofChange entryFreeSpec)) entryFreeCard

/-- THE SECOND FORM's CARD OF 'salternkeep.EntryBack'. -/
def entryBackUptoCard : Claim7 := { stood := { row := entryBackUptoRow, standIns := [], harness := (true, "df2ead5f5801cf3a0e56c877d4a682d598754a2e27dda127d8c2996b1cfa3a2f"), looks := true }, kinds := [], alts := [], laidByText := true, laidKinds := [.data, .data, .data, .data, .sentinel, .sentinel, .pinned], laidTests := true, laidLooks := .later }
def EntryBackUptoCardSaid : Prop := Claim7.holds Tryd.pinned (.plain (OpenSpec.upto entryBackSpec)) entryBackUptoCard

/-- THE SECOND FORM's CARD OF 'salternkeep.EntryFree'. -/
def entryFreeUptoCard : Claim7 := { stood := { row := entryFreeUptoRow, standIns := [], harness := (true, "df2ead5f5801cf3a0e56c877d4a682d598754a2e27dda127d8c2996b1cfa3a2f"), looks := true }, kinds := [], alts := [], laidByText := true, laidKinds := [.data, .data, .data, .data, .sentinel, .sentinel, .pinned], laidTests := true, laidLooks := .later }
def EntryFreeUptoCardSaid : Prop := Claim7.holds Tryd.pinned (.plain (OpenSpec.upto entryFreeSpec)) entryFreeUptoCard
end Rows
end Go.Proofs.YtceoamhenpohhaaDoor
