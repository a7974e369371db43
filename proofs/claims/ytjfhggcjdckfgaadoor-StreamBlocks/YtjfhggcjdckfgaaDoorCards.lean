/-
  DERIVED. GIVEN WITH THE SEED: THE CARDS: each row of YtjfhggcjdckfgaaDoorRows.lean that lists a variable, with what it lists TIED to the program's text (the seventh form; the later family's looks); each row that meets fmt, with fmt's text TOLD by the authors' own Lean function (tested against real Go, not proved from fmt's source: count such statements apart). THE CARD IS WHAT COUNTS. Prove the row's statement (the work); the ties are given (YtjfhggcjdckfgaaDoorTie.lean); close each card by the builder's one call (the guide's Derived/Test/ToyasCard.lean, 'card_holds'). Laid BY PROGRAM, IN A SANDBOX (cutbox-door.mjs). By AI agents, Wed Nov 11 2026. No macro, syntax, notation, axiom, sorry.
-/
import Derived.Test.YtjfhggcjdckfgaaDoorRows
import GoSem.ClaimSeven
namespace Go.Proofs.YtjfhggcjdckfgaaDoor
namespace Rows

/-- THE TIED CARD OF 'salternlaw.SumTells'. -/
def sumTellsCard : Claim7 := { stood := { row := sumTellsRow, standIns := [], harness := (true, "70b0d896fa82c625f77583f824217dfdeb1157adfad7d045c964958ad0de361f"), looks := true }, kinds := [], alts := [], laidByText := true, laidKinds := [.data, .data, .data, .data], laidTests := true, laidLooks := .later }
def SumTellsCardSaid : Prop := Claim7.holds Tryd.pinned (.plain (OpenSpec.ofChange sumTellsSpec)) sumTellsCard

/-- THE TIED CARD OF 'salternlaw.StreamBlocks'. -/
def streamBlocksCard : Claim7 := { stood := { row := streamBlocksRow, standIns := [], harness := (true, "70b0d896fa82c625f77583f824217dfdeb1157adfad7d045c964958ad0de361f"), looks := true }, kinds := [], alts := [], laidByText := true, laidKinds := [.handle], laidTests := true, laidLooks := .later }
def StreamBlocksCardSaid : Prop := Claim7.holds Tryd.pinned (.plain (OpenSpec.ofChange streamBlocksSpec)) streamBlocksCard

/-- THE TIED CARD OF 'salternlaw.ZoneKeeps'. -/
def zoneKeepsCard : Claim7 := { stood := { row := zoneKeepsRow, standIns := [], harness := (true, "70b0d896fa82c625f77583f824217dfdeb1157adfad7d045c964958ad0de361f"), looks := true }, kinds := [], alts := [], laidByText := true, laidKinds := [.handle], laidTests := true, laidLooks := .later }
def ZoneKeepsCardSaid : Prop := Claim7.holds Tryd.pinned (.plain (OpenSpec.ofChange zoneKeepsSpec)) zoneKeepsCard

/-- THE TIED CARD OF 'salternkeep.ZoneHolds'. -/
def zoneHoldsCard : Claim7 := { stood := { row := zoneHoldsRow, standIns := [], harness := (true, "70b0d896fa82c625f77583f824217dfdeb1157adfad7d045c964958ad0de361f"), looks := true }, kinds := [], alts := [], laidByText := true, laidKinds := [.handle], laidTests := true, laidLooks := .later }
def ZoneHoldsCardSaid : Prop := Claim7.holds Tryd.pinned (.plain (OpenSpec.ofChange zoneHoldsSpec)) zoneHoldsCard

/-- THE TIED CARD OF 'salternkeep.ZoneRests'. -/
def zoneRestsCard : Claim7 := { stood := { row := zoneRestsRow, standIns := [], harness := (true, "70b0d896fa82c625f77583f824217dfdeb1157adfad7d045c964958ad0de361f"), looks := true }, kinds := [], alts := [], laidByText := true, laidKinds := [.handle], laidTests := true, laidLooks := .later }
def ZoneRestsCardSaid : Prop := Claim7.holds Tryd.pinned (.plain (OpenSpec.ofChange zoneRestsSpec)) zoneRestsCard

/-- THE TIED CARD OF 'salternlaw.MeterCounts'. -/
def meterCountsCard : Claim7 := { stood := { row := meterCountsRow, standIns := [], harness := (true, "70b0d896fa82c625f77583f824217dfdeb1157adfad7d045c964958ad0de361f"), looks := true }, kinds := [], alts := [], laidByText := true, laidKinds := [.handle, .data], laidTests := true, laidLooks := .later }
def MeterCountsCardSaid : Prop := Claim7.holds Tryd.pinned (.plain (OpenSpec.ofChange meterCountsSpec)) meterCountsCard

/-- THE TIED CARD OF 'salternlaw.SealSeals'. -/
def sealSealsCard : Claim7 := { stood := { row := sealSealsRow, standIns := [], harness := (true, "70b0d896fa82c625f77583f824217dfdeb1157adfad7d045c964958ad0de361f"), looks := true }, kinds := [], alts := [], laidByText := true, laidKinds := [.handle, .data], laidTests := true, laidLooks := .later }
def SealSealsCardSaid : Prop := Claim7.holds Tryd.pinned (.plain (OpenSpec.ofChange sealSealsSpec)) sealSealsCard

/-- THE TIED CARD OF 'salternlaw.TableWrites'. -/
def tableWritesCard : Claim7 := { stood := { row := tableWritesRow, standIns := [], harness := (true, "70b0d896fa82c625f77583f824217dfdeb1157adfad7d045c964958ad0de361f"), looks := true }, kinds := [], alts := [], laidByText := true, laidKinds := [.handle, .data], laidTests := true, laidLooks := .later }
def TableWritesCardSaid : Prop := Claim7.holds Tryd.pinned (.plain (OpenSpec.ofChange tableWritesSpec)) tableWritesCard

/-- THE SECOND FORM's CARD OF 'salternlaw.SumTells'. -/
def sumTellsUptoCard : Claim7 := { stood := { row := sumTellsUptoRow, standIns := [], harness := (true, "70b0d896fa82c625f77583f824217dfdeb1157adfad7d045c964958ad0de361f"), looks := true }, kinds := [], alts := [], laidByText := true, laidKinds := [.data, .data, .data, .data], laidTests := true, laidLooks := .later }
def SumTellsUptoCardSaid : Prop := Claim7.holds Tryd.pinned (.plain (OpenSpec.upto sumTellsSpec)) sumTellsUptoCard

/-- THE SECOND FORM's CARD OF 'salternlaw.StreamBlocks'. -/
def streamBlocksUptoCard : Claim7 := { stood := { row := streamBlocksUptoRow, standIns := [], harness := (true, "70b0d896fa82c625f77583f824217dfdeb1157adfad7d045c964958ad0de361f"), looks := true }, kinds := [], alts := [], laidByText := true, laidKinds := [.handle], laidTests := true, laidLooks := .later }
def StreamBlocksUptoCardSaid : Prop := Claim7.holds Tryd.pinned (.plain (OpenSpec.upto streamBlocksSpec)) streamBlocksUptoCard

/-- THE SECOND FORM's CARD OF 'salternlaw.ZoneKeeps'. -/
def zoneKeepsUptoCard : Claim7 := { stood := { row := zoneKeepsUptoRow, standIns := [], harness := (true, "70b0d896fa82c625f77583f824217dfdeb1157adfad7d045c964958ad0de361f"), looks := true }, kinds := [], alts := [], laidByText := true, laidKinds := [.handle], laidTests := true, laidLooks := .later }
def ZoneKeepsUptoCardSaid : Prop := Claim7.holds Tryd.pinned (.plain (OpenSpec.upto zoneKeepsSpec)) zoneKeepsUptoCard

/-- THE SECOND FORM's CARD OF 'salternkeep.ZoneHolds'. -/
def zoneHoldsUptoCard : Claim7 := { stood := { row := zoneHoldsUptoRow, standIns := [], harness := (true, "70b0d896fa82c625f77583f824217dfdeb1157adfad7d045c964958ad0de361f"), looks := true }, kinds := [], alts := [], laidByText := true, laidKinds := [.handle], laidTests := true, laidLooks := .later }
def ZoneHoldsUptoCardSaid : Prop := Claim7.holds Tryd.pinned (.plain (OpenSpec.upto zoneHoldsSpec)) zoneHoldsUptoCard

/-- THE SECOND FORM's CARD OF 'salternkeep.ZoneRests'. -/
def zoneRestsUptoCard : Claim7 := { stood := { row := zoneRestsUptoRow, standIns := [], harness := (true, "70b0d896fa82c625f77583f824217dfdeb1157adfad7d045c964958ad0de361f"), looks := true }, kinds := [], alts := [], laidByText := true, laidKinds := [.handle], laidTests := true, laidLooks := .later }
def ZoneRestsUptoCardSaid : Prop := Claim7.holds Tryd.pinned (.plain (OpenSpec.upto zoneRestsSpec)) zoneRestsUptoCard

/-- THE SECOND FORM's CARD OF 'salternlaw.MeterCounts'. -/
def meterCountsUptoCard : Claim7 := { stood := { row := meterCountsUptoRow, standIns := [], harness := (true, "70b0d896fa82c625f77583f824217dfdeb1157adfad7d045c964958ad0de361f"), looks := true }, kinds := [], alts := [], laidByText := true, laidKinds := [.handle, .data], laidTests := true, laidLooks := .later }
def MeterCountsUptoCardSaid : Prop := Claim7.holds Tryd.pinned (.plain (OpenSpec.upto meterCountsSpec)) meterCountsUptoCard

/-- THE SECOND FORM's CARD OF 'salternlaw.SealSeals'. -/
def sealSealsUptoCard : Claim7 := { stood := { row := sealSealsUptoRow, standIns := [], harness := (true, "70b0d896fa82c625f77583f824217dfdeb1157adfad7d045c964958ad0de361f"), looks := true }, kinds := [], alts := [], laidByText := true, laidKinds := [.handle, .data], laidTests := true, laidLooks := .later }
def SealSealsUptoCardSaid : Prop := Claim7.holds Tryd.pinned (.plain (OpenSpec.upto sealSealsSpec)) sealSealsUptoCard

/-- THE SECOND FORM's CARD OF 'salternlaw.TableWrites'. -/
def tableWritesUptoCard : Claim7 := { stood := { row := tableWritesUptoRow, standIns := [], harness := (true, "70b0d896fa82c625f77583f824217dfdeb1157adfad7d045c964958ad0de361f"), looks := true }, kinds := [], alts := [], laidByText := true, laidKinds := [.handle, .data], laidTests := true, laidLooks := .later }
def TableWritesUptoCardSaid : Prop := Claim7.holds Tryd.pinned (.plain (OpenSpec.upto tableWritesSpec)) tableWritesUptoCard
end Rows
end Go.Proofs.YtjfhggcjdckfgaaDoor
