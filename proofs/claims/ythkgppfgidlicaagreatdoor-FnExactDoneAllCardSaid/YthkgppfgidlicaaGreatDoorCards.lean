/-
  DERIVED. GIVEN WITH THE SEED: THE CARDS: each row of YthkgppfgidlicaaGreatDoorRows.lean that lists a variable, with what it lists TIED to the program's text (the seventh form; the later family's looks); each row that meets fmt, with fmt's text TOLD by the authors' own Lean function (tested against real Go, not proved from fmt's source: count such statements apart). THE CARD IS WHAT COUNTS. Prove the row's statement (the work); the ties are given (YthkgppfgidlicaaGreatDoorTie.lean); close each card by the builder's one call (the guide's Derived/Test/ToyasCard.lean, 'card_holds'). Laid BY PROGRAM, IN A SANDBOX (cutbox-door.mjs). By AI agents, Wed Nov 11 2026. No macro, syntax, notation, axiom, sorry.
-/
import Derived.Test.YthkgppfgidlicaaGreatDoorRows
import GoSem.ClaimSeven
namespace Go.Proofs.YthkgppfgidlicaaGreatDoor
namespace Rows

/-- THE TIED CARD OF 'laws.FnDoneForest'. -/
def fnDoneForestCard : Claim7 := { stood := { row := fnDoneForestRow, standIns := [], harness := (true, "5a48bb24fc7f9b88ac1c4c3dfb25038ba38510fc076ee2ae50b1481e0011f4bf"), looks := true }, kinds := [], alts := [], laidByText := true, laidKinds := [.handle, .sentinel, .sentinel, .sentinel, .sentinel, .sentinel, .sentinel, .sentinel], laidTests := true, laidLooks := .later }
def FnDoneForestCardSaid : Prop := Claim7.holds Tryz.pinned (.plain (OpenSpec.ofChange fnDoneForestSpec)) fnDoneForestCard

/-- THE TIED CARD OF 'laws.FnLimits'. -/
def fnLimitsCard : Claim7 := { stood := { row := fnLimitsRow, standIns := [], harness := (true, "5a48bb24fc7f9b88ac1c4c3dfb25038ba38510fc076ee2ae50b1481e0011f4bf"), looks := true }, kinds := [], alts := [], laidByText := true, laidKinds := [.handle, .sentinel, .sentinel, .sentinel, .sentinel, .sentinel, .sentinel, .sentinel], laidTests := true, laidLooks := .later }
def FnLimitsCardSaid : Prop := Claim7.holds Tryz.pinned (.plain (OpenSpec.ofChange fnLimitsSpec)) fnLimitsCard

/-- THE TIED CARD OF 'laws.FnFrozen'. -/
def fnFrozenCard : Claim7 := { stood := { row := fnFrozenRow, standIns := [], harness := (true, "5a48bb24fc7f9b88ac1c4c3dfb25038ba38510fc076ee2ae50b1481e0011f4bf"), looks := true }, kinds := [], alts := [], laidByText := true, laidKinds := [.handle, .sentinel, .sentinel, .sentinel, .sentinel, .sentinel, .sentinel, .sentinel], laidTests := true, laidLooks := .later }
def FnFrozenCardSaid : Prop := Claim7.holds Tryz.pinned (.plain (OpenSpec.ofChange fnFrozenSpec)) fnFrozenCard

/-- THE TIED CARD OF 'laws.FnPaid'. -/
def fnPaidCard : Claim7 := { stood := { row := fnPaidRow, standIns := [], harness := (true, "5a48bb24fc7f9b88ac1c4c3dfb25038ba38510fc076ee2ae50b1481e0011f4bf"), looks := true }, kinds := [], alts := [], laidByText := true, laidKinds := [.handle, .sentinel, .sentinel, .sentinel, .sentinel, .sentinel, .sentinel, .sentinel], laidTests := true, laidLooks := .later }
def FnPaidCardSaid : Prop := Claim7.holds Tryz.pinned (.plain (OpenSpec.ofChange fnPaidSpec)) fnPaidCard

/-- THE TIED CARD OF 'laws.FnDonePieces'. -/
def fnDonePiecesCard : Claim7 := { stood := { row := fnDonePiecesRow, standIns := [], harness := (true, "5a48bb24fc7f9b88ac1c4c3dfb25038ba38510fc076ee2ae50b1481e0011f4bf"), looks := true }, kinds := [], alts := [], laidByText := true, laidKinds := [.handle, .sentinel, .sentinel, .sentinel, .sentinel, .sentinel, .sentinel, .sentinel], laidTests := true, laidLooks := .later }
def FnDonePiecesCardSaid : Prop := Claim7.holds Tryz.pinned (.plain (OpenSpec.ofChange fnDonePiecesSpec)) fnDonePiecesCard

/-- THE TIED CARD OF 'laws.FnExactDoneAll'. -/
def fnExactDoneAllCard : Claim7 := { stood := { row := fnExactDoneAllRow, standIns := [], harness := (true, "5a48bb24fc7f9b88ac1c4c3dfb25038ba38510fc076ee2ae50b1481e0011f4bf"), looks := true }, kinds := [], alts := [], laidByText := true, laidKinds := [.handle, .sentinel, .sentinel, .sentinel, .sentinel, .sentinel, .sentinel, .sentinel], laidTests := true, laidLooks := .later }
def FnExactDoneAllCardSaid : Prop := Claim7.holds Tryz.pinned (.plain (OpenSpec.ofChange fnExactDoneAllSpec)) fnExactDoneAllCard

/-- THE SECOND FORM's CARD OF 'laws.FnDoneForest'. -/
def fnDoneForestUptoCard : Claim7 := { stood := { row := fnDoneForestUptoRow, standIns := [], harness := (true, "5a48bb24fc7f9b88ac1c4c3dfb25038ba38510fc076ee2ae50b1481e0011f4bf"), looks := true }, kinds := [], alts := [], laidByText := true, laidKinds := [.handle, .sentinel, .sentinel, .sentinel, .sentinel, .sentinel, .sentinel, .sentinel], laidTests := true, laidLooks := .later }
def FnDoneForestUptoCardSaid : Prop := Claim7.holds Tryz.pinned (.plain (OpenSpec.upto fnDoneForestSpec)) fnDoneForestUptoCard

/-- THE SECOND FORM's CARD OF 'laws.FnLimits'. -/
def fnLimitsUptoCard : Claim7 := { stood := { row := fnLimitsUptoRow, standIns := [], harness := (true, "5a48bb24fc7f9b88ac1c4c3dfb25038ba38510fc076ee2ae50b1481e0011f4bf"), looks := true }, kinds := [], alts := [], laidByText := true, laidKinds := [.handle, .sentinel, .sentinel, .sentinel, .sentinel, .sentinel, .sentinel, .sentinel], laidTests := true, laidLooks := .later }
def FnLimitsUptoCardSaid : Prop := Claim7.holds Tryz.pinned (.plain (OpenSpec.upto fnLimitsSpec)) fnLimitsUptoCard

/-- THE SECOND FORM's CARD OF 'laws.FnFrozen'. -/
def fnFrozenUptoCard : Claim7 := { stood := { row := fnFrozenUptoRow, standIns := [], harness := (true, "5a48bb24fc7f9b88ac1c4c3dfb25038ba38510fc076ee2ae50b1481e0011f4bf"), looks := true }, kinds := [], alts := [], laidByText := true, laidKinds := [.handle, .sentinel, .sentinel, .sentinel, .sentinel, .sentinel, .sentinel, .sentinel], laidTests := true, laidLooks := .later }
def FnFrozenUptoCardSaid : Prop := Claim7.holds Tryz.pinned (.plain (OpenSpec.upto fnFrozenSpec)) fnFrozenUptoCard

/-- THE SECOND FORM's CARD OF 'laws.FnPaid'. -/
def fnPaidUptoCard : Claim7 := { stood := { row := fnPaidUptoRow, standIns := [], harness := (true, "5a48bb24fc7f9b88ac1c4c3dfb25038ba38510fc076ee2ae50b1481e0011f4bf"), looks := true }, kinds := [], alts := [], laidByText := true, laidKinds := [.handle, .sentinel, .sentinel, .sentinel, .sentinel, .sentinel, .sentinel, .sentinel], laidTests := true, laidLooks := .later }
def FnPaidUptoCardSaid : Prop := Claim7.holds Tryz.pinned (.plain (OpenSpec.upto fnPaidSpec)) fnPaidUptoCard

/-- THE SECOND FORM's CARD OF 'laws.FnDonePieces'. -/
def fnDonePiecesUptoCard : Claim7 := { stood := { row := fnDonePiecesUptoRow, standIns := [], harness := (true, "5a48bb24fc7f9b88ac1c4c3dfb25038ba38510fc076ee2ae50b1481e0011f4bf"), looks := true }, kinds := [], alts := [], laidByText := true, laidKinds := [.handle, .sentinel, .sentinel, .sentinel, .sentinel, .sentinel, .sentinel, .sentinel], laidTests := true, laidLooks := .later }
def FnDonePiecesUptoCardSaid : Prop := Claim7.holds Tryz.pinned (.plain (OpenSpec.upto fnDonePiecesSpec)) fnDonePiecesUptoCard

/-- THE SECOND FORM's CARD OF 'laws.FnExactDoneAll'. -/
def fnExactDoneAllUptoCard : Claim7 := { stood := { row := fnExactDoneAllUptoRow, standIns := [], harness := (true, "5a48bb24fc7f9b88ac1c4c3dfb25038ba38510fc076ee2ae50b1481e0011f4bf"), looks := true }, kinds := [], alts := [], laidByText := true, laidKinds := [.handle, .sentinel, .sentinel, .sentinel, .sentinel, .sentinel, .sentinel, .sentinel], laidTests := true, laidLooks := .later }
def FnExactDoneAllUptoCardSaid : Prop := Claim7.holds Tryz.pinned (.plain (OpenSpec.upto fnExactDoneAllSpec)) fnExactDoneAllUptoCard
end Rows
end Go.Proofs.YthkgppfgidlicaaGreatDoor
