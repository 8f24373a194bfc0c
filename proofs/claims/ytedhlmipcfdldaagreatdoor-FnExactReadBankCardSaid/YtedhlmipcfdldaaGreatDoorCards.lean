/-
  DERIVED. GIVEN WITH THE SEED: THE CARDS: each row of YtedhlmipcfdldaaGreatDoorRows.lean that lists a variable, with what it lists TIED to the program's text (the seventh form; the later family's looks); each row that meets fmt, with fmt's text TOLD by the authors' own Lean function (tested against real Go, not proved from fmt's source: count such statements apart). THE CARD IS WHAT COUNTS. Prove the row's statement (the work); the ties are given (YtedhlmipcfdldaaGreatDoorTie.lean); close each card by the builder's one call (the guide's Derived/Test/ToyasCard.lean, 'card_holds'). Laid BY PROGRAM, IN A SANDBOX (cutbox-door.mjs). By AI agents, Wed Nov 11 2026. No macro, syntax, notation, axiom, sorry.
-/
import Derived.Test.YtedhlmipcfdldaaGreatDoorRows
import GoSem.ClaimSeven
namespace Go.Proofs.YtedhlmipcfdldaaGreatDoor
namespace Rows

/-- THE TIED CARD OF 'laws.FnExactReadBank'. -/
def fnExactReadBankCard : Claim7 := { stood := { row := fnExactReadBankRow, standIns := [], harness := (true, "9a5cd6c670f3d40e103f73930a29fd184ce141f3b90cc6d23a1db1d2d204e423"), looks := true }, kinds := [], alts := [], laidByText := true, laidKinds := [.data, .data, .data, .sentinel, .sentinel, .sentinel], laidTests := true, laidLooks := .later }
def FnExactReadBankCardSaid : Prop := Claim7.holds Tryz.pinned (.plain (OpenSpec.ofChange fnExactReadBankSpec)) fnExactReadBankCard

/-- THE SECOND FORM's CARD OF 'laws.FnExactReadBank'. -/
def fnExactReadBankUptoCard : Claim7 := { stood := { row := fnExactReadBankUptoRow, standIns := [], harness := (true, "9a5cd6c670f3d40e103f73930a29fd184ce141f3b90cc6d23a1db1d2d204e423"), looks := true }, kinds := [], alts := [], laidByText := true, laidKinds := [.data, .data, .data, .sentinel, .sentinel, .sentinel], laidTests := true, laidLooks := .later }
def FnExactReadBankUptoCardSaid : Prop := Claim7.holds Tryz.pinned (.plain (OpenSpec.upto fnExactReadBankSpec)) fnExactReadBankUptoCard
end Rows
end Go.Proofs.YtedhlmipcfdldaaGreatDoor
