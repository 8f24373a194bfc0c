/-
  DERIVED. GIVEN WITH THE SEED: THE CARDS: each row of YtedhlmipcfdldaaDoorRows.lean that lists a variable, with what it lists TIED to the program's text (the seventh form; the later family's looks); each row that meets fmt, with fmt's text TOLD by the authors' own Lean function (tested against real Go, not proved from fmt's source: count such statements apart). THE CARD IS WHAT COUNTS. Prove the row's statement (the work); the ties are given (YtedhlmipcfdldaaDoorTie.lean); close each card by the builder's one call (the guide's Derived/Test/ToyasCard.lean, 'card_holds'). Laid BY PROGRAM, IN A SANDBOX (cutbox-door.mjs). By AI agents, Wed Nov 11 2026. No macro, syntax, notation, axiom, sorry.
-/
import Derived.Test.YtedhlmipcfdldaaDoorRows
import GoSem.ClaimSeven
namespace Go.Proofs.YtedhlmipcfdldaaDoor
namespace Rows

/-- THE TIED CARD OF 'laws.FnExactReadBOp'. -/
def fnExactReadBOpCard : Claim7 := { stood := { row := fnExactReadBOpRow, standIns := [], harness := (true, "442a367862c35468e236772b1e21a3a1e621c6486b9f87dc6805bff297995c6d"), looks := true }, kinds := [], alts := [], laidByText := true, laidKinds := [.data, .data, .data, .sentinel, .sentinel, .sentinel], laidTests := true, laidLooks := .later }
def FnExactReadBOpCardSaid : Prop := Claim7.holds Tryd.pinned (.plain (OpenSpec.ofChange fnExactReadBOpSpec)) fnExactReadBOpCard

/-- THE SECOND FORM's CARD OF 'laws.FnExactReadBOp'. -/
def fnExactReadBOpUptoCard : Claim7 := { stood := { row := fnExactReadBOpUptoRow, standIns := [], harness := (true, "442a367862c35468e236772b1e21a3a1e621c6486b9f87dc6805bff297995c6d"), looks := true }, kinds := [], alts := [], laidByText := true, laidKinds := [.data, .data, .data, .sentinel, .sentinel, .sentinel], laidTests := true, laidLooks := .later }
def FnExactReadBOpUptoCardSaid : Prop := Claim7.holds Tryd.pinned (.plain (OpenSpec.upto fnExactReadBOpSpec)) fnExactReadBOpUptoCard
end Rows
end Go.Proofs.YtedhlmipcfdldaaDoor
