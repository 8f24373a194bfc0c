/-
  DERIVED. GIVEN WITH THE SEED: THE CARDS: each row of YtghkbhggopiajaaGreatDoorRows.lean that lists a variable, with what it lists TIED to the program's text (the seventh form; the later family's looks); each row that meets fmt, with fmt's text TOLD by the authors' own Lean function (tested against real Go, not proved from fmt's source: count such statements apart). THE CARD IS WHAT COUNTS. Prove the row's statement (the work); the ties are given (YtghkbhggopiajaaGreatDoorTie.lean); close each card by the builder's one call (the guide's Derived/Test/ToyasCard.lean, 'card_holds'). Laid BY PROGRAM, IN A SANDBOX (cutbox-door.mjs). By AI agents, Wed Nov 11 2026. No macro, syntax, notation, axiom, sorry.
-/
import Derived.Test.YtghkbhggopiajaaGreatDoorRows
import GoSem.ClaimSeven
namespace Go.Proofs.YtghkbhggopiajaaGreatDoor
namespace Rows

/-- THE TIED CARD OF 'laws.FnSwept'. -/
def fnSweptCard : Claim7 := { stood := { row := fnSweptRow, standIns := [], harness := (true, "163fa5250f53aa59fba3c148979fa9c187c0df7dcda75f9c707cb89eefab92af"), looks := true }, kinds := [], alts := [], laidByText := true, laidKinds := [.handle, .sentinel, .sentinel, .sentinel, .sentinel, .sentinel, .sentinel, .sentinel], laidTests := true, laidLooks := .later }
def FnSweptCardSaid : Prop := Claim7.holds Tryz.pinned (.plain (OpenSpec.ofChange fnSweptSpec)) fnSweptCard

/-- THE TIED CARD OF 'laws.FnEnded'. -/
def fnEndedCard : Claim7 := { stood := { row := fnEndedRow, standIns := [], harness := (true, "163fa5250f53aa59fba3c148979fa9c187c0df7dcda75f9c707cb89eefab92af"), looks := true }, kinds := [], alts := [], laidByText := true, laidKinds := [.handle, .sentinel, .sentinel, .sentinel, .sentinel, .sentinel, .sentinel, .sentinel], laidTests := true, laidLooks := .later }
def FnEndedCardSaid : Prop := Claim7.holds Tryz.pinned (.plain (OpenSpec.ofChange fnEndedSpec)) fnEndedCard

/-- THE TIED CARD OF 'laws.FnRan'. -/
def fnRanCard : Claim7 := { stood := { row := fnRanRow, standIns := [], harness := (true, "163fa5250f53aa59fba3c148979fa9c187c0df7dcda75f9c707cb89eefab92af"), looks := true }, kinds := [], alts := [], laidByText := true, laidKinds := [.handle, .sentinel, .sentinel, .sentinel, .sentinel, .sentinel, .sentinel, .sentinel], laidTests := true, laidLooks := .later }
def FnRanCardSaid : Prop := Claim7.holds Tryz.pinned (.plain (OpenSpec.ofChange fnRanSpec)) fnRanCard

/-- THE TIED CARD OF 'laws.FnRanPieces'. -/
def fnRanPiecesCard : Claim7 := { stood := { row := fnRanPiecesRow, standIns := [], harness := (true, "163fa5250f53aa59fba3c148979fa9c187c0df7dcda75f9c707cb89eefab92af"), looks := true }, kinds := [], alts := [], laidByText := true, laidKinds := [.handle, .sentinel, .sentinel, .sentinel, .sentinel, .sentinel, .sentinel, .sentinel], laidTests := true, laidLooks := .later }
def FnRanPiecesCardSaid : Prop := Claim7.holds Tryz.pinned (.plain (OpenSpec.ofChange fnRanPiecesSpec)) fnRanPiecesCard

/-- THE TIED CARD OF 'laws.FnExactSwept'. -/
def fnExactSweptCard : Claim7 := { stood := { row := fnExactSweptRow, standIns := [], harness := (true, "163fa5250f53aa59fba3c148979fa9c187c0df7dcda75f9c707cb89eefab92af"), looks := true }, kinds := [], alts := [], laidByText := true, laidKinds := [.handle, .sentinel, .sentinel, .sentinel, .sentinel, .sentinel, .sentinel, .sentinel], laidTests := true, laidLooks := .later }
def FnExactSweptCardSaid : Prop := Claim7.holds Tryz.pinned (.plain (OpenSpec.ofChange fnExactSweptSpec)) fnExactSweptCard

/-- THE TIED CARD OF 'laws.FnExactEnded'. -/
def fnExactEndedCard : Claim7 := { stood := { row := fnExactEndedRow, standIns := [], harness := (true, "163fa5250f53aa59fba3c148979fa9c187c0df7dcda75f9c707cb89eefab92af"), looks := true }, kinds := [], alts := [], laidByText := true, laidKinds := [.handle, .sentinel, .sentinel, .sentinel, .sentinel, .sentinel, .sentinel, .sentinel], laidTests := true, laidLooks := .later }
def FnExactEndedCardSaid : Prop := Claim7.holds Tryz.pinned (.plain (OpenSpec.ofChange fnExactEndedSpec)) fnExactEndedCard

/-- THE TIED CARD OF 'laws.FnExactRan'. -/
def fnExactRanCard : Claim7 := { stood := { row := fnExactRanRow, standIns := [], harness := (true, "163fa5250f53aa59fba3c148979fa9c187c0df7dcda75f9c707cb89eefab92af"), looks := true }, kinds := [], alts := [], laidByText := true, laidKinds := [.handle, .sentinel, .sentinel, .sentinel, .sentinel, .sentinel, .sentinel, .sentinel], laidTests := true, laidLooks := .later }
def FnExactRanCardSaid : Prop := Claim7.holds Tryz.pinned (.plain (OpenSpec.ofChange fnExactRanSpec)) fnExactRanCard

/-- THE TIED CARD OF 'laws.FnExactRanAll'. -/
def fnExactRanAllCard : Claim7 := { stood := { row := fnExactRanAllRow, standIns := [], harness := (true, "163fa5250f53aa59fba3c148979fa9c187c0df7dcda75f9c707cb89eefab92af"), looks := true }, kinds := [], alts := [], laidByText := true, laidKinds := [.handle, .sentinel, .sentinel, .sentinel, .sentinel, .sentinel, .sentinel, .sentinel], laidTests := true, laidLooks := .later }
def FnExactRanAllCardSaid : Prop := Claim7.holds Tryz.pinned (.plain (OpenSpec.ofChange fnExactRanAllSpec)) fnExactRanAllCard

/-- THE SECOND FORM's CARD OF 'laws.FnSwept'. -/
def fnSweptUptoCard : Claim7 := { stood := { row := fnSweptUptoRow, standIns := [], harness := (true, "163fa5250f53aa59fba3c148979fa9c187c0df7dcda75f9c707cb89eefab92af"), looks := true }, kinds := [], alts := [], laidByText := true, laidKinds := [.handle, .sentinel, .sentinel, .sentinel, .sentinel, .sentinel, .sentinel, .sentinel], laidTests := true, laidLooks := .later }
def FnSweptUptoCardSaid : Prop := Claim7.holds Tryz.pinned (.plain (OpenSpec.upto fnSweptSpec)) fnSweptUptoCard

/-- THE SECOND FORM's CARD OF 'laws.FnEnded'. -/
def fnEndedUptoCard : Claim7 := { stood := { row := fnEndedUptoRow, standIns := [], harness := (true, "163fa5250f53aa59fba3c148979fa9c187c0df7dcda75f9c707cb89eefab92af"), looks := true }, kinds := [], alts := [], laidByText := true, laidKinds := [.handle, .sentinel, .sentinel, .sentinel, .sentinel, .sentinel, .sentinel, .sentinel], laidTests := true, laidLooks := .later }
def FnEndedUptoCardSaid : Prop := Claim7.holds Tryz.pinned (.plain (OpenSpec.upto fnEndedSpec)) fnEndedUptoCard

/-- THE SECOND FORM's CARD OF 'laws.FnRan'. -/
def fnRanUptoCard : Claim7 := { stood := { row := fnRanUptoRow, standIns := [], harness := (true, "163fa5250f53aa59fba3c148979fa9c187c0df7dcda75f9c707cb89eefab92af"), looks := true }, kinds := [], alts := [], laidByText := true, laidKinds := [.handle, .sentinel, .sentinel, .sentinel, .sentinel, .sentinel, .sentinel, .sentinel], laidTests := true, laidLooks := .later }
def FnRanUptoCardSaid : Prop := Claim7.holds Tryz.pinned (.plain (OpenSpec.upto fnRanSpec)) fnRanUptoCard

/-- THE SECOND FORM's CARD OF 'laws.FnRanPieces'. -/
def fnRanPiecesUptoCard : Claim7 := { stood := { row := fnRanPiecesUptoRow, standIns := [], harness := (true, "163fa5250f53aa59fba3c148979fa9c187c0df7dcda75f9c707cb89eefab92af"), looks := true }, kinds := [], alts := [], laidByText := true, laidKinds := [.handle, .sentinel, .sentinel, .sentinel, .sentinel, .sentinel, .sentinel, .sentinel], laidTests := true, laidLooks := .later }
def FnRanPiecesUptoCardSaid : Prop := Claim7.holds Tryz.pinned (.plain (OpenSpec.upto fnRanPiecesSpec)) fnRanPiecesUptoCard

/-- THE SECOND FORM's CARD OF 'laws.FnExactSwept'. -/
def fnExactSweptUptoCard : Claim7 := { stood := { row := fnExactSweptUptoRow, standIns := [], harness := (true, "163fa5250f53aa59fba3c148979fa9c187c0df7dcda75f9c707cb89eefab92af"), looks := true }, kinds := [], alts := [], laidByText := true, laidKinds := [.handle, .sentinel, .sentinel, .sentinel, .sentinel, .sentinel, .sentinel, .sentinel], laidTests := true, laidLooks := .later }
def FnExactSweptUptoCardSaid : Prop := Claim7.holds Tryz.pinned (.plain (OpenSpec.upto fnExactSweptSpec)) fnExactSweptUptoCard

/-- THE SECOND FORM's CARD OF 'laws.FnExactEnded'. -/
def fnExactEndedUptoCard : Claim7 := { stood := { row := fnExactEndedUptoRow, standIns := [], harness := (true, "163fa5250f53aa59fba3c148979fa9c187c0df7dcda75f9c707cb89eefab92af"), looks := true }, kinds := [], alts := [], laidByText := true, laidKinds := [.handle, .sentinel, .sentinel, .sentinel, .sentinel, .sentinel, .sentinel, .sentinel], laidTests := true, laidLooks := .later }
def FnExactEndedUptoCardSaid : Prop := Claim7.holds Tryz.pinned (.plain (OpenSpec.upto fnExactEndedSpec)) fnExactEndedUptoCard

/-- THE SECOND FORM's CARD OF 'laws.FnExactRan'. -/
def fnExactRanUptoCard : Claim7 := { stood := { row := fnExactRanUptoRow, standIns := [], harness := (true, "163fa5250f53aa59fba3c148979fa9c187c0df7dcda75f9c707cb89eefab92af"), looks := true }, kinds := [], alts := [], laidByText := true, laidKinds := [.handle, .sentinel, .sentinel, .sentinel, .sentinel, .sentinel, .sentinel, .sentinel], laidTests := true, laidLooks := .later }
def FnExactRanUptoCardSaid : Prop := Claim7.holds Tryz.pinned (.plain (OpenSpec.upto fnExactRanSpec)) fnExactRanUptoCard

/-- THE SECOND FORM's CARD OF 'laws.FnExactRanAll'. -/
def fnExactRanAllUptoCard : Claim7 := { stood := { row := fnExactRanAllUptoRow, standIns := [], harness := (true, "163fa5250f53aa59fba3c148979fa9c187c0df7dcda75f9c707cb89eefab92af"), looks := true }, kinds := [], alts := [], laidByText := true, laidKinds := [.handle, .sentinel, .sentinel, .sentinel, .sentinel, .sentinel, .sentinel, .sentinel], laidTests := true, laidLooks := .later }
def FnExactRanAllUptoCardSaid : Prop := Claim7.holds Tryz.pinned (.plain (OpenSpec.upto fnExactRanAllSpec)) fnExactRanAllUptoCard
end Rows
end Go.Proofs.YtghkbhggopiajaaGreatDoor
