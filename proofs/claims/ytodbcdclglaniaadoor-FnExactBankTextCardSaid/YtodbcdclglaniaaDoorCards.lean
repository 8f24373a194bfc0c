/-
  DERIVED. GIVEN WITH THE SEED: THE CARDS: each row of YtodbcdclglaniaaDoorRows.lean that lists a variable, with what it lists TIED to the program's text (the seventh form; the later family's looks); each row that meets fmt, with fmt's text TOLD by the authors' own Lean function (tested against real Go, not proved from fmt's source: count such statements apart). THE CARD IS WHAT COUNTS. Prove the row's statement (the work); the ties are given (YtodbcdclglaniaaDoorTie.lean); close each card by the builder's one call (the guide's Derived/Test/ToyasCard.lean, 'card_holds'). Laid BY PROGRAM, IN A SANDBOX (cutbox-door.mjs). By AI agents, Wed Nov 11 2026. No macro, syntax, notation, axiom, sorry.
-/
import Derived.Test.YtodbcdclglaniaaDoorRows
import GoSem.ClaimSeven
namespace Go.Proofs.YtodbcdclglaniaaDoor
namespace Rows

/-- THE TIED CARD OF 'laws.FnExactBankText'. -/
def fnExactBankTextCard : Claim7 := { stood := { row := fnExactBankTextRow, standIns := [], harness := (true, "04819dcc7ec44f63740adf471a29234d81961cc3309a3bd6178b3b761d485a19"), looks := false }, kinds := [], alts := [], laidByText := true, laidKinds := [.data, .data, .data], laidTests := true, laidLooks := .later }
def FnExactBankTextCardSaid : Prop := Claim7.holds Tryd.pinned (.plain (OpenSpec.ofChange fnExactBankTextSpec)) fnExactBankTextCard

/-- THE TIED CARD OF 'laws.FnExactBOpText'. -/
def fnExactBOpTextCard : Claim7 := { stood := { row := fnExactBOpTextRow, standIns := [], harness := (true, "04819dcc7ec44f63740adf471a29234d81961cc3309a3bd6178b3b761d485a19"), looks := false }, kinds := [], alts := [], laidByText := true, laidKinds := [.data, .data, .data], laidTests := true, laidLooks := .later }
def FnExactBOpTextCardSaid : Prop := Claim7.holds Tryd.pinned (.plain (OpenSpec.ofChange fnExactBOpTextSpec)) fnExactBOpTextCard

/-- THE SECOND FORM's CARD OF 'laws.FnExactBankText'. -/
def fnExactBankTextUptoCard : Claim7 := { stood := { row := fnExactBankTextUptoRow, standIns := [], harness := (true, "04819dcc7ec44f63740adf471a29234d81961cc3309a3bd6178b3b761d485a19"), looks := false }, kinds := [], alts := [], laidByText := true, laidKinds := [.data, .data, .data], laidTests := true, laidLooks := .later }
def FnExactBankTextUptoCardSaid : Prop := Claim7.holds Tryd.pinned (.plain (OpenSpec.upto fnExactBankTextSpec)) fnExactBankTextUptoCard

/-- THE SECOND FORM's CARD OF 'laws.FnExactBOpText'. -/
def fnExactBOpTextUptoCard : Claim7 := { stood := { row := fnExactBOpTextUptoRow, standIns := [], harness := (true, "04819dcc7ec44f63740adf471a29234d81961cc3309a3bd6178b3b761d485a19"), looks := false }, kinds := [], alts := [], laidByText := true, laidKinds := [.data, .data, .data], laidTests := true, laidLooks := .later }
def FnExactBOpTextUptoCardSaid : Prop := Claim7.holds Tryd.pinned (.plain (OpenSpec.upto fnExactBOpTextSpec)) fnExactBOpTextUptoCard
end Rows
end Go.Proofs.YtodbcdclglaniaaDoor
