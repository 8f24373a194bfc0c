/-
  DERIVED. GIVEN WITH THE SEED: THE CARDS: each row of YtjdpaednagingaaDoorRows.lean that lists a variable, with what it lists TIED to the program's text (the seventh form; the later family's looks); each row that meets fmt, with fmt's text TOLD by the authors' own Lean function (tested against real Go, not proved from fmt's source: count such statements apart). THE CARD IS WHAT COUNTS. Prove the row's statement (the work); the ties are given (YtjdpaednagingaaDoorTie.lean); close each card by the builder's one call (the guide's Derived/Test/ToyasCard.lean, 'card_holds'). Laid BY PROGRAM, IN A SANDBOX (cutbox-door.mjs). By AI agents, Wed Nov 11 2026. No macro, syntax, notation, axiom, sorry.
-/
import Derived.Test.YtjdpaednagingaaDoorRows
import GoSem.ClaimSeven
namespace Go.Proofs.YtjdpaednagingaaDoor
namespace Rows

/-- THE TIED CARD OF 'laws.FnExactDateOk'. -/
def fnExactDateOkCard : Claim7 := { stood := { row := fnExactDateOkRow, standIns := [], harness := (true, "b03dbe8046ae98e08c0c1d4bb5a9d0868e1aa82f40a2e6b5bd17fae972ce5261"), looks := false }, kinds := [], alts := [], laidByText := true, laidKinds := [.data], laidTests := true, laidLooks := .later }
def FnExactDateOkCardSaid : Prop := Claim7.holds Tryd.pinned (.plain (OpenSpec.ofChange fnExactDateOkSpec)) fnExactDateOkCard

/-- THE TIED CARD OF 'laws.FnExactDayOf'. -/
def fnExactDayOfCard : Claim7 := { stood := { row := fnExactDayOfRow, standIns := [], harness := (true, "b03dbe8046ae98e08c0c1d4bb5a9d0868e1aa82f40a2e6b5bd17fae972ce5261"), looks := false }, kinds := [], alts := [], laidByText := true, laidKinds := [.data], laidTests := true, laidLooks := .later }
def FnExactDayOfCardSaid : Prop := Claim7.holds Tryd.pinned (.plain (OpenSpec.ofChange fnExactDayOfSpec)) fnExactDayOfCard

/-- THE TIED CARD OF 'laws.FnExactDateOf'. -/
def fnExactDateOfCard : Claim7 := { stood := { row := fnExactDateOfRow, standIns := [], harness := (true, "b03dbe8046ae98e08c0c1d4bb5a9d0868e1aa82f40a2e6b5bd17fae972ce5261"), looks := false }, kinds := [], alts := [], laidByText := true, laidKinds := [.data], laidTests := true, laidLooks := .later }
def FnExactDateOfCardSaid : Prop := Claim7.holds Tryd.pinned (.plain (OpenSpec.ofChange fnExactDateOfSpec)) fnExactDateOfCard

/-- THE TIED CARD OF 'laws.FnExactMonthEnd'. -/
def fnExactMonthEndCard : Claim7 := { stood := { row := fnExactMonthEndRow, standIns := [], harness := (true, "b03dbe8046ae98e08c0c1d4bb5a9d0868e1aa82f40a2e6b5bd17fae972ce5261"), looks := false }, kinds := [], alts := [], laidByText := true, laidKinds := [.data], laidTests := true, laidLooks := .later }
def FnExactMonthEndCardSaid : Prop := Claim7.holds Tryd.pinned (.plain (OpenSpec.ofChange fnExactMonthEndSpec)) fnExactMonthEndCard

/-- THE TIED CARD OF 'laws.FnDays'. -/
def fnDaysCard : Claim7 := { stood := { row := fnDaysRow, standIns := [], harness := (true, "b03dbe8046ae98e08c0c1d4bb5a9d0868e1aa82f40a2e6b5bd17fae972ce5261"), looks := false }, kinds := [], alts := [], laidByText := true, laidKinds := [.data], laidTests := true, laidLooks := .later }
def FnDaysCardSaid : Prop := Claim7.holds Tryd.pinned (.plain (OpenSpec.ofChange fnDaysSpec)) fnDaysCard

/-- THE SECOND FORM's CARD OF 'laws.FnExactDateOk'. -/
def fnExactDateOkUptoCard : Claim7 := { stood := { row := fnExactDateOkUptoRow, standIns := [], harness := (true, "b03dbe8046ae98e08c0c1d4bb5a9d0868e1aa82f40a2e6b5bd17fae972ce5261"), looks := false }, kinds := [], alts := [], laidByText := true, laidKinds := [.data], laidTests := true, laidLooks := .later }
def FnExactDateOkUptoCardSaid : Prop := Claim7.holds Tryd.pinned (.plain (OpenSpec.upto fnExactDateOkSpec)) fnExactDateOkUptoCard

/-- THE SECOND FORM's CARD OF 'laws.FnExactDayOf'. -/
def fnExactDayOfUptoCard : Claim7 := { stood := { row := fnExactDayOfUptoRow, standIns := [], harness := (true, "b03dbe8046ae98e08c0c1d4bb5a9d0868e1aa82f40a2e6b5bd17fae972ce5261"), looks := false }, kinds := [], alts := [], laidByText := true, laidKinds := [.data], laidTests := true, laidLooks := .later }
def FnExactDayOfUptoCardSaid : Prop := Claim7.holds Tryd.pinned (.plain (OpenSpec.upto fnExactDayOfSpec)) fnExactDayOfUptoCard

/-- THE SECOND FORM's CARD OF 'laws.FnExactDateOf'. -/
def fnExactDateOfUptoCard : Claim7 := { stood := { row := fnExactDateOfUptoRow, standIns := [], harness := (true, "b03dbe8046ae98e08c0c1d4bb5a9d0868e1aa82f40a2e6b5bd17fae972ce5261"), looks := false }, kinds := [], alts := [], laidByText := true, laidKinds := [.data], laidTests := true, laidLooks := .later }
def FnExactDateOfUptoCardSaid : Prop := Claim7.holds Tryd.pinned (.plain (OpenSpec.upto fnExactDateOfSpec)) fnExactDateOfUptoCard

/-- THE SECOND FORM's CARD OF 'laws.FnExactMonthEnd'. -/
def fnExactMonthEndUptoCard : Claim7 := { stood := { row := fnExactMonthEndUptoRow, standIns := [], harness := (true, "b03dbe8046ae98e08c0c1d4bb5a9d0868e1aa82f40a2e6b5bd17fae972ce5261"), looks := false }, kinds := [], alts := [], laidByText := true, laidKinds := [.data], laidTests := true, laidLooks := .later }
def FnExactMonthEndUptoCardSaid : Prop := Claim7.holds Tryd.pinned (.plain (OpenSpec.upto fnExactMonthEndSpec)) fnExactMonthEndUptoCard

/-- THE SECOND FORM's CARD OF 'laws.FnDays'. -/
def fnDaysUptoCard : Claim7 := { stood := { row := fnDaysUptoRow, standIns := [], harness := (true, "b03dbe8046ae98e08c0c1d4bb5a9d0868e1aa82f40a2e6b5bd17fae972ce5261"), looks := false }, kinds := [], alts := [], laidByText := true, laidKinds := [.data], laidTests := true, laidLooks := .later }
def FnDaysUptoCardSaid : Prop := Claim7.holds Tryd.pinned (.plain (OpenSpec.upto fnDaysSpec)) fnDaysUptoCard
end Rows
end Go.Proofs.YtjdpaednagingaaDoor
