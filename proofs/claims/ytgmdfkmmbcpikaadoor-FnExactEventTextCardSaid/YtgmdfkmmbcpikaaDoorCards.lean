/-
  DERIVED. GIVEN WITH THE SEED: THE CARDS: each row of YtgmdfkmmbcpikaaDoorRows.lean that lists a variable, with what it lists TIED to the program's text (the seventh form; the later family's looks); each row that meets fmt, with fmt's text TOLD by the authors' own Lean function (tested against real Go, not proved from fmt's source: count such statements apart). THE CARD IS WHAT COUNTS. Prove the row's statement (the work); the ties are given (YtgmdfkmmbcpikaaDoorTie.lean); close each card by the builder's one call (the guide's Derived/Test/ToyasCard.lean, 'card_holds'). Laid BY PROGRAM, IN A SANDBOX (cutbox-door.mjs). By AI agents, Wed Nov 11 2026. No macro, syntax, notation, axiom, sorry.
-/
import Derived.Test.YtgmdfkmmbcpikaaDoorRows
import GoSem.ClaimSeven
namespace Go.Proofs.YtgmdfkmmbcpikaaDoor
namespace Rows

/-- THE TIED CARD OF 'laws.FnExactCondName'. -/
def fnExactCondNameCard : Claim7 := { stood := { row := fnExactCondNameRow, standIns := [], harness := (true, "863d2f2a783f1e2fba7f259103fdcbe74f4a25f269eee686c82ef6ac967b1ab6"), looks := true }, kinds := [], alts := [], laidByText := true, laidKinds := [.data], laidTests := true, laidLooks := .later }
def FnExactCondNameCardSaid : Prop := Claim7.holds Tryd.pinned (.plain (OpenSpec.ofChange fnExactCondNameSpec)) fnExactCondNameCard

/-- THE TIED CARD OF 'laws.FnExactEventText'. -/
def fnExactEventTextCard : Claim7 := { stood := { row := fnExactEventTextRow, standIns := [], harness := (true, "863d2f2a783f1e2fba7f259103fdcbe74f4a25f269eee686c82ef6ac967b1ab6"), looks := true }, kinds := [], alts := [], laidByText := true, laidKinds := [.data, .data, .data], laidTests := true, laidLooks := .later }
def FnExactEventTextCardSaid : Prop := Claim7.holds Tryd.pinned (.plain (OpenSpec.ofChange fnExactEventTextSpec)) fnExactEventTextCard

/-- THE TIED CARD OF 'laws.FnExactParseSide'. -/
def fnExactParseSideCard : Claim7 := { stood := { row := fnExactParseSideRow, standIns := [], harness := (true, "863d2f2a783f1e2fba7f259103fdcbe74f4a25f269eee686c82ef6ac967b1ab6"), looks := true }, kinds := [], alts := [], laidByText := true, laidKinds := [.data, .data, .data, .sentinel, .sentinel, .sentinel], laidTests := true, laidLooks := .later }
def FnExactParseSideCardSaid : Prop := Claim7.holds Tryd.pinned (.plain (OpenSpec.ofChange fnExactParseSideSpec)) fnExactParseSideCard

/-- THE SECOND FORM's CARD OF 'laws.FnExactCondName'. -/
def fnExactCondNameUptoCard : Claim7 := { stood := { row := fnExactCondNameUptoRow, standIns := [], harness := (true, "863d2f2a783f1e2fba7f259103fdcbe74f4a25f269eee686c82ef6ac967b1ab6"), looks := true }, kinds := [], alts := [], laidByText := true, laidKinds := [.data], laidTests := true, laidLooks := .later }
def FnExactCondNameUptoCardSaid : Prop := Claim7.holds Tryd.pinned (.plain (OpenSpec.upto fnExactCondNameSpec)) fnExactCondNameUptoCard

/-- THE SECOND FORM's CARD OF 'laws.FnExactEventText'. -/
def fnExactEventTextUptoCard : Claim7 := { stood := { row := fnExactEventTextUptoRow, standIns := [], harness := (true, "863d2f2a783f1e2fba7f259103fdcbe74f4a25f269eee686c82ef6ac967b1ab6"), looks := true }, kinds := [], alts := [], laidByText := true, laidKinds := [.data, .data, .data], laidTests := true, laidLooks := .later }
def FnExactEventTextUptoCardSaid : Prop := Claim7.holds Tryd.pinned (.plain (OpenSpec.upto fnExactEventTextSpec)) fnExactEventTextUptoCard

/-- THE SECOND FORM's CARD OF 'laws.FnExactParseSide'. -/
def fnExactParseSideUptoCard : Claim7 := { stood := { row := fnExactParseSideUptoRow, standIns := [], harness := (true, "863d2f2a783f1e2fba7f259103fdcbe74f4a25f269eee686c82ef6ac967b1ab6"), looks := true }, kinds := [], alts := [], laidByText := true, laidKinds := [.data, .data, .data, .sentinel, .sentinel, .sentinel], laidTests := true, laidLooks := .later }
def FnExactParseSideUptoCardSaid : Prop := Claim7.holds Tryd.pinned (.plain (OpenSpec.upto fnExactParseSideSpec)) fnExactParseSideUptoCard
end Rows
end Go.Proofs.YtgmdfkmmbcpikaaDoor
