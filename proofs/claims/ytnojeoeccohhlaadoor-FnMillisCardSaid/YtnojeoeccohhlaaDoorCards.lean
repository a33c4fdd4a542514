/-
  DERIVED. GIVEN WITH THE SEED: THE CARDS: each row of YtnojeoeccohhlaaDoorRows.lean that lists a variable, with what it lists TIED to the program's text (the seventh form; the later family's looks); each row that meets fmt, with fmt's text TOLD by the authors' own Lean function (tested against real Go, not proved from fmt's source: count such statements apart). THE CARD IS WHAT COUNTS. Prove the row's statement (the work); the ties are given (YtnojeoeccohhlaaDoorTie.lean); close each card by the builder's one call (the guide's Derived/Test/ToyasCard.lean, 'card_holds'). Laid BY PROGRAM, IN A SANDBOX (cutbox-door.mjs). By AI agents, Wed Nov 11 2026. No macro, syntax, notation, axiom, sorry.
-/
import Derived.Test.YtnojeoeccohhlaaDoorRows
import GoSem.ClaimSeven
namespace Go.Proofs.YtnojeoeccohhlaaDoor
namespace Rows

/-- THE TIED CARD OF 'laws.FnMillis'. -/
def fnMillisCard : Claim7 := { stood := { row := fnMillisRow, standIns := [], harness := (true, "50b2f45a1abb0ac44c8a359ae97be173711ac2d1d23f25d7108a8f8286d2ac0b"), looks := true }, kinds := [], alts := [], laidByText := true, laidKinds := [.data, .data, .data, .data, .sentinel, .sentinel, .pinned], laidTests := true, laidLooks := .later }
def FnMillisCardSaid : Prop := Claim7.holds Tryd.pinned (.plain (OpenSpec.ofChange fnMillisSpec)) fnMillisCard

/-- THE TIED CARD OF 'laws.FnExactMilliText'. -/
def fnExactMilliTextCard : Claim7 := { stood := { row := fnExactMilliTextRow, standIns := [], harness := (true, "50b2f45a1abb0ac44c8a359ae97be173711ac2d1d23f25d7108a8f8286d2ac0b"), looks := true }, kinds := [], alts := [], laidByText := true, laidKinds := [.data, .data, .data, .data, .pinned], laidTests := true, laidLooks := .later }
def FnExactMilliTextCardSaid : Prop := Claim7.holds Tryd.pinned (.plain (OpenSpec.ofChange fnExactMilliTextSpec)) fnExactMilliTextCard

/-- THE TIED CARD OF 'laws.FnExactParseMilli'. -/
def fnExactParseMilliCard : Claim7 := { stood := { row := fnExactParseMilliRow, standIns := [], harness := (true, "50b2f45a1abb0ac44c8a359ae97be173711ac2d1d23f25d7108a8f8286d2ac0b"), looks := true }, kinds := [], alts := [], laidByText := true, laidKinds := [.data, .data, .data, .data, .sentinel, .sentinel, .pinned], laidTests := true, laidLooks := .later }
def FnExactParseMilliCardSaid : Prop := Claim7.holds Tryd.pinned (.plain (OpenSpec.ofChange fnExactParseMilliSpec)) fnExactParseMilliCard

/-- THE SECOND FORM's CARD OF 'laws.FnMillis'. -/
def fnMillisUptoCard : Claim7 := { stood := { row := fnMillisUptoRow, standIns := [], harness := (true, "50b2f45a1abb0ac44c8a359ae97be173711ac2d1d23f25d7108a8f8286d2ac0b"), looks := true }, kinds := [], alts := [], laidByText := true, laidKinds := [.data, .data, .data, .data, .sentinel, .sentinel, .pinned], laidTests := true, laidLooks := .later }
def FnMillisUptoCardSaid : Prop := Claim7.holds Tryd.pinned (.plain (OpenSpec.upto fnMillisSpec)) fnMillisUptoCard

/-- THE SECOND FORM's CARD OF 'laws.FnExactMilliText'. -/
def fnExactMilliTextUptoCard : Claim7 := { stood := { row := fnExactMilliTextUptoRow, standIns := [], harness := (true, "50b2f45a1abb0ac44c8a359ae97be173711ac2d1d23f25d7108a8f8286d2ac0b"), looks := true }, kinds := [], alts := [], laidByText := true, laidKinds := [.data, .data, .data, .data, .pinned], laidTests := true, laidLooks := .later }
def FnExactMilliTextUptoCardSaid : Prop := Claim7.holds Tryd.pinned (.plain (OpenSpec.upto fnExactMilliTextSpec)) fnExactMilliTextUptoCard

/-- THE SECOND FORM's CARD OF 'laws.FnExactParseMilli'. -/
def fnExactParseMilliUptoCard : Claim7 := { stood := { row := fnExactParseMilliUptoRow, standIns := [], harness := (true, "50b2f45a1abb0ac44c8a359ae97be173711ac2d1d23f25d7108a8f8286d2ac0b"), looks := true }, kinds := [], alts := [], laidByText := true, laidKinds := [.data, .data, .data, .data, .sentinel, .sentinel, .pinned], laidTests := true, laidLooks := .later }
def FnExactParseMilliUptoCardSaid : Prop := Claim7.holds Tryd.pinned (.plain (OpenSpec.upto fnExactParseMilliSpec)) fnExactParseMilliUptoCard
end Rows
end Go.Proofs.YtnojeoeccohhlaaDoor
