/-
  DERIVED. GIVEN WITH THE SEED: THE CARDS: each row of YtcjjdnfikccnmaaDoorRows.lean that lists a variable, with what it lists TIED to the program's text (the seventh form; the later family's looks); each row that meets fmt, with fmt's text TOLD by the authors' own Lean function (tested against real Go, not proved from fmt's source: count such statements apart). THE CARD IS WHAT COUNTS. Prove the row's statement (the work); the ties are given (YtcjjdnfikccnmaaDoorTie.lean); close each card by the builder's one call (the guide's Derived/Test/ToyasCard.lean, 'card_holds'). Laid BY PROGRAM, IN A SANDBOX (cutbox-door.mjs). By AI agents, Wed Nov 11 2026. No macro, syntax, notation, axiom, sorry.
-/
import Derived.Test.YtcjjdnfikccnmaaDoorRows
import GoSem.ClaimSeven
namespace Go.Proofs.YtcjjdnfikccnmaaDoor
namespace Rows

/-- THE TIED CARD OF 'laws.FnExactSideText'. -/
def fnExactSideTextCard : Claim7 := { stood := { row := fnExactSideTextRow, standIns := [], harness := (true, "09b7150efd264d910b51f00deb353e566869af97c1af116196b5ce162358ac35"), looks := true }, kinds := [], alts := [], laidByText := true, laidKinds := [.data, .data, .data, .sentinel], laidTests := true, laidLooks := .later }
def FnExactSideTextCardSaid : Prop := Claim7.holds Tryd.pinned (.plain (OpenSpec.ofChange fnExactSideTextSpec)) fnExactSideTextCard

/-- THE SECOND FORM's CARD OF 'laws.FnExactSideText'. -/
def fnExactSideTextUptoCard : Claim7 := { stood := { row := fnExactSideTextUptoRow, standIns := [], harness := (true, "09b7150efd264d910b51f00deb353e566869af97c1af116196b5ce162358ac35"), looks := true }, kinds := [], alts := [], laidByText := true, laidKinds := [.data, .data, .data, .sentinel], laidTests := true, laidLooks := .later }
def FnExactSideTextUptoCardSaid : Prop := Claim7.holds Tryd.pinned (.plain (OpenSpec.upto fnExactSideTextSpec)) fnExactSideTextUptoCard
end Rows
end Go.Proofs.YtcjjdnfikccnmaaDoor
