/-
  DERIVED. GIVEN WITH THE SEED: THE CARDS: each row of YtimpajhgplkpmabDoorRows.lean that lists a variable, with what it lists TIED to the program's text (the seventh form; the later family's looks); each row that meets fmt, with fmt's text TOLD by the authors' own Lean function (tested against real Go, not proved from fmt's source: count such statements apart). THE CARD IS WHAT COUNTS. Prove the row's statement (the work); the ties are given (YtimpajhgplkpmabDoorTie.lean); close each card by the builder's one call (the guide's Derived/Test/ToyasCard.lean, 'card_holds'). Laid BY PROGRAM, IN A SANDBOX (cutbox-door.mjs). By AI agents, Wed Nov 11 2026. No macro, syntax, notation, axiom, sorry.
-/
import Derived.Test.YtimpajhgplkpmabDoorRows
import GoSem.ClaimSeven
namespace Go.Proofs.YtimpajhgplkpmabDoor
namespace Rows

/-- THE TIED CARD OF 'laws.FnExactUsageText'. -/
def fnExactUsageTextCard : Claim7 := { stood := { row := fnExactUsageTextRow, standIns := [], harness := (true, "dcddbf7c971c9196f84c5032619af05d0dfdc3685190eda711ac380610b54028"), looks := true }, kinds := [], alts := [], laidByText := true, laidKinds := [.data, .data, .data, .data, .pinned], laidTests := true, laidLooks := .later }
def FnExactUsageTextCardSaid : Prop := Claim7.holds Tryd.pinned (.plain (OpenSpec.ofChange fnExactUsageTextSpec)) fnExactUsageTextCard

/-- THE TIED CARD OF 'laws.FnExactGoalLine'. -/
def fnExactGoalLineCard : Claim7 := { stood := { row := fnExactGoalLineRow, standIns := [], harness := (true, "dcddbf7c971c9196f84c5032619af05d0dfdc3685190eda711ac380610b54028"), looks := true }, kinds := [], alts := [], laidByText := true, laidKinds := [.data, .data, .data, .data, .pinned], laidTests := true, laidLooks := .later }
def FnExactGoalLineCardSaid : Prop := Claim7.holds Tryd.pinned (.plain (OpenSpec.ofChange fnExactGoalLineSpec)) fnExactGoalLineCard

/-- THE TIED CARD OF 'laws.FnExactParseGoal'. -/
def fnExactParseGoalCard : Claim7 := { stood := { row := fnExactParseGoalRow, standIns := [], harness := (true, "dcddbf7c971c9196f84c5032619af05d0dfdc3685190eda711ac380610b54028"), looks := true }, kinds := [], alts := [], laidByText := true, laidKinds := [.data, .data, .data, .data, .sentinel, .sentinel, .pinned], laidTests := true, laidLooks := .later }
def FnExactParseGoalCardSaid : Prop := Claim7.holds Tryd.pinned (.plain (OpenSpec.ofChange fnExactParseGoalSpec)) fnExactParseGoalCard

/-- THE SECOND FORM's CARD OF 'laws.FnExactUsageText'. -/
def fnExactUsageTextUptoCard : Claim7 := { stood := { row := fnExactUsageTextUptoRow, standIns := [], harness := (true, "dcddbf7c971c9196f84c5032619af05d0dfdc3685190eda711ac380610b54028"), looks := true }, kinds := [], alts := [], laidByText := true, laidKinds := [.data, .data, .data, .data, .pinned], laidTests := true, laidLooks := .later }
def FnExactUsageTextUptoCardSaid : Prop := Claim7.holds Tryd.pinned (.plain (OpenSpec.upto fnExactUsageTextSpec)) fnExactUsageTextUptoCard

/-- THE SECOND FORM's CARD OF 'laws.FnExactGoalLine'. -/
def fnExactGoalLineUptoCard : Claim7 := { stood := { row := fnExactGoalLineUptoRow, standIns := [], harness := (true, "dcddbf7c971c9196f84c5032619af05d0dfdc3685190eda711ac380610b54028"), looks := true }, kinds := [], alts := [], laidByText := true, laidKinds := [.data, .data, .data, .data, .pinned], laidTests := true, laidLooks := .later }
def FnExactGoalLineUptoCardSaid : Prop := Claim7.holds Tryd.pinned (.plain (OpenSpec.upto fnExactGoalLineSpec)) fnExactGoalLineUptoCard

/-- THE SECOND FORM's CARD OF 'laws.FnExactParseGoal'. -/
def fnExactParseGoalUptoCard : Claim7 := { stood := { row := fnExactParseGoalUptoRow, standIns := [], harness := (true, "dcddbf7c971c9196f84c5032619af05d0dfdc3685190eda711ac380610b54028"), looks := true }, kinds := [], alts := [], laidByText := true, laidKinds := [.data, .data, .data, .data, .sentinel, .sentinel, .pinned], laidTests := true, laidLooks := .later }
def FnExactParseGoalUptoCardSaid : Prop := Claim7.holds Tryd.pinned (.plain (OpenSpec.upto fnExactParseGoalSpec)) fnExactParseGoalUptoCard
end Rows
end Go.Proofs.YtimpajhgplkpmabDoor
