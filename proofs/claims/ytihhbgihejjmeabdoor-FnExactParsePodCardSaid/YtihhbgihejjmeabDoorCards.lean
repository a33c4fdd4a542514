/-
  DERIVED. GIVEN WITH THE SEED: THE CARDS: each row of YtihhbgihejjmeabDoorRows.lean that lists a variable, with what it lists TIED to the program's text (the seventh form; the later family's looks); each row that meets fmt, with fmt's text TOLD by the authors' own Lean function (tested against real Go, not proved from fmt's source: count such statements apart). THE CARD IS WHAT COUNTS. Prove the row's statement (the work); the ties are given (YtihhbgihejjmeabDoorTie.lean); close each card by the builder's one call (the guide's Derived/Test/ToyasCard.lean, 'card_holds'). Laid BY PROGRAM, IN A SANDBOX (cutbox-door.mjs). By AI agents, Wed Nov 11 2026. No macro, syntax, notation, axiom, sorry.
-/
import Derived.Test.YtihhbgihejjmeabDoorRows
import GoSem.ClaimSeven
namespace Go.Proofs.YtihhbgihejjmeabDoor
namespace Rows

/-- THE TIED CARD OF 'laws.FnExactPodLine'. -/
def fnExactPodLineCard : Claim7 := { stood := { row := fnExactPodLineRow, standIns := [], harness := (true, "4082e0ec787e1846a7afdf5cdaac683d05e7fca7c1fb3b3de4935462a57f5ac1"), looks := true }, kinds := [], alts := [], laidByText := true, laidKinds := [.data, .data, .data, .data], laidTests := true, laidLooks := .later }
def FnExactPodLineCardSaid : Prop := Claim7.holds Tryd.pinned (.plain (OpenSpec.ofChange fnExactPodLineSpec)) fnExactPodLineCard

/-- THE TIED CARD OF 'laws.FnExactParsePod'. -/
def fnExactParsePodCard : Claim7 := { stood := { row := fnExactParsePodRow, standIns := [], harness := (true, "4082e0ec787e1846a7afdf5cdaac683d05e7fca7c1fb3b3de4935462a57f5ac1"), looks := true }, kinds := [], alts := [], laidByText := true, laidKinds := [.data, .data, .data, .sentinel, .sentinel, .data], laidTests := true, laidLooks := .later }
def FnExactParsePodCardSaid : Prop := Claim7.holds Tryd.pinned (.plain (OpenSpec.ofChange fnExactParsePodSpec)) fnExactParsePodCard

/-- THE SECOND FORM's CARD OF 'laws.FnExactPodLine'. -/
def fnExactPodLineUptoCard : Claim7 := { stood := { row := fnExactPodLineUptoRow, standIns := [], harness := (true, "4082e0ec787e1846a7afdf5cdaac683d05e7fca7c1fb3b3de4935462a57f5ac1"), looks := true }, kinds := [], alts := [], laidByText := true, laidKinds := [.data, .data, .data, .data], laidTests := true, laidLooks := .later }
def FnExactPodLineUptoCardSaid : Prop := Claim7.holds Tryd.pinned (.plain (OpenSpec.upto fnExactPodLineSpec)) fnExactPodLineUptoCard

/-- THE SECOND FORM's CARD OF 'laws.FnExactParsePod'. -/
def fnExactParsePodUptoCard : Claim7 := { stood := { row := fnExactParsePodUptoRow, standIns := [], harness := (true, "4082e0ec787e1846a7afdf5cdaac683d05e7fca7c1fb3b3de4935462a57f5ac1"), looks := true }, kinds := [], alts := [], laidByText := true, laidKinds := [.data, .data, .data, .sentinel, .sentinel, .data], laidTests := true, laidLooks := .later }
def FnExactParsePodUptoCardSaid : Prop := Claim7.holds Tryd.pinned (.plain (OpenSpec.upto fnExactParsePodSpec)) fnExactParsePodUptoCard
end Rows
end Go.Proofs.YtihhbgihejjmeabDoor
