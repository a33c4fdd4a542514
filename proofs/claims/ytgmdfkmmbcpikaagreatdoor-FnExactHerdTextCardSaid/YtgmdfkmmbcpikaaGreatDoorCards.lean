/-
  DERIVED. GIVEN WITH THE SEED: THE CARDS: each row of YtgmdfkmmbcpikaaGreatDoorRows.lean that lists a variable, with what it lists TIED to the program's text (the seventh form; the later family's looks); each row that meets fmt, with fmt's text TOLD by the authors' own Lean function (tested against real Go, not proved from fmt's source: count such statements apart). THE CARD IS WHAT COUNTS. Prove the row's statement (the work); the ties are given (YtgmdfkmmbcpikaaGreatDoorTie.lean); close each card by the builder's one call (the guide's Derived/Test/ToyasCard.lean, 'card_holds'). Laid BY PROGRAM, IN A SANDBOX (cutbox-door.mjs). By AI agents, Wed Nov 11 2026. No macro, syntax, notation, axiom, sorry.
-/
import Derived.Test.YtgmdfkmmbcpikaaGreatDoorRows
import GoSem.ClaimSeven
namespace Go.Proofs.YtgmdfkmmbcpikaaGreatDoor
namespace Rows

/-- THE TIED CARD OF 'laws.FnExactHerdText'. -/
def fnExactHerdTextCard : Claim7 := { stood := { row := fnExactHerdTextRow, standIns := [], harness := (true, "ad4aae7b971fc465d61b193e1a3454d025927c0a2375bf512b71b18d3c8b7db7"), looks := true }, kinds := [], alts := [], laidByText := true, laidKinds := [.data, .data, .data, .data], laidTests := true, laidLooks := .later }
def FnExactHerdTextCardSaid : Prop := Claim7.holds Tryz.pinned (.plain (OpenSpec.ofChange fnExactHerdTextSpec)) fnExactHerdTextCard

/-- THE TIED CARD OF 'laws.FnExactSetupText'. -/
def fnExactSetupTextCard : Claim7 := { stood := { row := fnExactSetupTextRow, standIns := [], harness := (true, "ad4aae7b971fc465d61b193e1a3454d025927c0a2375bf512b71b18d3c8b7db7"), looks := true }, kinds := [], alts := [], laidByText := true, laidKinds := [.data, .data, .data, .data, .sentinel, .pinned], laidTests := true, laidLooks := .later }
def FnExactSetupTextCardSaid : Prop := Claim7.holds Tryz.pinned (.plain (OpenSpec.ofChange fnExactSetupTextSpec)) fnExactSetupTextCard

/-- THE TIED CARD OF 'laws.FnExactParseSetup'. -/
def fnExactParseSetupCard : Claim7 := { stood := { row := fnExactParseSetupRow, standIns := [], harness := (true, "ad4aae7b971fc465d61b193e1a3454d025927c0a2375bf512b71b18d3c8b7db7"), looks := true }, kinds := [], alts := [], laidByText := true, laidKinds := [.data, .data, .data, .data, .sentinel, .sentinel, .sentinel, .pinned], laidTests := true, laidLooks := .later }
def FnExactParseSetupCardSaid : Prop := Claim7.holds Tryz.pinned (.plain (OpenSpec.ofChange fnExactParseSetupSpec)) fnExactParseSetupCard

/-- THE TIED CARD OF 'laws.FnSetups'. -/
def fnSetupsCard : Claim7 := { stood := { row := fnSetupsRow, standIns := [], harness := (true, "ad4aae7b971fc465d61b193e1a3454d025927c0a2375bf512b71b18d3c8b7db7"), looks := true }, kinds := [], alts := [], laidByText := true, laidKinds := [.data, .data, .data, .data, .sentinel, .sentinel, .sentinel, .pinned], laidTests := true, laidLooks := .later }
def FnSetupsCardSaid : Prop := Claim7.holds Tryz.pinned (.plain (OpenSpec.ofChange fnSetupsSpec)) fnSetupsCard

/-- THE SECOND FORM's CARD OF 'laws.FnExactHerdText'. -/
def fnExactHerdTextUptoCard : Claim7 := { stood := { row := fnExactHerdTextUptoRow, standIns := [], harness := (true, "ad4aae7b971fc465d61b193e1a3454d025927c0a2375bf512b71b18d3c8b7db7"), looks := true }, kinds := [], alts := [], laidByText := true, laidKinds := [.data, .data, .data, .data], laidTests := true, laidLooks := .later }
def FnExactHerdTextUptoCardSaid : Prop := Claim7.holds Tryz.pinned (.plain (OpenSpec.upto fnExactHerdTextSpec)) fnExactHerdTextUptoCard

/-- THE SECOND FORM's CARD OF 'laws.FnExactSetupText'. -/
def fnExactSetupTextUptoCard : Claim7 := { stood := { row := fnExactSetupTextUptoRow, standIns := [], harness := (true, "ad4aae7b971fc465d61b193e1a3454d025927c0a2375bf512b71b18d3c8b7db7"), looks := true }, kinds := [], alts := [], laidByText := true, laidKinds := [.data, .data, .data, .data, .sentinel, .pinned], laidTests := true, laidLooks := .later }
def FnExactSetupTextUptoCardSaid : Prop := Claim7.holds Tryz.pinned (.plain (OpenSpec.upto fnExactSetupTextSpec)) fnExactSetupTextUptoCard

/-- THE SECOND FORM's CARD OF 'laws.FnExactParseSetup'. -/
def fnExactParseSetupUptoCard : Claim7 := { stood := { row := fnExactParseSetupUptoRow, standIns := [], harness := (true, "ad4aae7b971fc465d61b193e1a3454d025927c0a2375bf512b71b18d3c8b7db7"), looks := true }, kinds := [], alts := [], laidByText := true, laidKinds := [.data, .data, .data, .data, .sentinel, .sentinel, .sentinel, .pinned], laidTests := true, laidLooks := .later }
def FnExactParseSetupUptoCardSaid : Prop := Claim7.holds Tryz.pinned (.plain (OpenSpec.upto fnExactParseSetupSpec)) fnExactParseSetupUptoCard

/-- THE SECOND FORM's CARD OF 'laws.FnSetups'. -/
def fnSetupsUptoCard : Claim7 := { stood := { row := fnSetupsUptoRow, standIns := [], harness := (true, "ad4aae7b971fc465d61b193e1a3454d025927c0a2375bf512b71b18d3c8b7db7"), looks := true }, kinds := [], alts := [], laidByText := true, laidKinds := [.data, .data, .data, .data, .sentinel, .sentinel, .sentinel, .pinned], laidTests := true, laidLooks := .later }
def FnSetupsUptoCardSaid : Prop := Claim7.holds Tryz.pinned (.plain (OpenSpec.upto fnSetupsSpec)) fnSetupsUptoCard
end Rows
end Go.Proofs.YtgmdfkmmbcpikaaGreatDoor
