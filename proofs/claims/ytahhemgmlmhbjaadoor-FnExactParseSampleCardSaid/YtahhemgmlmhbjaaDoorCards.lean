/-
  DERIVED. GIVEN WITH THE SEED: THE CARDS: each row of YtahhemgmlmhbjaaDoorRows.lean that lists a variable, with what it lists TIED to the program's text (the seventh form; the later family's looks); each row that meets fmt, with fmt's text TOLD by the authors' own Lean function (tested against real Go, not proved from fmt's source: count such statements apart). THE CARD IS WHAT COUNTS. Prove the row's statement (the work); the ties are given (YtahhemgmlmhbjaaDoorTie.lean); close each card by the builder's one call (the guide's Derived/Test/ToyasCard.lean, 'card_holds'). Laid BY PROGRAM, IN A SANDBOX (cutbox-door.mjs). By AI agents, Wed Nov 11 2026. No macro, syntax, notation, axiom, sorry.
-/
import Derived.Test.YtahhemgmlmhbjaaDoorRows
import GoSem.ClaimSeven
namespace Go.Proofs.YtahhemgmlmhbjaaDoor
namespace Rows

/-- THE TIED CARD OF 'laws.FnExactSampleLine'. -/
def fnExactSampleLineCard : Claim7 := { stood := { row := fnExactSampleLineRow, standIns := [], harness := (true, "64ff3e184697b44572a30a043b926e0feae938832c02b2173a466bbd0dca1149"), looks := true }, kinds := [], alts := [], laidByText := true, laidKinds := [.data, .data, .data, .data, .pinned], laidTests := true, laidLooks := .later }
def FnExactSampleLineCardSaid : Prop := Claim7.holds Tryd.pinned (.plain (OpenSpec.ofChange fnExactSampleLineSpec)) fnExactSampleLineCard

/-- THE TIED CARD OF 'laws.FnExactParseSample'. -/
def fnExactParseSampleCard : Claim7 := { stood := { row := fnExactParseSampleRow, standIns := [], harness := (true, "64ff3e184697b44572a30a043b926e0feae938832c02b2173a466bbd0dca1149"), looks := true }, kinds := [], alts := [], laidByText := true, laidKinds := [.data, .data, .data, .data, .sentinel, .sentinel, .pinned], laidTests := true, laidLooks := .later }
def FnExactParseSampleCardSaid : Prop := Claim7.holds Tryd.pinned (.plain (OpenSpec.ofChange fnExactParseSampleSpec)) fnExactParseSampleCard

/-- THE TIED CARD OF 'laws.FnExactPrintScrape'. -/
def fnExactPrintScrapeCard : Claim7 := { stood := { row := fnExactPrintScrapeRow, standIns := [], harness := (true, "64ff3e184697b44572a30a043b926e0feae938832c02b2173a466bbd0dca1149"), looks := true }, kinds := [], alts := [], laidByText := true, laidKinds := [.data, .data, .data, .data, .pinned], laidTests := true, laidLooks := .later }
def FnExactPrintScrapeCardSaid : Prop := Claim7.holds Tryd.pinned (.plain (OpenSpec.ofChange fnExactPrintScrapeSpec)) fnExactPrintScrapeCard

/-- THE SECOND FORM's CARD OF 'laws.FnExactSampleLine'. -/
def fnExactSampleLineUptoCard : Claim7 := { stood := { row := fnExactSampleLineUptoRow, standIns := [], harness := (true, "64ff3e184697b44572a30a043b926e0feae938832c02b2173a466bbd0dca1149"), looks := true }, kinds := [], alts := [], laidByText := true, laidKinds := [.data, .data, .data, .data, .pinned], laidTests := true, laidLooks := .later }
def FnExactSampleLineUptoCardSaid : Prop := Claim7.holds Tryd.pinned (.plain (OpenSpec.upto fnExactSampleLineSpec)) fnExactSampleLineUptoCard

/-- THE SECOND FORM's CARD OF 'laws.FnExactParseSample'. -/
def fnExactParseSampleUptoCard : Claim7 := { stood := { row := fnExactParseSampleUptoRow, standIns := [], harness := (true, "64ff3e184697b44572a30a043b926e0feae938832c02b2173a466bbd0dca1149"), looks := true }, kinds := [], alts := [], laidByText := true, laidKinds := [.data, .data, .data, .data, .sentinel, .sentinel, .pinned], laidTests := true, laidLooks := .later }
def FnExactParseSampleUptoCardSaid : Prop := Claim7.holds Tryd.pinned (.plain (OpenSpec.upto fnExactParseSampleSpec)) fnExactParseSampleUptoCard

/-- THE SECOND FORM's CARD OF 'laws.FnExactPrintScrape'. -/
def fnExactPrintScrapeUptoCard : Claim7 := { stood := { row := fnExactPrintScrapeUptoRow, standIns := [], harness := (true, "64ff3e184697b44572a30a043b926e0feae938832c02b2173a466bbd0dca1149"), looks := true }, kinds := [], alts := [], laidByText := true, laidKinds := [.data, .data, .data, .data, .pinned], laidTests := true, laidLooks := .later }
def FnExactPrintScrapeUptoCardSaid : Prop := Claim7.holds Tryd.pinned (.plain (OpenSpec.upto fnExactPrintScrapeSpec)) fnExactPrintScrapeUptoCard
end Rows
end Go.Proofs.YtahhemgmlmhbjaaDoor
