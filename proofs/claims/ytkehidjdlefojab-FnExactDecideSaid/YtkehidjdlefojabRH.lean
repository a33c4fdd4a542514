/- The tactic for drawn regions, imported. -/
import Derived.Test.YtkehidjdlefojabC1
import Derived.Deep.RegionHeld3
namespace Go.Proofs.Ytkehidjdlefojab.RH
theorem here : True := trivial
end Go.Proofs.Ytkehidjdlefojab.RH
