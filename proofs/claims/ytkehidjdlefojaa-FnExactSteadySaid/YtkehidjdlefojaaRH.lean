/- The tactic for drawn regions, imported. -/
import Derived.Test.YtkehidjdlefojaaC1
import Derived.Deep.RegionHeld3
namespace Go.Proofs.Ytkehidjdlefojaa.RH
theorem here : True := trivial
end Go.Proofs.Ytkehidjdlefojaa.RH
