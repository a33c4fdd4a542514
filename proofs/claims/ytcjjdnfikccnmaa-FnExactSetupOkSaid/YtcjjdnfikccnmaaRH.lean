/- The tactic for drawn regions, imported. -/
import Derived.Test.YtcjjdnfikccnmaaC1
import Derived.Deep.RegionHeld3
namespace Go.Proofs.Ytcjjdnfikccnmaa.RH
theorem here : True := trivial
end Go.Proofs.Ytcjjdnfikccnmaa.RH
