/- The tactic for drawn regions, imported. -/
import Derived.Test.YtcjjdnfikccnmabC1
import Derived.Deep.RegionHeld3
namespace Go.Proofs.Ytcjjdnfikccnmab.RH
theorem here : True := trivial
end Go.Proofs.Ytcjjdnfikccnmab.RH
