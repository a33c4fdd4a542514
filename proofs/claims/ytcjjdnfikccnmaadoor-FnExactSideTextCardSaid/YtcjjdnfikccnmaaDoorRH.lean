/- The tactic for drawn regions, imported. -/
import Derived.Test.YtcjjdnfikccnmaaDoorC1
import Derived.Deep.RegionHeld3
namespace Go.Proofs.YtcjjdnfikccnmaaDoor.RH
theorem here : True := trivial
end Go.Proofs.YtcjjdnfikccnmaaDoor.RH
