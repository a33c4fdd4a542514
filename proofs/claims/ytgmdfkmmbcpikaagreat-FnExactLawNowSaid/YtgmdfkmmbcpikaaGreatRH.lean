/- The tactic for drawn regions, imported. -/
import Derived.Test.YtgmdfkmmbcpikaaGreatC1
import Derived.Deep.RegionHeld3
namespace Go.Proofs.YtgmdfkmmbcpikaaGreat.RH
theorem here : True := trivial
end Go.Proofs.YtgmdfkmmbcpikaaGreat.RH
