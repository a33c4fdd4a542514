/- The tactic for drawn regions, imported. -/
import Derived.Test.YtgmdfkmmbcpikaaGreatDoorC1
import Derived.Deep.RegionHeld3
namespace Go.Proofs.YtgmdfkmmbcpikaaGreatDoor.RH
theorem here : True := trivial
end Go.Proofs.YtgmdfkmmbcpikaaGreatDoor.RH
