/- The tactic for drawn regions, imported. -/
import Derived.Test.YtimpajhgplkpmabDoorC1
import Derived.Deep.RegionHeld3
namespace Go.Proofs.YtimpajhgplkpmabDoor.RH
theorem here : True := trivial
end Go.Proofs.YtimpajhgplkpmabDoor.RH
