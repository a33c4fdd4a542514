/- The tactic for drawn regions, imported. -/
import Derived.Test.YtimpajhgplkpmaaC1
import Derived.Deep.RegionHeld3
namespace Go.Proofs.Ytimpajhgplkpmaa.RH
theorem here : True := trivial
end Go.Proofs.Ytimpajhgplkpmaa.RH
