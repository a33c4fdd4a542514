/- The program's logOk at notes and at moves. -/
import Derived.Test.YtcjjdnfikccnmabBhI
import Derived.BigQuiet
import Derived.BigFrame
namespace Go.Proofs.Ytcjjdnfikccnmab.LogI
open Go.RowKit Go.Sort Go.BigFrame
open Go.Proofs.Ytcjjdnfikccnmab.C1
open Go.Proofs.Ytcjjdnfikccnmab.C2
open Go.Proofs.Ytcjjdnfikccnmab.Smps
open Go.Proofs.Ytcjjdnfikccnmab.Mem
open Go.Proofs.Ytcjjdnfikccnmab.Ser
open Go.Proofs.Ytcjjdnfikccnmab.Pl (one_read two_read)
open Go.Proofs.Ytcjjdnfikccnmab.BhM
open Go.Proofs.Ytcjjdnfikccnmab.BhI
set_option linter.unusedVariables false


/-! ### Notes. -/
/-! ### Moves. -/
end Go.Proofs.Ytcjjdnfikccnmab.LogI
