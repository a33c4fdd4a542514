/- Slices of moves (rows of two integers, as points lie): sizes, copies, comparisons of equals. -/
import Derived.Test.YtcjjdnfikccnmabSer2
namespace Go.Proofs.Ytcjjdnfikccnmab.Mv
open Go.RowKit Go.Deep
open Go.ChangeShapes Go.WideShapes
open Go.Proofs.Ytcjjdnfikccnmab.C1
open Go.Proofs.Ytcjjdnfikccnmab.C2
open Go.Proofs.Ytcjjdnfikccnmab.Smps
open Go.Proofs.Ytcjjdnfikccnmab.Mem
open Go.Proofs.Ytcjjdnfikccnmab.Ser
open Go.Proofs.Ytcjjdnfikccnmab.Ser2 (encP_len zeroP take_set fill_len gf_set2 Off off_lt at2_grown)
set_option linter.unusedVariables false

end Go.Proofs.Ytcjjdnfikccnmab.Mv
