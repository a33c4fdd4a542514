/-
  No cell of these rows narrows 'for every input' (looked for: loops, veiled, ifaces, maps, wideKeys, modest, calm, conditions, laid).
  DERIVED. THE GIVEN ROWS OF THIS SEAT. 5 by the template 'for every input the law returns true; each argument reads behind the call as it read before'; 0 by the template 'total and deterministic' (their statements: YtahhemgmlmhbjaaTotals.lean).
  GIVEN WITH THE SEED: the statements are not yours to turn. If you find one false, say at which input.
  Laid BY PROGRAM, IN A SANDBOX (cutbox-rows.mjs): the forced cells as the released guide's own fill.sh prints them over the translation 6e48d705a1edd872… (all of the seat's roots in one cut). By AI agents, Wed Nov 11 2026. No macro, syntax, notation, axiom, sorry.
-/
import Derived.Test.YtahhemgmlmhbjaaChecked
import GoSem.Claim
import GoSem.ClaimJoined
import GoSem.ClaimMapViews
import Derived.JoinedTies
import Derived.KernelRfl
namespace Go.Proofs.Ytahhemgmlmhbjaa
/- THE CELL 'sum', in the pinned program and in every row, IS THE sha256 OF THE DUMP (.gsa) THAT YtahhemgmlmhbjaaProg.lean LOADS. Nothing in Lean hashes anything: it is a label: what it is worth is what the hold of that sum in a sandbox is worth. -/
noncomputable def Try.pinned : Pinned := { name := "ytahhemgmlmhbjaa", sum := "6e48d705a1edd872c4a1be9ba5e3ac3d05a53e968ae690c4c3e7fe9a4bcc4e99", checked := Try.checked }
namespace Rows
def none {H : Type} : Left H := { results := [], args := [] }

/-- 'laws.FnExactNameOk': WHATEVER THE INPUT: true; the input reads as it did. -/
def fnExactNameOkSpec : ChangeSpec := { name := "fnExactNameOk", fn := fun _ => fun
  | [d] => { results := [.lit (.bool true)], args := [d] }
  | _ => none }
def fnExactNameOkRow : OpenClaim := { program := "ytahhemgmlmhbjaa", sum := "6e48d705a1edd872c4a1be9ba5e3ac3d05a53e968ae690c4c3e7fe9a4bcc4e99", func := "loop.example/g00808/laws.FnExactNameOk", spec := "fnExactNameOk", apart := false }
def FnExactNameOkSaid : Prop := fnExactNameOkRow.holds Try.pinned (OpenSpec.ofChange fnExactNameOkSpec)

/-- ITS FALSE NEIGHBOUR: 'it returns false'. Refute it at one input. -/
def fnExactNameOkWrong : ChangeSpec := { name := "fnExactNameOk", fn := fun _ => fun
  | [d] => { results := [.lit (.bool false)], args := [d] }
  | _ => none }
def FnExactNameOkWrongFalsely : Prop := fnExactNameOkRow.holds Try.pinned (OpenSpec.ofChange fnExactNameOkWrong)

/-- 'laws.FnExactSampleOk': WHATEVER THE INPUT: true; the input reads as it did. -/
def fnExactSampleOkSpec : ChangeSpec := { name := "fnExactSampleOk", fn := fun _ => fun
  | [d] => { results := [.lit (.bool true)], args := [d] }
  | _ => none }
def fnExactSampleOkRow : OpenClaim := { program := "ytahhemgmlmhbjaa", sum := "6e48d705a1edd872c4a1be9ba5e3ac3d05a53e968ae690c4c3e7fe9a4bcc4e99", func := "loop.example/g00808/laws.FnExactSampleOk", spec := "fnExactSampleOk", apart := false }
def FnExactSampleOkSaid : Prop := fnExactSampleOkRow.holds Try.pinned (OpenSpec.ofChange fnExactSampleOkSpec)

/-- ITS FALSE NEIGHBOUR: 'it returns false'. Refute it at one input. -/
def fnExactSampleOkWrong : ChangeSpec := { name := "fnExactSampleOk", fn := fun _ => fun
  | [d] => { results := [.lit (.bool false)], args := [d] }
  | _ => none }
def FnExactSampleOkWrongFalsely : Prop := fnExactSampleOkRow.holds Try.pinned (OpenSpec.ofChange fnExactSampleOkWrong)

/-- 'laws.FnExactSortSamples': WHATEVER THE INPUT: true; the input reads as it did. -/
def fnExactSortSamplesSpec : ChangeSpec := { name := "fnExactSortSamples", fn := fun _ => fun
  | [d] => { results := [.lit (.bool true)], args := [d] }
  | _ => none }
def fnExactSortSamplesRow : OpenClaim := { program := "ytahhemgmlmhbjaa", sum := "6e48d705a1edd872c4a1be9ba5e3ac3d05a53e968ae690c4c3e7fe9a4bcc4e99", func := "loop.example/g00808/laws.FnExactSortSamples", spec := "fnExactSortSamples", unfollowed := true, recurses := true, apart := false }
def FnExactSortSamplesSaid : Prop := fnExactSortSamplesRow.holds Try.pinned (OpenSpec.ofChange fnExactSortSamplesSpec)

/-- ITS FALSE NEIGHBOUR: 'it returns false'. Refute it at one input. -/
def fnExactSortSamplesWrong : ChangeSpec := { name := "fnExactSortSamples", fn := fun _ => fun
  | [d] => { results := [.lit (.bool false)], args := [d] }
  | _ => none }
def FnExactSortSamplesWrongFalsely : Prop := fnExactSortSamplesRow.holds Try.pinned (OpenSpec.ofChange fnExactSortSamplesWrong)

/-- 'laws.FnExactPodsIn': WHATEVER THE INPUT: true; the input reads as it did. -/
def fnExactPodsInSpec : ChangeSpec := { name := "fnExactPodsIn", fn := fun _ => fun
  | [d] => { results := [.lit (.bool true)], args := [d] }
  | _ => none }
def fnExactPodsInRow : OpenClaim := { program := "ytahhemgmlmhbjaa", sum := "6e48d705a1edd872c4a1be9ba5e3ac3d05a53e968ae690c4c3e7fe9a4bcc4e99", func := "loop.example/g00808/laws.FnExactPodsIn", spec := "fnExactPodsIn", recurses := true, apart := false }
def FnExactPodsInSaid : Prop := fnExactPodsInRow.holds Try.pinned (OpenSpec.ofChange fnExactPodsInSpec)

/-- ITS FALSE NEIGHBOUR: 'it returns false'. Refute it at one input. -/
def fnExactPodsInWrong : ChangeSpec := { name := "fnExactPodsIn", fn := fun _ => fun
  | [d] => { results := [.lit (.bool false)], args := [d] }
  | _ => none }
def FnExactPodsInWrongFalsely : Prop := fnExactPodsInRow.holds Try.pinned (OpenSpec.ofChange fnExactPodsInWrong)

/-- 'laws.FnExactSumOfMetric': WHATEVER THE INPUT: true; the input reads as it did. -/
def fnExactSumOfMetricSpec : ChangeSpec := { name := "fnExactSumOfMetric", fn := fun _ => fun
  | [d1, d2, d3] => { results := [.lit (.bool true)], args := [d1, d2, d3] }
  | _ => none }
def fnExactSumOfMetricRow : OpenClaim := { program := "ytahhemgmlmhbjaa", sum := "6e48d705a1edd872c4a1be9ba5e3ac3d05a53e968ae690c4c3e7fe9a4bcc4e99", func := "loop.example/g00808/laws.FnExactSumOfMetric", spec := "fnExactSumOfMetric", apart := false }
def FnExactSumOfMetricSaid : Prop := fnExactSumOfMetricRow.holds Try.pinned (OpenSpec.ofChange fnExactSumOfMetricSpec)

/-- ITS FALSE NEIGHBOUR: 'it returns false'. Refute it at one input. -/
def fnExactSumOfMetricWrong : ChangeSpec := { name := "fnExactSumOfMetric", fn := fun _ => fun
  | [d1, d2, d3] => { results := [.lit (.bool false)], args := [d1, d2, d3] }
  | _ => none }
def FnExactSumOfMetricWrongFalsely : Prop := fnExactSumOfMetricRow.holds Try.pinned (OpenSpec.ofChange fnExactSumOfMetricWrong)

/- THE SECOND FORM. 'bulk': how many values and letters a reading holds, each counted each time it is reached (what is shared counts as often as it is met; a slice's spare places count too). A statement '..UptoSaid' is the law's where the arguments, and the package variables that the reading takes, are together of bulk at most 1048576: NARROWER than '..Said'. Prove '..Said' where nothing that the law and all that it calls make is longer than what came in: it says more and counts as full. Else prove '..UptoSaid'. A law counts once. -/
mutual
def uptoBulk {H : Type} : DataW H → Nat
  | .lit (.string bytes) => bytes.length + 1
  | .lit _ => 1
  | .nil => 1
  | .ptr d => uptoBulk d + 1
  | .slice elems spare => uptoBulkAll elems + uptoBulkAll spare + 1
  | .agg parts => uptoBulkAll parts + 1
  | .iface _ d => uptoBulk d + 1
  | .map entries => uptoBulkEntries entries + 1
  | .held _ => 1
def uptoBulkAll {H : Type} : List (DataW H) → Nat
  | [] => 0
  | d :: r => uptoBulk d + uptoBulkAll r
def uptoBulkEntries {H : Type} : List (Lit × DataW H) → Nat
  | [] => 0
  | x :: r => uptoBulkEntry x + uptoBulkEntries r
def uptoBulkEntry {H : Type} : Lit × DataW H → Nat
  | (.string bytes, d) => bytes.length + uptoBulk d + 1
  | (_, d) => uptoBulk d + 1
 end
def uptoSmall : (H : Type) → List (DataW H) → Bool := fun _ ds => decide (uptoBulkAll ds ≤ 1048576)
def OpenSpec.upto (s : _root_.Go.ChangeSpec) : _root_.Go.OpenSpec := { _root_.Go.OpenSpec.ofChange s with cond := some uptoSmall }

/-- 'laws.FnExactNameOk', WHERE WHAT IT READS IS OF BULK AT MOST 1048576: true; the input reads as it did. -/
def fnExactNameOkUptoRow : OpenClaim := { program := "ytahhemgmlmhbjaa", sum := "6e48d705a1edd872c4a1be9ba5e3ac3d05a53e968ae690c4c3e7fe9a4bcc4e99", func := "loop.example/g00808/laws.FnExactNameOk", spec := "fnExactNameOk", apart := false, narrowed := true }
def FnExactNameOkUptoSaid : Prop := fnExactNameOkUptoRow.holds Try.pinned (OpenSpec.upto fnExactNameOkSpec)

/-- 'laws.FnExactSampleOk', WHERE WHAT IT READS IS OF BULK AT MOST 1048576: true; the input reads as it did. -/
def fnExactSampleOkUptoRow : OpenClaim := { program := "ytahhemgmlmhbjaa", sum := "6e48d705a1edd872c4a1be9ba5e3ac3d05a53e968ae690c4c3e7fe9a4bcc4e99", func := "loop.example/g00808/laws.FnExactSampleOk", spec := "fnExactSampleOk", apart := false, narrowed := true }
def FnExactSampleOkUptoSaid : Prop := fnExactSampleOkUptoRow.holds Try.pinned (OpenSpec.upto fnExactSampleOkSpec)

/-- 'laws.FnExactSortSamples', WHERE WHAT IT READS IS OF BULK AT MOST 1048576: true; the input reads as it did. -/
def fnExactSortSamplesUptoRow : OpenClaim := { program := "ytahhemgmlmhbjaa", sum := "6e48d705a1edd872c4a1be9ba5e3ac3d05a53e968ae690c4c3e7fe9a4bcc4e99", func := "loop.example/g00808/laws.FnExactSortSamples", spec := "fnExactSortSamples", unfollowed := true, recurses := true, apart := false, narrowed := true }
def FnExactSortSamplesUptoSaid : Prop := fnExactSortSamplesUptoRow.holds Try.pinned (OpenSpec.upto fnExactSortSamplesSpec)

/-- 'laws.FnExactPodsIn', WHERE WHAT IT READS IS OF BULK AT MOST 1048576: true; the input reads as it did. -/
def fnExactPodsInUptoRow : OpenClaim := { program := "ytahhemgmlmhbjaa", sum := "6e48d705a1edd872c4a1be9ba5e3ac3d05a53e968ae690c4c3e7fe9a4bcc4e99", func := "loop.example/g00808/laws.FnExactPodsIn", spec := "fnExactPodsIn", recurses := true, apart := false, narrowed := true }
def FnExactPodsInUptoSaid : Prop := fnExactPodsInUptoRow.holds Try.pinned (OpenSpec.upto fnExactPodsInSpec)

/-- 'laws.FnExactSumOfMetric', WHERE WHAT IT READS IS OF BULK AT MOST 1048576: true; the input reads as it did. -/
def fnExactSumOfMetricUptoRow : OpenClaim := { program := "ytahhemgmlmhbjaa", sum := "6e48d705a1edd872c4a1be9ba5e3ac3d05a53e968ae690c4c3e7fe9a4bcc4e99", func := "loop.example/g00808/laws.FnExactSumOfMetric", spec := "fnExactSumOfMetric", apart := false, narrowed := true }
def FnExactSumOfMetricUptoSaid : Prop := fnExactSumOfMetricUptoRow.holds Try.pinned (OpenSpec.upto fnExactSumOfMetricSpec)

end Rows
end Go.Proofs.Ytahhemgmlmhbjaa
