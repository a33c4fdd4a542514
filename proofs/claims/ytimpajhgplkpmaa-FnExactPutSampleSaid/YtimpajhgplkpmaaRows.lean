/-
  No cell of these rows narrows 'for every input' (looked for: loops, veiled, ifaces, maps, wideKeys, modest, calm, conditions, laid).
  DERIVED. THE GIVEN ROWS OF THIS SEAT. 9 by the template 'for every input the law returns true; each argument reads behind the call as it read before'; 0 by the template 'total and deterministic' (their statements: YtimpajhgplkpmaaTotals.lean).
  GIVEN WITH THE SEED: the statements are not yours to turn. If you find one false, say at which input.
  Laid BY PROGRAM, IN A SANDBOX (cutbox-rows.mjs): the forced cells as the released guide's own fill.sh prints them over the translation 182b74475f3c72ae… (all of the seat's roots in one cut). By AI agents, Wed Nov 11 2026. No macro, syntax, notation, axiom, sorry.
-/
import Derived.Test.YtimpajhgplkpmaaChecked
import GoSem.Claim
import GoSem.ClaimJoined
import GoSem.ClaimMapViews
import Derived.JoinedTies
import Derived.KernelRfl
namespace Go.Proofs.Ytimpajhgplkpmaa
/- THE CELL 'sum', in the pinned program and in every row, IS THE sha256 OF THE DUMP (.gsa) THAT YtimpajhgplkpmaaProg.lean LOADS. Nothing in Lean hashes anything: it is a label: what it is worth is what the hold of that sum in a sandbox is worth. -/
noncomputable def Try.pinned : Pinned := { name := "ytimpajhgplkpmaa", sum := "182b74475f3c72aef7705a42aab1a27c61d8394d332610244a2b5a52f773ff8f", checked := Try.checked }
namespace Rows
def none {H : Type} : Left H := { results := [], args := [] }

/-- 'laws.FnBand': WHATEVER THE INPUT: true; the input reads as it did. -/
def fnBandSpec : ChangeSpec := { name := "fnBand", fn := fun _ => fun
  | [d] => { results := [.lit (.bool true)], args := [d] }
  | _ => none }
def fnBandRow : OpenClaim := { program := "ytimpajhgplkpmaa", sum := "182b74475f3c72aef7705a42aab1a27c61d8394d332610244a2b5a52f773ff8f", func := "loop.example/g00808/laws.FnBand", spec := "fnBand", inPlace := ["math.Float64frombits", "math.Float64bits", "sync/atomic.LoadUint32", "(*internal/sync.Mutex).Lock", "internal/race.Disable", "sync/atomic.CompareAndSwapInt32", "internal/race.Enable", "internal/race.Acquire", "(*internal/sync.Mutex).lockSlow", "internal/sync.runtime_canSpin", "internal/sync.runtime_doSpin", "internal/sync.throw", "internal/sync.runtime_nanotime", "internal/sync.runtime_SemacquireMutex", "sync/atomic.AddInt32", "(*internal/sync.Mutex).Unlock", "internal/race.ReleaseMerge", "(*internal/sync.Mutex).unlockSlow", "internal/sync.fatal", "internal/sync.runtime_Semrelease", "sync/atomic.StoreUint32"], unfollowed := true, recurses := true, apart := false }
def FnBandSaid : Prop := fnBandRow.holds Try.pinned (OpenSpec.ofChange fnBandSpec)

/-- ITS FALSE NEIGHBOUR: 'it returns false'. Refute it at one input. -/
def fnBandWrong : ChangeSpec := { name := "fnBand", fn := fun _ => fun
  | [d] => { results := [.lit (.bool false)], args := [d] }
  | _ => none }
def FnBandWrongFalsely : Prop := fnBandRow.holds Try.pinned (OpenSpec.ofChange fnBandWrong)

/-- 'laws.FnMissing': WHATEVER THE INPUT: true; the input reads as it did. -/
def fnMissingSpec : ChangeSpec := { name := "fnMissing", fn := fun _ => fun
  | [d] => { results := [.lit (.bool true)], args := [d] }
  | _ => none }
def fnMissingRow : OpenClaim := { program := "ytimpajhgplkpmaa", sum := "182b74475f3c72aef7705a42aab1a27c61d8394d332610244a2b5a52f773ff8f", func := "loop.example/g00808/laws.FnMissing", spec := "fnMissing", inPlace := ["math.Float64frombits", "math.Float64bits", "sync/atomic.LoadUint32", "(*internal/sync.Mutex).Lock", "internal/race.Disable", "sync/atomic.CompareAndSwapInt32", "internal/race.Enable", "internal/race.Acquire", "(*internal/sync.Mutex).lockSlow", "internal/sync.runtime_canSpin", "internal/sync.runtime_doSpin", "internal/sync.throw", "internal/sync.runtime_nanotime", "internal/sync.runtime_SemacquireMutex", "sync/atomic.AddInt32", "(*internal/sync.Mutex).Unlock", "internal/race.ReleaseMerge", "(*internal/sync.Mutex).unlockSlow", "internal/sync.fatal", "internal/sync.runtime_Semrelease", "sync/atomic.StoreUint32"], unfollowed := true, recurses := true, apart := false }
def FnMissingSaid : Prop := fnMissingRow.holds Try.pinned (OpenSpec.ofChange fnMissingSpec)

/-- ITS FALSE NEIGHBOUR: 'it returns false'. Refute it at one input. -/
def fnMissingWrong : ChangeSpec := { name := "fnMissing", fn := fun _ => fun
  | [d] => { results := [.lit (.bool false)], args := [d] }
  | _ => none }
def FnMissingWrongFalsely : Prop := fnMissingRow.holds Try.pinned (OpenSpec.ofChange fnMissingWrong)

/-- 'laws.FnCombined': WHATEVER THE INPUT: true; the input reads as it did. -/
def fnCombinedSpec : ChangeSpec := { name := "fnCombined", fn := fun _ => fun
  | [d] => { results := [.lit (.bool true)], args := [d] }
  | _ => none }
def fnCombinedRow : OpenClaim := { program := "ytimpajhgplkpmaa", sum := "182b74475f3c72aef7705a42aab1a27c61d8394d332610244a2b5a52f773ff8f", func := "loop.example/g00808/laws.FnCombined", spec := "fnCombined", apart := false }
def FnCombinedSaid : Prop := fnCombinedRow.holds Try.pinned (OpenSpec.ofChange fnCombinedSpec)

/-- ITS FALSE NEIGHBOUR: 'it returns false'. Refute it at one input. -/
def fnCombinedWrong : ChangeSpec := { name := "fnCombined", fn := fun _ => fun
  | [d] => { results := [.lit (.bool false)], args := [d] }
  | _ => none }
def FnCombinedWrongFalsely : Prop := fnCombinedRow.holds Try.pinned (OpenSpec.ofChange fnCombinedWrong)

/-- 'laws.FnExactPutSample': WHATEVER THE INPUT: true; the input reads as it did. -/
def fnExactPutSampleSpec : ChangeSpec := { name := "fnExactPutSample", fn := fun _ => fun
  | [d1, d2] => { results := [.lit (.bool true)], args := [d1, d2] }
  | _ => none }
def fnExactPutSampleRow : OpenClaim := { program := "ytimpajhgplkpmaa", sum := "182b74475f3c72aef7705a42aab1a27c61d8394d332610244a2b5a52f773ff8f", func := "loop.example/g00808/laws.FnExactPutSample", spec := "fnExactPutSample", inPlace := ["slices.overlaps[loop.example/g00808/impl.Series]"], unfollowed := true, recurses := true, apart := false }
def FnExactPutSampleSaid : Prop := fnExactPutSampleRow.holds Try.pinned (OpenSpec.ofChange fnExactPutSampleSpec)

/-- ITS FALSE NEIGHBOUR: 'it returns false'. Refute it at one input. -/
def fnExactPutSampleWrong : ChangeSpec := { name := "fnExactPutSample", fn := fun _ => fun
  | [d1, d2] => { results := [.lit (.bool false)], args := [d1, d2] }
  | _ => none }
def FnExactPutSampleWrongFalsely : Prop := fnExactPutSampleRow.holds Try.pinned (OpenSpec.ofChange fnExactPutSampleWrong)

/-- 'laws.FnExactPutAll': WHATEVER THE INPUT: true; the input reads as it did. -/
def fnExactPutAllSpec : ChangeSpec := { name := "fnExactPutAll", fn := fun _ => fun
  | [d1, d2] => { results := [.lit (.bool true)], args := [d1, d2] }
  | _ => none }
def fnExactPutAllRow : OpenClaim := { program := "ytimpajhgplkpmaa", sum := "182b74475f3c72aef7705a42aab1a27c61d8394d332610244a2b5a52f773ff8f", func := "loop.example/g00808/laws.FnExactPutAll", spec := "fnExactPutAll", inPlace := ["slices.overlaps[loop.example/g00808/impl.Series]"], unfollowed := true, recurses := true, apart := false }
def FnExactPutAllSaid : Prop := fnExactPutAllRow.holds Try.pinned (OpenSpec.ofChange fnExactPutAllSpec)

/-- ITS FALSE NEIGHBOUR: 'it returns false'. Refute it at one input. -/
def fnExactPutAllWrong : ChangeSpec := { name := "fnExactPutAll", fn := fun _ => fun
  | [d1, d2] => { results := [.lit (.bool false)], args := [d1, d2] }
  | _ => none }
def FnExactPutAllWrongFalsely : Prop := fnExactPutAllRow.holds Try.pinned (OpenSpec.ofChange fnExactPutAllWrong)

/-- 'laws.FnExactGoalOk': WHATEVER THE INPUT: true; the input reads as it did. -/
def fnExactGoalOkSpec : ChangeSpec := { name := "fnExactGoalOk", fn := fun _ => fun
  | [d] => { results := [.lit (.bool true)], args := [d] }
  | _ => none }
def fnExactGoalOkRow : OpenClaim := { program := "ytimpajhgplkpmaa", sum := "182b74475f3c72aef7705a42aab1a27c61d8394d332610244a2b5a52f773ff8f", func := "loop.example/g00808/laws.FnExactGoalOk", spec := "fnExactGoalOk", apart := false }
def FnExactGoalOkSaid : Prop := fnExactGoalOkRow.holds Try.pinned (OpenSpec.ofChange fnExactGoalOkSpec)

/-- ITS FALSE NEIGHBOUR: 'it returns false'. Refute it at one input. -/
def fnExactGoalOkWrong : ChangeSpec := { name := "fnExactGoalOk", fn := fun _ => fun
  | [d] => { results := [.lit (.bool false)], args := [d] }
  | _ => none }
def FnExactGoalOkWrongFalsely : Prop := fnExactGoalOkRow.holds Try.pinned (OpenSpec.ofChange fnExactGoalOkWrong)

/-- 'laws.FnExactRatioSign': WHATEVER THE INPUT: true; the input reads as it did. -/
def fnExactRatioSignSpec : ChangeSpec := { name := "fnExactRatioSign", fn := fun _ => fun
  | [d1, d2, d3] => { results := [.lit (.bool true)], args := [d1, d2, d3] }
  | _ => none }
def fnExactRatioSignRow : OpenClaim := { program := "ytimpajhgplkpmaa", sum := "182b74475f3c72aef7705a42aab1a27c61d8394d332610244a2b5a52f773ff8f", func := "loop.example/g00808/laws.FnExactRatioSign", spec := "fnExactRatioSign", inPlace := ["math.Float64frombits", "math.Float64bits"], apart := false }
def FnExactRatioSignSaid : Prop := fnExactRatioSignRow.holds Try.pinned (OpenSpec.ofChange fnExactRatioSignSpec)

/-- ITS FALSE NEIGHBOUR: 'it returns false'. Refute it at one input. -/
def fnExactRatioSignWrong : ChangeSpec := { name := "fnExactRatioSign", fn := fun _ => fun
  | [d1, d2, d3] => { results := [.lit (.bool false)], args := [d1, d2, d3] }
  | _ => none }
def FnExactRatioSignWrongFalsely : Prop := fnExactRatioSignRow.holds Try.pinned (OpenSpec.ofChange fnExactRatioSignWrong)

/-- 'laws.FnExactInBand': WHATEVER THE INPUT: true; the input reads as it did. -/
def fnExactInBandSpec : ChangeSpec := { name := "fnExactInBand", fn := fun _ => fun
  | [d1, d2, d3] => { results := [.lit (.bool true)], args := [d1, d2, d3] }
  | _ => none }
def fnExactInBandRow : OpenClaim := { program := "ytimpajhgplkpmaa", sum := "182b74475f3c72aef7705a42aab1a27c61d8394d332610244a2b5a52f773ff8f", func := "loop.example/g00808/laws.FnExactInBand", spec := "fnExactInBand", apart := false }
def FnExactInBandSaid : Prop := fnExactInBandRow.holds Try.pinned (OpenSpec.ofChange fnExactInBandSpec)

/-- ITS FALSE NEIGHBOUR: 'it returns false'. Refute it at one input. -/
def fnExactInBandWrong : ChangeSpec := { name := "fnExactInBand", fn := fun _ => fun
  | [d1, d2, d3] => { results := [.lit (.bool false)], args := [d1, d2, d3] }
  | _ => none }
def FnExactInBandWrongFalsely : Prop := fnExactInBandRow.holds Try.pinned (OpenSpec.ofChange fnExactInBandWrong)

/-- 'laws.FnExactRefillOf': WHATEVER THE INPUT: true; the input reads as it did. -/
def fnExactRefillOfSpec : ChangeSpec := { name := "fnExactRefillOf", fn := fun _ => fun
  | [d1, d2] => { results := [.lit (.bool true)], args := [d1, d2] }
  | _ => none }
def fnExactRefillOfRow : OpenClaim := { program := "ytimpajhgplkpmaa", sum := "182b74475f3c72aef7705a42aab1a27c61d8394d332610244a2b5a52f773ff8f", func := "loop.example/g00808/laws.FnExactRefillOf", spec := "fnExactRefillOf", inPlace := ["math.Float64frombits", "math.Float64bits"], apart := false }
def FnExactRefillOfSaid : Prop := fnExactRefillOfRow.holds Try.pinned (OpenSpec.ofChange fnExactRefillOfSpec)

/-- ITS FALSE NEIGHBOUR: 'it returns false'. Refute it at one input. -/
def fnExactRefillOfWrong : ChangeSpec := { name := "fnExactRefillOf", fn := fun _ => fun
  | [d1, d2] => { results := [.lit (.bool false)], args := [d1, d2] }
  | _ => none }
def FnExactRefillOfWrongFalsely : Prop := fnExactRefillOfRow.holds Try.pinned (OpenSpec.ofChange fnExactRefillOfWrong)

/- THE SECOND FORM. 'bulk': how many values and letters a reading holds, each counted each time it is reached (what is shared counts as often as it is met; a slice's spare places count too). A statement '..UptoSaid' is the law's where the arguments, and the package variables that the reading takes, are together of bulk at most 1048576: NARROWER than '..Said'. Prove '..Said' where nothing that the law and all that it calls make is longer than what came in: it says more and counts as full. Else prove '..UptoSaid'. A law counts once. -/
mutual
def uptoBulk {H : Type} : DataW H → Nat
  | .lit (.string bytes) => bytes.length + 1
  | .lit _ => 1
  | .nil => 1
  | .ptr d => uptoBulk d + 1
  | .slice elems spare => uptoBulkAll elems + uptoBulkAll spare + 1
  | .agg parts => uptoBulkAll parts + 1
  | .iface _ d => uptoBulk d + 1
  | .map entries => uptoBulkEntries entries + 1
  | .held _ => 1
def uptoBulkAll {H : Type} : List (DataW H) → Nat
  | [] => 0
  | d :: r => uptoBulk d + uptoBulkAll r
def uptoBulkEntries {H : Type} : List (Lit × DataW H) → Nat
  | [] => 0
  | x :: r => uptoBulkEntry x + uptoBulkEntries r
def uptoBulkEntry {H : Type} : Lit × DataW H → Nat
  | (.string bytes, d) => bytes.length + uptoBulk d + 1
  | (_, d) => uptoBulk d + 1
 end
def uptoSmall : (H : Type) → List (DataW H) → Bool := fun _ ds => decide (uptoBulkAll ds ≤ 1048576)
def OpenSpec.upto (s : _root_.Go.ChangeSpec) : _root_.Go.OpenSpec := { _root_.Go.OpenSpec.ofChange s with cond := some uptoSmall }

/-- 'laws.FnBand', WHERE WHAT IT READS IS OF BULK AT MOST 1048576: true; the input reads as it did. -/
def fnBandUptoRow : OpenClaim := { program := "ytimpajhgplkpmaa", sum := "182b74475f3c72aef7705a42aab1a27c61d8394d332610244a2b5a52f773ff8f", func := "loop.example/g00808/laws.FnBand", spec := "fnBand", inPlace := ["math.Float64frombits", "math.Float64bits", "sync/atomic.LoadUint32", "(*internal/sync.Mutex).Lock", "internal/race.Disable", "sync/atomic.CompareAndSwapInt32", "internal/race.Enable", "internal/race.Acquire", "(*internal/sync.Mutex).lockSlow", "internal/sync.runtime_canSpin", "internal/sync.runtime_doSpin", "internal/sync.throw", "internal/sync.runtime_nanotime", "internal/sync.runtime_SemacquireMutex", "sync/atomic.AddInt32", "(*internal/sync.Mutex).Unlock", "internal/race.ReleaseMerge", "(*internal/sync.Mutex).unlockSlow", "internal/sync.fatal", "internal/sync.runtime_Semrelease", "sync/atomic.StoreUint32"], unfollowed := true, recurses := true, apart := false, narrowed := true }
def FnBandUptoSaid : Prop := fnBandUptoRow.holds Try.pinned (OpenSpec.upto fnBandSpec)

/-- 'laws.FnMissing', WHERE WHAT IT READS IS OF BULK AT MOST 1048576: true; the input reads as it did. -/
def fnMissingUptoRow : OpenClaim := { program := "ytimpajhgplkpmaa", sum := "182b74475f3c72aef7705a42aab1a27c61d8394d332610244a2b5a52f773ff8f", func := "loop.example/g00808/laws.FnMissing", spec := "fnMissing", inPlace := ["math.Float64frombits", "math.Float64bits", "sync/atomic.LoadUint32", "(*internal/sync.Mutex).Lock", "internal/race.Disable", "sync/atomic.CompareAndSwapInt32", "internal/race.Enable", "internal/race.Acquire", "(*internal/sync.Mutex).lockSlow", "internal/sync.runtime_canSpin", "internal/sync.runtime_doSpin", "internal/sync.throw", "internal/sync.runtime_nanotime", "internal/sync.runtime_SemacquireMutex", "sync/atomic.AddInt32", "(*internal/sync.Mutex).Unlock", "internal/race.ReleaseMerge", "(*internal/sync.Mutex).unlockSlow", "internal/sync.fatal", "internal/sync.runtime_Semrelease", "sync/atomic.StoreUint32"], unfollowed := true, recurses := true, apart := false, narrowed := true }
def FnMissingUptoSaid : Prop := fnMissingUptoRow.holds Try.pinned (OpenSpec.upto fnMissingSpec)

/-- 'laws.FnCombined', WHERE WHAT IT READS IS OF BULK AT MOST 1048576: true; the input reads as it did. -/
def fnCombinedUptoRow : OpenClaim := { program := "ytimpajhgplkpmaa", sum := "182b74475f3c72aef7705a42aab1a27c61d8394d332610244a2b5a52f773ff8f", func := "loop.example/g00808/laws.FnCombined", spec := "fnCombined", apart := false, narrowed := true }
def FnCombinedUptoSaid : Prop := fnCombinedUptoRow.holds Try.pinned (OpenSpec.upto fnCombinedSpec)

/-- 'laws.FnExactPutSample', WHERE WHAT IT READS IS OF BULK AT MOST 1048576: true; the input reads as it did. -/
def fnExactPutSampleUptoRow : OpenClaim := { program := "ytimpajhgplkpmaa", sum := "182b74475f3c72aef7705a42aab1a27c61d8394d332610244a2b5a52f773ff8f", func := "loop.example/g00808/laws.FnExactPutSample", spec := "fnExactPutSample", inPlace := ["slices.overlaps[loop.example/g00808/impl.Series]"], unfollowed := true, recurses := true, apart := false, narrowed := true }
def FnExactPutSampleUptoSaid : Prop := fnExactPutSampleUptoRow.holds Try.pinned (OpenSpec.upto fnExactPutSampleSpec)

/-- 'laws.FnExactPutAll', WHERE WHAT IT READS IS OF BULK AT MOST 1048576: true; the input reads as it did. -/
def fnExactPutAllUptoRow : OpenClaim := { program := "ytimpajhgplkpmaa", sum := "182b74475f3c72aef7705a42aab1a27c61d8394d332610244a2b5a52f773ff8f", func := "loop.example/g00808/laws.FnExactPutAll", spec := "fnExactPutAll", inPlace := ["slices.overlaps[loop.example/g00808/impl.Series]"], unfollowed := true, recurses := true, apart := false, narrowed := true }
def FnExactPutAllUptoSaid : Prop := fnExactPutAllUptoRow.holds Try.pinned (OpenSpec.upto fnExactPutAllSpec)

/-- 'laws.FnExactGoalOk', WHERE WHAT IT READS IS OF BULK AT MOST 1048576: true; the input reads as it did. -/
def fnExactGoalOkUptoRow : OpenClaim := { program := "ytimpajhgplkpmaa", sum := "182b74475f3c72aef7705a42aab1a27c61d8394d332610244a2b5a52f773ff8f", func := "loop.example/g00808/laws.FnExactGoalOk", spec := "fnExactGoalOk", apart := false, narrowed := true }
def FnExactGoalOkUptoSaid : Prop := fnExactGoalOkUptoRow.holds Try.pinned (OpenSpec.upto fnExactGoalOkSpec)

/-- 'laws.FnExactRatioSign', WHERE WHAT IT READS IS OF BULK AT MOST 1048576: true; the input reads as it did. -/
def fnExactRatioSignUptoRow : OpenClaim := { program := "ytimpajhgplkpmaa", sum := "182b74475f3c72aef7705a42aab1a27c61d8394d332610244a2b5a52f773ff8f", func := "loop.example/g00808/laws.FnExactRatioSign", spec := "fnExactRatioSign", inPlace := ["math.Float64frombits", "math.Float64bits"], apart := false, narrowed := true }
def FnExactRatioSignUptoSaid : Prop := fnExactRatioSignUptoRow.holds Try.pinned (OpenSpec.upto fnExactRatioSignSpec)

/-- 'laws.FnExactInBand', WHERE WHAT IT READS IS OF BULK AT MOST 1048576: true; the input reads as it did. -/
def fnExactInBandUptoRow : OpenClaim := { program := "ytimpajhgplkpmaa", sum := "182b74475f3c72aef7705a42aab1a27c61d8394d332610244a2b5a52f773ff8f", func := "loop.example/g00808/laws.FnExactInBand", spec := "fnExactInBand", apart := false, narrowed := true }
def FnExactInBandUptoSaid : Prop := fnExactInBandUptoRow.holds Try.pinned (OpenSpec.upto fnExactInBandSpec)

/-- 'laws.FnExactRefillOf', WHERE WHAT IT READS IS OF BULK AT MOST 1048576: true; the input reads as it did. -/
def fnExactRefillOfUptoRow : OpenClaim := { program := "ytimpajhgplkpmaa", sum := "182b74475f3c72aef7705a42aab1a27c61d8394d332610244a2b5a52f773ff8f", func := "loop.example/g00808/laws.FnExactRefillOf", spec := "fnExactRefillOf", inPlace := ["math.Float64frombits", "math.Float64bits"], apart := false, narrowed := true }
def FnExactRefillOfUptoSaid : Prop := fnExactRefillOfUptoRow.holds Try.pinned (OpenSpec.upto fnExactRefillOfSpec)

end Rows
end Go.Proofs.Ytimpajhgplkpmaa
