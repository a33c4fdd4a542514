/-
  No cell of these rows narrows 'for every input' (looked for: loops, veiled, ifaces, maps, wideKeys, modest, calm, conditions, laid).
  DERIVED. THE GIVEN ROWS OF THIS SEAT. 3 by the template 'for every input the law returns true; each argument reads behind the call as it read before'; 0 by the template 'total and deterministic' (their statements: YtgmdfkmmbcpikaaGreatTotals.lean).
  GIVEN WITH THE SEED: the statements are not yours to turn. If you find one false, say at which input.
  Laid BY PROGRAM, IN A SANDBOX (cutbox-rows.mjs): the forced cells as the released guide's own fill.sh prints them over the translation 713d2dbc03fb6898… (all of the seat's roots in one cut). By AI agents, Wed Nov 11 2026. No macro, syntax, notation, axiom, sorry.
-/
import Derived.Test.YtgmdfkmmbcpikaaGreatChecked
import GoSem.Claim
import GoSem.ClaimJoined
import GoSem.ClaimMapViews
import Derived.JoinedTies
import Derived.KernelRfl
namespace Go.Proofs.YtgmdfkmmbcpikaaGreat
/- THE CELL 'sum', in the pinned program and in every row, IS THE sha256 OF THE DUMP (.gsa) THAT YtgmdfkmmbcpikaaGreatProg.lean LOADS. Nothing in Lean hashes anything: it is a label: what it is worth is what the hold of that sum in a sandbox is worth. -/
noncomputable def Tryz.pinned : Pinned := { name := "ytgmdfkmmbcpikaagreat", sum := "713d2dbc03fb6898abed17ca09cb5e6018936649456b6ccaabb2aedcdcb79a86", checked := Tryz.checked }
namespace Rows
def none {H : Type} : Left H := { results := [], args := [] }

/-- 'laws.FnExactHerdOk': WHATEVER THE INPUT: true; the input reads as it did. -/
def fnExactHerdOkSpec : ChangeSpec := { name := "fnExactHerdOk", fn := fun _ => fun
  | [d] => { results := [.lit (.bool true)], args := [d] }
  | _ => none }
def fnExactHerdOkRow : OpenClaim := { program := "ytgmdfkmmbcpikaagreat", sum := "713d2dbc03fb6898abed17ca09cb5e6018936649456b6ccaabb2aedcdcb79a86", func := "loop.example/g00808/laws.FnExactHerdOk", spec := "fnExactHerdOk", unfollowed := true, recurses := true, apart := false }
def FnExactHerdOkSaid : Prop := fnExactHerdOkRow.holds Tryz.pinned (OpenSpec.ofChange fnExactHerdOkSpec)

/-- ITS FALSE NEIGHBOUR: 'it returns false'. Refute it at one input. -/
def fnExactHerdOkWrong : ChangeSpec := { name := "fnExactHerdOk", fn := fun _ => fun
  | [d] => { results := [.lit (.bool false)], args := [d] }
  | _ => none }
def FnExactHerdOkWrongFalsely : Prop := fnExactHerdOkRow.holds Tryz.pinned (OpenSpec.ofChange fnExactHerdOkWrong)

/-- 'laws.FnExactWantsNow': WHATEVER THE INPUT: true; the input reads as it did. -/
def fnExactWantsNowSpec : ChangeSpec := { name := "fnExactWantsNow", fn := fun _ => fun
  | [d] => { results := [.lit (.bool true)], args := [d] }
  | _ => none }
def fnExactWantsNowRow : OpenClaim := { program := "ytgmdfkmmbcpikaagreat", sum := "713d2dbc03fb6898abed17ca09cb5e6018936649456b6ccaabb2aedcdcb79a86", func := "loop.example/g00808/laws.FnExactWantsNow", spec := "fnExactWantsNow", inPlace := ["math.Float64frombits", "math.Float64bits", "sync/atomic.LoadUint32", "(*internal/sync.Mutex).Lock", "internal/race.Disable", "sync/atomic.CompareAndSwapInt32", "internal/race.Enable", "internal/race.Acquire", "(*internal/sync.Mutex).lockSlow", "internal/sync.runtime_canSpin", "internal/sync.runtime_doSpin", "internal/sync.throw", "internal/sync.runtime_nanotime", "internal/sync.runtime_SemacquireMutex", "sync/atomic.AddInt32", "(*internal/sync.Mutex).Unlock", "internal/race.ReleaseMerge", "(*internal/sync.Mutex).unlockSlow", "internal/sync.fatal", "internal/sync.runtime_Semrelease", "sync/atomic.StoreUint32"], unfollowed := true, recurses := true, apart := false }
def FnExactWantsNowSaid : Prop := fnExactWantsNowRow.holds Tryz.pinned (OpenSpec.ofChange fnExactWantsNowSpec)

/-- ITS FALSE NEIGHBOUR: 'it returns false'. Refute it at one input. -/
def fnExactWantsNowWrong : ChangeSpec := { name := "fnExactWantsNow", fn := fun _ => fun
  | [d] => { results := [.lit (.bool false)], args := [d] }
  | _ => none }
def FnExactWantsNowWrongFalsely : Prop := fnExactWantsNowRow.holds Tryz.pinned (OpenSpec.ofChange fnExactWantsNowWrong)

/-- 'laws.FnExactLawNow': WHATEVER THE INPUT: true; the input reads as it did. -/
def fnExactLawNowSpec : ChangeSpec := { name := "fnExactLawNow", fn := fun _ => fun
  | [d] => { results := [.lit (.bool true)], args := [d] }
  | _ => none }
def fnExactLawNowRow : OpenClaim := { program := "ytgmdfkmmbcpikaagreat", sum := "713d2dbc03fb6898abed17ca09cb5e6018936649456b6ccaabb2aedcdcb79a86", func := "loop.example/g00808/laws.FnExactLawNow", spec := "fnExactLawNow", inPlace := ["math.Float64frombits", "math.Float64bits", "sync/atomic.LoadUint32", "(*internal/sync.Mutex).Lock", "internal/race.Disable", "sync/atomic.CompareAndSwapInt32", "internal/race.Enable", "internal/race.Acquire", "(*internal/sync.Mutex).lockSlow", "internal/sync.runtime_canSpin", "internal/sync.runtime_doSpin", "internal/sync.throw", "internal/sync.runtime_nanotime", "internal/sync.runtime_SemacquireMutex", "sync/atomic.AddInt32", "(*internal/sync.Mutex).Unlock", "internal/race.ReleaseMerge", "(*internal/sync.Mutex).unlockSlow", "internal/sync.fatal", "internal/sync.runtime_Semrelease", "sync/atomic.StoreUint32"], unfollowed := true, recurses := true, apart := false }
def FnExactLawNowSaid : Prop := fnExactLawNowRow.holds Tryz.pinned (OpenSpec.ofChange fnExactLawNowSpec)

/-- ITS FALSE NEIGHBOUR: 'it returns false'. Refute it at one input. -/
def fnExactLawNowWrong : ChangeSpec := { name := "fnExactLawNow", fn := fun _ => fun
  | [d] => { results := [.lit (.bool false)], args := [d] }
  | _ => none }
def FnExactLawNowWrongFalsely : Prop := fnExactLawNowRow.holds Tryz.pinned (OpenSpec.ofChange fnExactLawNowWrong)

/- THE SECOND FORM. 'bulk': how many values and letters a reading holds, each counted each time it is reached (what is shared counts as often as it is met; a slice's spare places count too). A statement '..UptoSaid' is the law's where the arguments, and the package variables that the reading takes, are together of bulk at most 1048576: NARROWER than '..Said'. Prove '..Said' where nothing that the law and all that it calls make is longer than what came in: it says more and counts as full. Else prove '..UptoSaid'. A law counts once. -/
mutual
def uptoBulk {H : Type} : DataW H → Nat
  | .lit (.string bytes) => bytes.length + 1
  | .lit _ => 1
  | .nil => 1
  | .ptr d => uptoBulk d + 1
  | .slice elems spare => uptoBulkAll elems + uptoBulkAll spare + 1
  | .agg parts => uptoBulkAll parts + 1
  | .iface _ d => uptoBulk d + 1
  | .map entries => uptoBulkEntries entries + 1
  | .held _ => 1
def uptoBulkAll {H : Type} : List (DataW H) → Nat
  | [] => 0
  | d :: r => uptoBulk d + uptoBulkAll r
def uptoBulkEntries {H : Type} : List (Lit × DataW H) → Nat
  | [] => 0
  | x :: r => uptoBulkEntry x + uptoBulkEntries r
def uptoBulkEntry {H : Type} : Lit × DataW H → Nat
  | (.string bytes, d) => bytes.length + uptoBulk d + 1
  | (_, d) => uptoBulk d + 1
 end
def uptoSmall : (H : Type) → List (DataW H) → Bool := fun _ ds => decide (uptoBulkAll ds ≤ 1048576)
def OpenSpec.upto (s : _root_.Go.ChangeSpec) : _root_.Go.OpenSpec := { _root_.Go.OpenSpec.ofChange s with cond := some uptoSmall }

/-- 'laws.FnExactHerdOk', WHERE WHAT IT READS IS OF BULK AT MOST 1048576: true; the input reads as it did. -/
def fnExactHerdOkUptoRow : OpenClaim := { program := "ytgmdfkmmbcpikaagreat", sum := "713d2dbc03fb6898abed17ca09cb5e6018936649456b6ccaabb2aedcdcb79a86", func := "loop.example/g00808/laws.FnExactHerdOk", spec := "fnExactHerdOk", unfollowed := true, recurses := true, apart := false, narrowed := true }
def FnExactHerdOkUptoSaid : Prop := fnExactHerdOkUptoRow.holds Tryz.pinned (OpenSpec.upto fnExactHerdOkSpec)

/-- 'laws.FnExactWantsNow', WHERE WHAT IT READS IS OF BULK AT MOST 1048576: true; the input reads as it did. -/
def fnExactWantsNowUptoRow : OpenClaim := { program := "ytgmdfkmmbcpikaagreat", sum := "713d2dbc03fb6898abed17ca09cb5e6018936649456b6ccaabb2aedcdcb79a86", func := "loop.example/g00808/laws.FnExactWantsNow", spec := "fnExactWantsNow", inPlace := ["math.Float64frombits", "math.Float64bits", "sync/atomic.LoadUint32", "(*internal/sync.Mutex).Lock", "internal/race.Disable", "sync/atomic.CompareAndSwapInt32", "internal/race.Enable", "internal/race.Acquire", "(*internal/sync.Mutex).lockSlow", "internal/sync.runtime_canSpin", "internal/sync.runtime_doSpin", "internal/sync.throw", "internal/sync.runtime_nanotime", "internal/sync.runtime_SemacquireMutex", "sync/atomic.AddInt32", "(*internal/sync.Mutex).Unlock", "internal/race.ReleaseMerge", "(*internal/sync.Mutex).unlockSlow", "internal/sync.fatal", "internal/sync.runtime_Semrelease", "sync/atomic.StoreUint32"], unfollowed := true, recurses := true, apart := false, narrowed := true }
def FnExactWantsNowUptoSaid : Prop := fnExactWantsNowUptoRow.holds Tryz.pinned (OpenSpec.upto fnExactWantsNowSpec)

/-- 'laws.FnExactLawNow', WHERE WHAT IT READS IS OF BULK AT MOST 1048576: true; the input reads as it did. -/
def fnExactLawNowUptoRow : OpenClaim := { program := "ytgmdfkmmbcpikaagreat", sum := "713d2dbc03fb6898abed17ca09cb5e6018936649456b6ccaabb2aedcdcb79a86", func := "loop.example/g00808/laws.FnExactLawNow", spec := "fnExactLawNow", inPlace := ["math.Float64frombits", "math.Float64bits", "sync/atomic.LoadUint32", "(*internal/sync.Mutex).Lock", "internal/race.Disable", "sync/atomic.CompareAndSwapInt32", "internal/race.Enable", "internal/race.Acquire", "(*internal/sync.Mutex).lockSlow", "internal/sync.runtime_canSpin", "internal/sync.runtime_doSpin", "internal/sync.throw", "internal/sync.runtime_nanotime", "internal/sync.runtime_SemacquireMutex", "sync/atomic.AddInt32", "(*internal/sync.Mutex).Unlock", "internal/race.ReleaseMerge", "(*internal/sync.Mutex).unlockSlow", "internal/sync.fatal", "internal/sync.runtime_Semrelease", "sync/atomic.StoreUint32"], unfollowed := true, recurses := true, apart := false, narrowed := true }
def FnExactLawNowUptoSaid : Prop := fnExactLawNowUptoRow.holds Tryz.pinned (OpenSpec.upto fnExactLawNowSpec)

end Rows
end Go.Proofs.YtgmdfkmmbcpikaaGreat
