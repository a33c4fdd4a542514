/-
  No cell of these rows narrows 'for every input' (looked for: loops, veiled, ifaces, maps, wideKeys, modest, calm, conditions, laid).
  DERIVED. THE GIVEN ROWS OF THIS SEAT. 5 by the template 'for every input the law returns true; each argument reads behind the call as it read before'; 0 by the template 'total and deterministic' (their statements: YtkehidjdlefojabTotals.lean).
  GIVEN WITH THE SEED: the statements are not yours to turn. If you find one false, say at which input.
  Laid BY PROGRAM, IN A SANDBOX (cutbox-rows.mjs): the forced cells as the released guide's own fill.sh prints them over the translation c534c17ec7125bc1… (all of the seat's roots in one cut). By AI agents, Wed Nov 11 2026. No macro, syntax, notation, axiom, sorry.
-/
import Derived.Test.YtkehidjdlefojabChecked
import GoSem.Claim
import GoSem.ClaimJoined
import GoSem.ClaimMapViews
import Derived.JoinedTies
import Derived.KernelRfl
namespace Go.Proofs.Ytkehidjdlefojab
/- THE CELL 'sum', in the pinned program and in every row, IS THE sha256 OF THE DUMP (.gsa) THAT YtkehidjdlefojabProg.lean LOADS. Nothing in Lean hashes anything: it is a label: what it is worth is what the hold of that sum in a sandbox is worth. -/
noncomputable def Try.pinned : Pinned := { name := "ytkehidjdlefojab", sum := "c534c17ec7125bc1b6c8821cb2fa8333c97e1caa1565d35f1530660367001573", checked := Try.checked }
namespace Rows
def none {H : Type} : Left H := { results := [], args := [] }

/-- 'laws.FnExactUpBound': WHATEVER THE INPUT: true; the input reads as it did. -/
def fnExactUpBoundSpec : ChangeSpec := { name := "fnExactUpBound", fn := fun _ => fun
  | [d1, d2, d3, d4] => { results := [.lit (.bool true)], args := [d1, d2, d3, d4] }
  | _ => none }
def fnExactUpBoundRow : OpenClaim := { program := "ytkehidjdlefojab", sum := "c534c17ec7125bc1b6c8821cb2fa8333c97e1caa1565d35f1530660367001573", func := "loop.example/g00808/laws.FnExactUpBound", spec := "fnExactUpBound", unfollowed := true, recurses := true, apart := false }
def FnExactUpBoundSaid : Prop := fnExactUpBoundRow.holds Try.pinned (OpenSpec.ofChange fnExactUpBoundSpec)

/-- ITS FALSE NEIGHBOUR: 'it returns false'. Refute it at one input. -/
def fnExactUpBoundWrong : ChangeSpec := { name := "fnExactUpBound", fn := fun _ => fun
  | [d1, d2, d3, d4] => { results := [.lit (.bool false)], args := [d1, d2, d3, d4] }
  | _ => none }
def FnExactUpBoundWrongFalsely : Prop := fnExactUpBoundRow.holds Try.pinned (OpenSpec.ofChange fnExactUpBoundWrong)

/-- 'laws.FnExactDownBound': WHATEVER THE INPUT: true; the input reads as it did. -/
def fnExactDownBoundSpec : ChangeSpec := { name := "fnExactDownBound", fn := fun _ => fun
  | [d1, d2, d3, d4] => { results := [.lit (.bool true)], args := [d1, d2, d3, d4] }
  | _ => none }
def fnExactDownBoundRow : OpenClaim := { program := "ytkehidjdlefojab", sum := "c534c17ec7125bc1b6c8821cb2fa8333c97e1caa1565d35f1530660367001573", func := "loop.example/g00808/laws.FnExactDownBound", spec := "fnExactDownBound", unfollowed := true, recurses := true, apart := false }
def FnExactDownBoundSaid : Prop := fnExactDownBoundRow.holds Try.pinned (OpenSpec.ofChange fnExactDownBoundSpec)

/-- ITS FALSE NEIGHBOUR: 'it returns false'. Refute it at one input. -/
def fnExactDownBoundWrong : ChangeSpec := { name := "fnExactDownBound", fn := fun _ => fun
  | [d1, d2, d3, d4] => { results := [.lit (.bool false)], args := [d1, d2, d3, d4] }
  | _ => none }
def FnExactDownBoundWrongFalsely : Prop := fnExactDownBoundRow.holds Try.pinned (OpenSpec.ofChange fnExactDownBoundWrong)

/-- 'laws.FnExactLimitWant': WHATEVER THE INPUT: true; the input reads as it did. -/
def fnExactLimitWantSpec : ChangeSpec := { name := "fnExactLimitWant", fn := fun _ => fun
  | [d1, d2, d3, d4, d5] => { results := [.lit (.bool true)], args := [d1, d2, d3, d4, d5] }
  | _ => none }
def fnExactLimitWantRow : OpenClaim := { program := "ytkehidjdlefojab", sum := "c534c17ec7125bc1b6c8821cb2fa8333c97e1caa1565d35f1530660367001573", func := "loop.example/g00808/laws.FnExactLimitWant", spec := "fnExactLimitWant", unfollowed := true, recurses := true, apart := false }
def FnExactLimitWantSaid : Prop := fnExactLimitWantRow.holds Try.pinned (OpenSpec.ofChange fnExactLimitWantSpec)

/-- ITS FALSE NEIGHBOUR: 'it returns false'. Refute it at one input. -/
def fnExactLimitWantWrong : ChangeSpec := { name := "fnExactLimitWant", fn := fun _ => fun
  | [d1, d2, d3, d4, d5] => { results := [.lit (.bool false)], args := [d1, d2, d3, d4, d5] }
  | _ => none }
def FnExactLimitWantWrongFalsely : Prop := fnExactLimitWantRow.holds Try.pinned (OpenSpec.ofChange fnExactLimitWantWrong)

/-- 'laws.FnExactDecide': WHATEVER THE INPUT: true; the input reads as it did. -/
def fnExactDecideSpec : ChangeSpec := { name := "fnExactDecide", fn := fun _ => fun
  | [d1, d2, d3, d4, d5, d6] => { results := [.lit (.bool true)], args := [d1, d2, d3, d4, d5, d6] }
  | _ => none }
def fnExactDecideRow : OpenClaim := { program := "ytkehidjdlefojab", sum := "c534c17ec7125bc1b6c8821cb2fa8333c97e1caa1565d35f1530660367001573", func := "loop.example/g00808/laws.FnExactDecide", spec := "fnExactDecide", unfollowed := true, recurses := true, apart := false }
def FnExactDecideSaid : Prop := fnExactDecideRow.holds Try.pinned (OpenSpec.ofChange fnExactDecideSpec)

/-- ITS FALSE NEIGHBOUR: 'it returns false'. Refute it at one input. -/
def fnExactDecideWrong : ChangeSpec := { name := "fnExactDecide", fn := fun _ => fun
  | [d1, d2, d3, d4, d5, d6] => { results := [.lit (.bool false)], args := [d1, d2, d3, d4, d5, d6] }
  | _ => none }
def FnExactDecideWrongFalsely : Prop := fnExactDecideRow.holds Try.pinned (OpenSpec.ofChange fnExactDecideWrong)

/-- 'laws.FnExactTrimNotes': WHATEVER THE INPUT: true; the input reads as it did. -/
def fnExactTrimNotesSpec : ChangeSpec := { name := "fnExactTrimNotes", fn := fun _ => fun
  | [d1, d2, d3] => { results := [.lit (.bool true)], args := [d1, d2, d3] }
  | _ => none }
def fnExactTrimNotesRow : OpenClaim := { program := "ytkehidjdlefojab", sum := "c534c17ec7125bc1b6c8821cb2fa8333c97e1caa1565d35f1530660367001573", func := "loop.example/g00808/laws.FnExactTrimNotes", spec := "fnExactTrimNotes", unfollowed := true, recurses := true, apart := false }
def FnExactTrimNotesSaid : Prop := fnExactTrimNotesRow.holds Try.pinned (OpenSpec.ofChange fnExactTrimNotesSpec)

/-- ITS FALSE NEIGHBOUR: 'it returns false'. Refute it at one input. -/
def fnExactTrimNotesWrong : ChangeSpec := { name := "fnExactTrimNotes", fn := fun _ => fun
  | [d1, d2, d3] => { results := [.lit (.bool false)], args := [d1, d2, d3] }
  | _ => none }
def FnExactTrimNotesWrongFalsely : Prop := fnExactTrimNotesRow.holds Try.pinned (OpenSpec.ofChange fnExactTrimNotesWrong)

/- THE SECOND FORM. 'bulk': how many values and letters a reading holds, each counted each time it is reached (what is shared counts as often as it is met; a slice's spare places count too). A statement '..UptoSaid' is the law's where the arguments, and the package variables that the reading takes, are together of bulk at most 1048576: NARROWER than '..Said'. Prove '..Said' where nothing that the law and all that it calls make is longer than what came in: it says more and counts as full. Else prove '..UptoSaid'. A law counts once. -/
mutual
def uptoBulk {H : Type} : DataW H → Nat
  | .lit (.string bytes) => bytes.length + 1
  | .lit _ => 1
  | .nil => 1
  | .ptr d => uptoBulk d + 1
  | .slice elems spare => uptoBulkAll elems + uptoBulkAll spare + 1
  | .agg parts => uptoBulkAll parts + 1
  | .iface _ d => uptoBulk d + 1
  | .map entries => uptoBulkEntries entries + 1
  | .held _ => 1
def uptoBulkAll {H : Type} : List (DataW H) → Nat
  | [] => 0
  | d :: r => uptoBulk d + uptoBulkAll r
def uptoBulkEntries {H : Type} : List (Lit × DataW H) → Nat
  | [] => 0
  | x :: r => uptoBulkEntry x + uptoBulkEntries r
def uptoBulkEntry {H : Type} : Lit × DataW H → Nat
  | (.string bytes, d) => bytes.length + uptoBulk d + 1
  | (_, d) => uptoBulk d + 1
 end
def uptoSmall : (H : Type) → List (DataW H) → Bool := fun _ ds => decide (uptoBulkAll ds ≤ 1048576)
def OpenSpec.upto (s : _root_.Go.ChangeSpec) : _root_.Go.OpenSpec := { _root_.Go.OpenSpec.ofChange s with cond := some uptoSmall }

/-- 'laws.FnExactUpBound', WHERE WHAT IT READS IS OF BULK AT MOST 1048576: true; the input reads as it did. -/
def fnExactUpBoundUptoRow : OpenClaim := { program := "ytkehidjdlefojab", sum := "c534c17ec7125bc1b6c8821cb2fa8333c97e1caa1565d35f1530660367001573", func := "loop.example/g00808/laws.FnExactUpBound", spec := "fnExactUpBound", unfollowed := true, recurses := true, apart := false, narrowed := true }
def FnExactUpBoundUptoSaid : Prop := fnExactUpBoundUptoRow.holds Try.pinned (OpenSpec.upto fnExactUpBoundSpec)

/-- 'laws.FnExactDownBound', WHERE WHAT IT READS IS OF BULK AT MOST 1048576: true; the input reads as it did. -/
def fnExactDownBoundUptoRow : OpenClaim := { program := "ytkehidjdlefojab", sum := "c534c17ec7125bc1b6c8821cb2fa8333c97e1caa1565d35f1530660367001573", func := "loop.example/g00808/laws.FnExactDownBound", spec := "fnExactDownBound", unfollowed := true, recurses := true, apart := false, narrowed := true }
def FnExactDownBoundUptoSaid : Prop := fnExactDownBoundUptoRow.holds Try.pinned (OpenSpec.upto fnExactDownBoundSpec)

/-- 'laws.FnExactLimitWant', WHERE WHAT IT READS IS OF BULK AT MOST 1048576: true; the input reads as it did. -/
def fnExactLimitWantUptoRow : OpenClaim := { program := "ytkehidjdlefojab", sum := "c534c17ec7125bc1b6c8821cb2fa8333c97e1caa1565d35f1530660367001573", func := "loop.example/g00808/laws.FnExactLimitWant", spec := "fnExactLimitWant", unfollowed := true, recurses := true, apart := false, narrowed := true }
def FnExactLimitWantUptoSaid : Prop := fnExactLimitWantUptoRow.holds Try.pinned (OpenSpec.upto fnExactLimitWantSpec)

/-- 'laws.FnExactDecide', WHERE WHAT IT READS IS OF BULK AT MOST 1048576: true; the input reads as it did. -/
def fnExactDecideUptoRow : OpenClaim := { program := "ytkehidjdlefojab", sum := "c534c17ec7125bc1b6c8821cb2fa8333c97e1caa1565d35f1530660367001573", func := "loop.example/g00808/laws.FnExactDecide", spec := "fnExactDecide", unfollowed := true, recurses := true, apart := false, narrowed := true }
def FnExactDecideUptoSaid : Prop := fnExactDecideUptoRow.holds Try.pinned (OpenSpec.upto fnExactDecideSpec)

/-- 'laws.FnExactTrimNotes', WHERE WHAT IT READS IS OF BULK AT MOST 1048576: true; the input reads as it did. -/
def fnExactTrimNotesUptoRow : OpenClaim := { program := "ytkehidjdlefojab", sum := "c534c17ec7125bc1b6c8821cb2fa8333c97e1caa1565d35f1530660367001573", func := "loop.example/g00808/laws.FnExactTrimNotes", spec := "fnExactTrimNotes", unfollowed := true, recurses := true, apart := false, narrowed := true }
def FnExactTrimNotesUptoSaid : Prop := fnExactTrimNotesUptoRow.holds Try.pinned (OpenSpec.upto fnExactTrimNotesSpec)

end Rows
end Go.Proofs.Ytkehidjdlefojab
