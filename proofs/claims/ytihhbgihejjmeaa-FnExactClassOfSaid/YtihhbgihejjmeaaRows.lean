/-
  No cell of these rows narrows 'for every input' (looked for: loops, veiled, ifaces, maps, wideKeys, modest, calm, conditions, laid).
  DERIVED. THE GIVEN ROWS OF THIS SEAT. 7 by the template 'for every input the law returns true; each argument reads behind the call as it read before'; 0 by the template 'total and deterministic' (their statements: YtihhbgihejjmeaaTotals.lean).
  GIVEN WITH THE SEED: the statements are not yours to turn. If you find one false, say at which input.
  Laid BY PROGRAM, IN A SANDBOX (cutbox-rows.mjs): the forced cells as the released guide's own fill.sh prints them over the translation 44bf89834341b8ad… (all of the seat's roots in one cut). By AI agents, Wed Nov 11 2026. No macro, syntax, notation, axiom, sorry.
-/
import Derived.Test.YtihhbgihejjmeaaChecked
import GoSem.Claim
import GoSem.ClaimJoined
import GoSem.ClaimMapViews
import Derived.JoinedTies
import Derived.KernelRfl
namespace Go.Proofs.Ytihhbgihejjmeaa
/- THE CELL 'sum', in the pinned program and in every row, IS THE sha256 OF THE DUMP (.gsa) THAT YtihhbgihejjmeaaProg.lean LOADS. Nothing in Lean hashes anything: it is a label: what it is worth is what the hold of that sum in a sandbox is worth. -/
noncomputable def Try.pinned : Pinned := { name := "ytihhbgihejjmeaa", sum := "44bf89834341b8ad9adea189e2992cefbb6ef17146d19484c9d4da3f5c2a1851", checked := Try.checked }
namespace Rows
def none {H : Type} : Left H := { results := [], args := [] }

/-- 'laws.FnExactPutSample': WHATEVER THE INPUT: true; the input reads as it did. -/
def fnExactPutSampleSpec : ChangeSpec := { name := "fnExactPutSample", fn := fun _ => fun
  | [d1, d2] => { results := [.lit (.bool true)], args := [d1, d2] }
  | _ => none }
def fnExactPutSampleRow : OpenClaim := { program := "ytihhbgihejjmeaa", sum := "44bf89834341b8ad9adea189e2992cefbb6ef17146d19484c9d4da3f5c2a1851", func := "loop.example/g00808/laws.FnExactPutSample", spec := "fnExactPutSample", inPlace := ["slices.overlaps[loop.example/g00808/impl.Series]"], unfollowed := true, recurses := true, apart := false }
def FnExactPutSampleSaid : Prop := fnExactPutSampleRow.holds Try.pinned (OpenSpec.ofChange fnExactPutSampleSpec)

/-- ITS FALSE NEIGHBOUR: 'it returns false'. Refute it at one input. -/
def fnExactPutSampleWrong : ChangeSpec := { name := "fnExactPutSample", fn := fun _ => fun
  | [d1, d2] => { results := [.lit (.bool false)], args := [d1, d2] }
  | _ => none }
def FnExactPutSampleWrongFalsely : Prop := fnExactPutSampleRow.holds Try.pinned (OpenSpec.ofChange fnExactPutSampleWrong)

/-- 'laws.FnExactPutAll': WHATEVER THE INPUT: true; the input reads as it did. -/
def fnExactPutAllSpec : ChangeSpec := { name := "fnExactPutAll", fn := fun _ => fun
  | [d1, d2] => { results := [.lit (.bool true)], args := [d1, d2] }
  | _ => none }
def fnExactPutAllRow : OpenClaim := { program := "ytihhbgihejjmeaa", sum := "44bf89834341b8ad9adea189e2992cefbb6ef17146d19484c9d4da3f5c2a1851", func := "loop.example/g00808/laws.FnExactPutAll", spec := "fnExactPutAll", inPlace := ["slices.overlaps[loop.example/g00808/impl.Series]"], unfollowed := true, recurses := true, apart := false }
def FnExactPutAllSaid : Prop := fnExactPutAllRow.holds Try.pinned (OpenSpec.ofChange fnExactPutAllSpec)

/-- ITS FALSE NEIGHBOUR: 'it returns false'. Refute it at one input. -/
def fnExactPutAllWrong : ChangeSpec := { name := "fnExactPutAll", fn := fun _ => fun
  | [d1, d2] => { results := [.lit (.bool false)], args := [d1, d2] }
  | _ => none }
def FnExactPutAllWrongFalsely : Prop := fnExactPutAllRow.holds Try.pinned (OpenSpec.ofChange fnExactPutAllWrong)

/-- 'laws.FnExactPodOk': WHATEVER THE INPUT: true; the input reads as it did. -/
def fnExactPodOkSpec : ChangeSpec := { name := "fnExactPodOk", fn := fun _ => fun
  | [d] => { results := [.lit (.bool true)], args := [d] }
  | _ => none }
def fnExactPodOkRow : OpenClaim := { program := "ytihhbgihejjmeaa", sum := "44bf89834341b8ad9adea189e2992cefbb6ef17146d19484c9d4da3f5c2a1851", func := "loop.example/g00808/laws.FnExactPodOk", spec := "fnExactPodOk", apart := false }
def FnExactPodOkSaid : Prop := fnExactPodOkRow.holds Try.pinned (OpenSpec.ofChange fnExactPodOkSpec)

/-- ITS FALSE NEIGHBOUR: 'it returns false'. Refute it at one input. -/
def fnExactPodOkWrong : ChangeSpec := { name := "fnExactPodOk", fn := fun _ => fun
  | [d] => { results := [.lit (.bool false)], args := [d] }
  | _ => none }
def FnExactPodOkWrongFalsely : Prop := fnExactPodOkRow.holds Try.pinned (OpenSpec.ofChange fnExactPodOkWrong)

/-- 'laws.FnExactPodsOk': WHATEVER THE INPUT: true; the input reads as it did. -/
def fnExactPodsOkSpec : ChangeSpec := { name := "fnExactPodsOk", fn := fun _ => fun
  | [d] => { results := [.lit (.bool true)], args := [d] }
  | _ => none }
def fnExactPodsOkRow : OpenClaim := { program := "ytihhbgihejjmeaa", sum := "44bf89834341b8ad9adea189e2992cefbb6ef17146d19484c9d4da3f5c2a1851", func := "loop.example/g00808/laws.FnExactPodsOk", spec := "fnExactPodsOk", unfollowed := true, recurses := true, apart := false }
def FnExactPodsOkSaid : Prop := fnExactPodsOkRow.holds Try.pinned (OpenSpec.ofChange fnExactPodsOkSpec)

/-- ITS FALSE NEIGHBOUR: 'it returns false'. Refute it at one input. -/
def fnExactPodsOkWrong : ChangeSpec := { name := "fnExactPodsOk", fn := fun _ => fun
  | [d] => { results := [.lit (.bool false)], args := [d] }
  | _ => none }
def FnExactPodsOkWrongFalsely : Prop := fnExactPodsOkRow.holds Try.pinned (OpenSpec.ofChange fnExactPodsOkWrong)

/-- 'laws.FnExactRulesOk': WHATEVER THE INPUT: true; the input reads as it did. -/
def fnExactRulesOkSpec : ChangeSpec := { name := "fnExactRulesOk", fn := fun _ => fun
  | [d] => { results := [.lit (.bool true)], args := [d] }
  | _ => none }
def fnExactRulesOkRow : OpenClaim := { program := "ytihhbgihejjmeaa", sum := "44bf89834341b8ad9adea189e2992cefbb6ef17146d19484c9d4da3f5c2a1851", func := "loop.example/g00808/laws.FnExactRulesOk", spec := "fnExactRulesOk", apart := false }
def FnExactRulesOkSaid : Prop := fnExactRulesOkRow.holds Try.pinned (OpenSpec.ofChange fnExactRulesOkSpec)

/-- ITS FALSE NEIGHBOUR: 'it returns false'. Refute it at one input. -/
def fnExactRulesOkWrong : ChangeSpec := { name := "fnExactRulesOk", fn := fun _ => fun
  | [d] => { results := [.lit (.bool false)], args := [d] }
  | _ => none }
def FnExactRulesOkWrongFalsely : Prop := fnExactRulesOkRow.holds Try.pinned (OpenSpec.ofChange fnExactRulesOkWrong)

/-- 'laws.FnExactClassOf': WHATEVER THE INPUT: true; the input reads as it did. -/
def fnExactClassOfSpec : ChangeSpec := { name := "fnExactClassOf", fn := fun _ => fun
  | [d1, d2, d3, d4, d5] => { results := [.lit (.bool true)], args := [d1, d2, d3, d4, d5] }
  | _ => none }
def fnExactClassOfRow : OpenClaim := { program := "ytihhbgihejjmeaa", sum := "44bf89834341b8ad9adea189e2992cefbb6ef17146d19484c9d4da3f5c2a1851", func := "loop.example/g00808/laws.FnExactClassOf", spec := "fnExactClassOf", unfollowed := true, recurses := true, apart := false }
def FnExactClassOfSaid : Prop := fnExactClassOfRow.holds Try.pinned (OpenSpec.ofChange fnExactClassOfSpec)

/-- ITS FALSE NEIGHBOUR: 'it returns false'. Refute it at one input. -/
def fnExactClassOfWrong : ChangeSpec := { name := "fnExactClassOf", fn := fun _ => fun
  | [d1, d2, d3, d4, d5] => { results := [.lit (.bool false)], args := [d1, d2, d3, d4, d5] }
  | _ => none }
def FnExactClassOfWrongFalsely : Prop := fnExactClassOfRow.holds Try.pinned (OpenSpec.ofChange fnExactClassOfWrong)

/-- 'laws.FnExactCountClass': WHATEVER THE INPUT: true; the input reads as it did. -/
def fnExactCountClassSpec : ChangeSpec := { name := "fnExactCountClass", fn := fun _ => fun
  | [d1, d2] => { results := [.lit (.bool true)], args := [d1, d2] }
  | _ => none }
def fnExactCountClassRow : OpenClaim := { program := "ytihhbgihejjmeaa", sum := "44bf89834341b8ad9adea189e2992cefbb6ef17146d19484c9d4da3f5c2a1851", func := "loop.example/g00808/laws.FnExactCountClass", spec := "fnExactCountClass", apart := false }
def FnExactCountClassSaid : Prop := fnExactCountClassRow.holds Try.pinned (OpenSpec.ofChange fnExactCountClassSpec)

/-- ITS FALSE NEIGHBOUR: 'it returns false'. Refute it at one input. -/
def fnExactCountClassWrong : ChangeSpec := { name := "fnExactCountClass", fn := fun _ => fun
  | [d1, d2] => { results := [.lit (.bool false)], args := [d1, d2] }
  | _ => none }
def FnExactCountClassWrongFalsely : Prop := fnExactCountClassRow.holds Try.pinned (OpenSpec.ofChange fnExactCountClassWrong)

/- THE SECOND FORM. 'bulk': how many values and letters a reading holds, each counted each time it is reached (what is shared counts as often as it is met; a slice's spare places count too). A statement '..UptoSaid' is the law's where the arguments, and the package variables that the reading takes, are together of bulk at most 1048576: NARROWER than '..Said'. Prove '..Said' where nothing that the law and all that it calls make is longer than what came in: it says more and counts as full. Else prove '..UptoSaid'. A law counts once. -/
mutual
def uptoBulk {H : Type} : DataW H → Nat
  | .lit (.string bytes) => bytes.length + 1
  | .lit _ => 1
  | .nil => 1
  | .ptr d => uptoBulk d + 1
  | .slice elems spare => uptoBulkAll elems + uptoBulkAll spare + 1
  | .agg parts => uptoBulkAll parts + 1
  | .iface _ d => uptoBulk d + 1
  | .map entries => uptoBulkEntries entries + 1
  | .held _ => 1
def uptoBulkAll {H : Type} : List (DataW H) → Nat
  | [] => 0
  | d :: r => uptoBulk d + uptoBulkAll r
def uptoBulkEntries {H : Type} : List (Lit × DataW H) → Nat
  | [] => 0
  | x :: r => uptoBulkEntry x + uptoBulkEntries r
def uptoBulkEntry {H : Type} : Lit × DataW H → Nat
  | (.string bytes, d) => bytes.length + uptoBulk d + 1
  | (_, d) => uptoBulk d + 1
 end
def uptoSmall : (H : Type) → List (DataW H) → Bool := fun _ ds => decide (uptoBulkAll ds ≤ 1048576)
def OpenSpec.upto (s : _root_.Go.ChangeSpec) : _root_.Go.OpenSpec := { _root_.Go.OpenSpec.ofChange s with cond := some uptoSmall }

/-- 'laws.FnExactPutSample', WHERE WHAT IT READS IS OF BULK AT MOST 1048576: true; the input reads as it did. -/
def fnExactPutSampleUptoRow : OpenClaim := { program := "ytihhbgihejjmeaa", sum := "44bf89834341b8ad9adea189e2992cefbb6ef17146d19484c9d4da3f5c2a1851", func := "loop.example/g00808/laws.FnExactPutSample", spec := "fnExactPutSample", inPlace := ["slices.overlaps[loop.example/g00808/impl.Series]"], unfollowed := true, recurses := true, apart := false, narrowed := true }
def FnExactPutSampleUptoSaid : Prop := fnExactPutSampleUptoRow.holds Try.pinned (OpenSpec.upto fnExactPutSampleSpec)

/-- 'laws.FnExactPutAll', WHERE WHAT IT READS IS OF BULK AT MOST 1048576: true; the input reads as it did. -/
def fnExactPutAllUptoRow : OpenClaim := { program := "ytihhbgihejjmeaa", sum := "44bf89834341b8ad9adea189e2992cefbb6ef17146d19484c9d4da3f5c2a1851", func := "loop.example/g00808/laws.FnExactPutAll", spec := "fnExactPutAll", inPlace := ["slices.overlaps[loop.example/g00808/impl.Series]"], unfollowed := true, recurses := true, apart := false, narrowed := true }
def FnExactPutAllUptoSaid : Prop := fnExactPutAllUptoRow.holds Try.pinned (OpenSpec.upto fnExactPutAllSpec)

/-- 'laws.FnExactPodOk', WHERE WHAT IT READS IS OF BULK AT MOST 1048576: true; the input reads as it did. -/
def fnExactPodOkUptoRow : OpenClaim := { program := "ytihhbgihejjmeaa", sum := "44bf89834341b8ad9adea189e2992cefbb6ef17146d19484c9d4da3f5c2a1851", func := "loop.example/g00808/laws.FnExactPodOk", spec := "fnExactPodOk", apart := false, narrowed := true }
def FnExactPodOkUptoSaid : Prop := fnExactPodOkUptoRow.holds Try.pinned (OpenSpec.upto fnExactPodOkSpec)

/-- 'laws.FnExactPodsOk', WHERE WHAT IT READS IS OF BULK AT MOST 1048576: true; the input reads as it did. -/
def fnExactPodsOkUptoRow : OpenClaim := { program := "ytihhbgihejjmeaa", sum := "44bf89834341b8ad9adea189e2992cefbb6ef17146d19484c9d4da3f5c2a1851", func := "loop.example/g00808/laws.FnExactPodsOk", spec := "fnExactPodsOk", unfollowed := true, recurses := true, apart := false, narrowed := true }
def FnExactPodsOkUptoSaid : Prop := fnExactPodsOkUptoRow.holds Try.pinned (OpenSpec.upto fnExactPodsOkSpec)

/-- 'laws.FnExactRulesOk', WHERE WHAT IT READS IS OF BULK AT MOST 1048576: true; the input reads as it did. -/
def fnExactRulesOkUptoRow : OpenClaim := { program := "ytihhbgihejjmeaa", sum := "44bf89834341b8ad9adea189e2992cefbb6ef17146d19484c9d4da3f5c2a1851", func := "loop.example/g00808/laws.FnExactRulesOk", spec := "fnExactRulesOk", apart := false, narrowed := true }
def FnExactRulesOkUptoSaid : Prop := fnExactRulesOkUptoRow.holds Try.pinned (OpenSpec.upto fnExactRulesOkSpec)

/-- 'laws.FnExactClassOf', WHERE WHAT IT READS IS OF BULK AT MOST 1048576: true; the input reads as it did. -/
def fnExactClassOfUptoRow : OpenClaim := { program := "ytihhbgihejjmeaa", sum := "44bf89834341b8ad9adea189e2992cefbb6ef17146d19484c9d4da3f5c2a1851", func := "loop.example/g00808/laws.FnExactClassOf", spec := "fnExactClassOf", unfollowed := true, recurses := true, apart := false, narrowed := true }
def FnExactClassOfUptoSaid : Prop := fnExactClassOfUptoRow.holds Try.pinned (OpenSpec.upto fnExactClassOfSpec)

/-- 'laws.FnExactCountClass', WHERE WHAT IT READS IS OF BULK AT MOST 1048576: true; the input reads as it did. -/
def fnExactCountClassUptoRow : OpenClaim := { program := "ytihhbgihejjmeaa", sum := "44bf89834341b8ad9adea189e2992cefbb6ef17146d19484c9d4da3f5c2a1851", func := "loop.example/g00808/laws.FnExactCountClass", spec := "fnExactCountClass", apart := false, narrowed := true }
def FnExactCountClassUptoSaid : Prop := fnExactCountClassUptoRow.holds Try.pinned (OpenSpec.upto fnExactCountClassSpec)

end Rows
end Go.Proofs.Ytihhbgihejjmeaa
