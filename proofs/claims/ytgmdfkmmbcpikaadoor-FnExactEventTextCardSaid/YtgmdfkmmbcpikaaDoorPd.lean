/- Pods and rules: how they lie, what PodOk and RulesOk answer (the model's and the program's); laws.toPod, szPod, eqPod, toRules. -/
import Derived.Test.YtgmdfkmmbcpikaaDoorC2
import Derived.Test.YtgmdfkmmbcpikaaDoorMem
namespace Go.Proofs.YtgmdfkmmbcpikaaDoor.Pd
open Go.RowKit
open Go.Proofs.YtgmdfkmmbcpikaaDoor.C1
open Go.Proofs.YtgmdfkmmbcpikaaDoor.C2
open Go.Proofs.YtgmdfkmmbcpikaaDoor.Smps
open Go.Proofs.YtgmdfkmmbcpikaaDoor.Mem
set_option linter.unusedVariables false

structure Pd where
  nm : ByteArray
  born : Int
  ph : Int
  rdy : Bool
instance : Inhabited Pd := ⟨⟨⟨#[]⟩, 0, 0, false⟩⟩
def encD (p : Pd) : List Value := [.string p.nm, .int .i64 p.born, .int .i64 p.ph, .bool p.rdy]
def podV (p : Pd) : Value := .agg #[.string p.nm, .int .i64 p.born, .int .i64 p.ph, .bool p.rdy]
structure Pd.wf (p : Pd) : Prop where
  nm : p.nm.size ≤ maxLen
  born : -9223372036854775808 ≤ p.born ∧ p.born ≤ 9223372036854775807
  ph : -9223372036854775808 ≤ p.ph ∧ p.ph ≤ 9223372036854775807
def phV (x : Int) : Bool := decide (0 ≤ x ∧ x ≤ 2)
/-- A valid pod. -/
def okP (p : Pd) : Bool := nameV p.nm.data.toList && sizeV p.born && phV p.ph
/-! ### Rules. -/
structure Rl where
  dl : Int
  fr : Int
  wi : Int
def rlV (r : Rl) : Value := .agg #[.int .i64 r.dl, .int .i64 r.fr, .int .i64 r.wi]
structure Rl.wf (r : Rl) : Prop where
  dl : -9223372036854775808 ≤ r.dl ∧ r.dl ≤ 9223372036854775807
  fr : -9223372036854775808 ≤ r.fr ∧ r.fr ≤ 9223372036854775807
  wi : -9223372036854775808 ≤ r.wi ∧ r.wi ≤ 9223372036854775807
def ruleV (x : Int) : Bool := decide (0 ≤ x ∧ x ≤ 1000)
def okR (r : Rl) : Bool := ruleV r.dl && ruleV r.fr && ruleV r.wi
theorem box_read3 {w w1 : World} {v0 v1 v2 : Value} {t : TypeId} (h : Below (w.alloc (.cells #[v0, v1, v2] t)).heap.size (w.alloc (.cells #[v0, v1, v2] t)) w1) :
    w.heap.size < w1.heap.size ∧ Below w.heap.size w w1 ∧ w1.cell? ⟨w.heap.size, 0, none⟩ = some v0 ∧ w1.cell? ⟨w.heap.size, 1, none⟩ = some v1 ∧ w1.cell? ⟨w.heap.size, 2, none⟩ = some v2 := by
  have hz : (w.alloc (.cells #[v0, v1, v2] t)).heap.size = w.heap.size + 1 := by simp
  have hs := h.size
  rw [hz] at hs
  have hc : ∀ j, w1.cell? ⟨w.heap.size, j, none⟩ = (w.alloc (.cells #[v0, v1, v2] t)).cell? ⟨w.heap.size, j, none⟩ := fun j => h.cell (p := ⟨w.heap.size, j, none⟩) (by show w.heap.size < _; omega)
  refine ⟨by omega, (box_below w _ t).trans (h.mono (by omega)), ?_, ?_, ?_⟩ <;> rw [hc, World.cell?_alloc_new] <;> rfl
theorem keep3 {w1 w2 : World} {b : Nat} {v0 v1 v2 : Value} (hlt : b < w1.heap.size) (h : Below w1.heap.size w1 w2) (q0 : w1.cell? ⟨b, 0, none⟩ = some v0) (q1 : w1.cell? ⟨b, 1, none⟩ = some v1) (q2 : w1.cell? ⟨b, 2, none⟩ = some v2) :
    b < w2.heap.size ∧ w2.cell? ⟨b, 0, none⟩ = some v0 ∧ w2.cell? ⟨b, 1, none⟩ = some v1 ∧ w2.cell? ⟨b, 2, none⟩ = some v2 := by
  have hc : ∀ j, w2.cell? ⟨b, j, none⟩ = w1.cell? ⟨b, j, none⟩ := fun j => h.cell (p := ⟨b, j, none⟩) hlt
  exact ⟨Nat.lt_of_lt_of_le hlt h.size, by rw [hc]; exact q0, by rw [hc]; exact q1, by rw [hc]; exact q2⟩
end Go.Proofs.YtgmdfkmmbcpikaaDoor.Pd
