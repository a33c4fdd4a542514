/- Pods and rules: how they lie, what PodOk and RulesOk answer (the model's and the program's); laws.toPod, szPod, eqPod, toRules. -/
import Derived.Test.YtcjjdnfikccnmaaC2
import Derived.Test.YtcjjdnfikccnmaaMem
namespace Go.Proofs.Ytcjjdnfikccnmaa.Pd
open Go.RowKit
open Go.Proofs.Ytcjjdnfikccnmaa.C1
open Go.Proofs.Ytcjjdnfikccnmaa.C2
open Go.Proofs.Ytcjjdnfikccnmaa.Smps
open Go.Proofs.Ytcjjdnfikccnmaa.Mem
set_option linter.unusedVariables false

structure Pd where
  nm : ByteArray
  born : Int
  ph : Int
  rdy : Bool
instance : Inhabited Pd := ⟨⟨⟨#[]⟩, 0, 0, false⟩⟩
def encD (p : Pd) : List Value := [.string p.nm, .int .i64 p.born, .int .i64 p.ph, .bool p.rdy]
def podV (p : Pd) : Value := .agg #[.string p.nm, .int .i64 p.born, .int .i64 p.ph, .bool p.rdy]
structure Pd.wf (p : Pd) : Prop where
  nm : p.nm.size ≤ maxLen
  born : -9223372036854775808 ≤ p.born ∧ p.born ≤ 9223372036854775807
  ph : -9223372036854775808 ≤ p.ph ∧ p.ph ≤ 9223372036854775807
def phV (x : Int) : Bool := decide (0 ≤ x ∧ x ≤ 2)
/-- A valid pod. -/
def okP (p : Pd) : Bool := nameV p.nm.data.toList && sizeV p.born && phV p.ph
/-! ### Rules. -/
structure Rl where
  dl : Int
  fr : Int
  wi : Int
def rlV (r : Rl) : Value := .agg #[.int .i64 r.dl, .int .i64 r.fr, .int .i64 r.wi]
structure Rl.wf (r : Rl) : Prop where
  dl : -9223372036854775808 ≤ r.dl ∧ r.dl ≤ 9223372036854775807
  fr : -9223372036854775808 ≤ r.fr ∧ r.fr ≤ 9223372036854775807
  wi : -9223372036854775808 ≤ r.wi ∧ r.wi ≤ 9223372036854775807
def ruleV (x : Int) : Bool := decide (0 ≤ x ∧ x ≤ 1000)
def okR (r : Rl) : Bool := ruleV r.dl && ruleV r.fr && ruleV r.wi
theorem to_rules (r : Rl) (w : World) :
    Calls Try.prog 91 #[rlV r] w fun e w' => e = .returned (rlV r) ∧ Below w.heap.size w w' := by
  unfold rlV
  go_enter Try.func91, Try.ntmps91
  go_wp2
  exact bodyPost_ret (v := .agg #[.int .i64 r.dl, .int .i64 r.fr, .int .i64 r.wi]) (by simp [results, Try.results91, go_sem]) rfl ⟨rfl, box3_below _ _ _ _⟩
theorem spec_rules (r : Rl) (w : World) :
    Calls Try.prog 88 #[rlV r] w fun e w' => e = .returned (.bool (okR r)) ∧ Below w.heap.size w w' := by
  unfold rlV okR
  have h : ∀ x, decide ((0 : Int) ≤ x ∧ x ≤ 1000) = ruleV x := fun _ => rfl
  cases c1 : ruleV r.dl
  · have d1 := (h r.dl).trans c1
    go_enter Try.func88, Try.ntmps88
    go_wp2_with (go_at_call 89; refine (C2.spec_in _ _ _ _).mono ?_; rw [d1]; rintro e w' ⟨rfl, rfl⟩)
    go_ret
    exact ⟨ret1B (by simp), box_below _ _ _⟩
  · cases c2 : ruleV r.fr
    · have d1 := (h r.dl).trans c1
      have d2 := (h r.fr).trans c2
      go_enter Try.func88, Try.ntmps88
      go_wp2_with (go_at_call 89; refine (C2.spec_in _ _ _ _).mono ?_; (first | rw [d1] | rw [d2]); rintro e w' ⟨rfl, rfl⟩)
      go_ret
      exact ⟨ret1B (by simp), box_below _ _ _⟩
    · have d1 := (h r.dl).trans c1
      have d2 := (h r.fr).trans c2
      go_enter Try.func88, Try.ntmps88
      go_wp2_with (go_at_call 89; refine (C2.spec_in _ _ _ _).mono ?_; (first | rw [d1] | rw [d2] | skip); rintro e w' ⟨rfl, rfl⟩)
      go_ret
      exact ⟨ret1B (by simp), box_below _ _ _⟩
theorem impl_rule (x : Int) (w : World) :
    Calls Try.prog 143 #[.int .i64 x] w fun e w' => e = .returned (.bool (ruleV x)) ∧ w = w' := by
  unfold ruleV
  by_cases h1 : 0 ≤ x
  · by_cases h2 : x ≤ 1000
    all_goals
      go_enter Try.func143, Try.ntmps143
      go_wp2
      go_ret
      exact ⟨ret1B (by simp; omega), rfl⟩
  · go_enter Try.func143, Try.ntmps143
    go_wp2
    go_ret
    exact ⟨ret1B (by simp; omega), rfl⟩
theorem impl_rules (r : Rl) (w : World) :
    Calls Try.prog 94 #[rlV r] w fun e w' => e = .returned (.bool (okR r)) ∧ Below w.heap.size w w' := by
  unfold rlV okR
  cases c1 : ruleV r.dl
  · go_enter Try.func94, Try.ntmps94
    go_wp2_with (go_at_call 143; refine (impl_rule _ _).mono ?_; rintro e w' ⟨rfl, rfl⟩)
    go_ret
    exact ⟨ret1B (by simp), box_below _ _ _⟩
  · cases c2 : ruleV r.fr
    all_goals
      go_enter Try.func94, Try.ntmps94
      go_wp2_with (go_at_call 143; refine (impl_rule _ _).mono ?_; rintro e w' ⟨rfl, rfl⟩)
      go_ret
      exact ⟨ret1B (by simp), box_below _ _ _⟩
theorem box_read3 {w w1 : World} {v0 v1 v2 : Value} {t : TypeId} (h : Below (w.alloc (.cells #[v0, v1, v2] t)).heap.size (w.alloc (.cells #[v0, v1, v2] t)) w1) :
    w.heap.size < w1.heap.size ∧ Below w.heap.size w w1 ∧ w1.cell? ⟨w.heap.size, 0, none⟩ = some v0 ∧ w1.cell? ⟨w.heap.size, 1, none⟩ = some v1 ∧ w1.cell? ⟨w.heap.size, 2, none⟩ = some v2 := by
  have hz : (w.alloc (.cells #[v0, v1, v2] t)).heap.size = w.heap.size + 1 := by simp
  have hs := h.size
  rw [hz] at hs
  have hc : ∀ j, w1.cell? ⟨w.heap.size, j, none⟩ = (w.alloc (.cells #[v0, v1, v2] t)).cell? ⟨w.heap.size, j, none⟩ := fun j => h.cell (p := ⟨w.heap.size, j, none⟩) (by show w.heap.size < _; omega)
  refine ⟨by omega, (box_below w _ t).trans (h.mono (by omega)), ?_, ?_, ?_⟩ <;> rw [hc, World.cell?_alloc_new] <;> rfl
theorem keep3 {w1 w2 : World} {b : Nat} {v0 v1 v2 : Value} (hlt : b < w1.heap.size) (h : Below w1.heap.size w1 w2) (q0 : w1.cell? ⟨b, 0, none⟩ = some v0) (q1 : w1.cell? ⟨b, 1, none⟩ = some v1) (q2 : w1.cell? ⟨b, 2, none⟩ = some v2) :
    b < w2.heap.size ∧ w2.cell? ⟨b, 0, none⟩ = some v0 ∧ w2.cell? ⟨b, 1, none⟩ = some v1 ∧ w2.cell? ⟨b, 2, none⟩ = some v2 := by
  have hc : ∀ j, w2.cell? ⟨b, j, none⟩ = w1.cell? ⟨b, j, none⟩ := fun j => h.cell (p := ⟨b, j, none⟩) hlt
  exact ⟨Nat.lt_of_lt_of_le hlt h.size, by rw [hc]; exact q0, by rw [hc]; exact q1, by rw [hc]; exact q2⟩
end Go.Proofs.Ytcjjdnfikccnmaa.Pd
