/- Pods and rules: how they lie, what PodOk and RulesOk answer (the model's and the program's); laws.toPod, szPod, eqPod, toRules. -/
import Derived.Test.YtgmdfkmmbcpikaaGreatC2
import Derived.Test.YtgmdfkmmbcpikaaGreatMem
namespace Go.Proofs.YtgmdfkmmbcpikaaGreat.Pd
open Go.RowKit
open Go.Proofs.YtgmdfkmmbcpikaaGreat.C1
open Go.Proofs.YtgmdfkmmbcpikaaGreat.C2
open Go.Proofs.YtgmdfkmmbcpikaaGreat.Smps
open Go.Proofs.YtgmdfkmmbcpikaaGreat.Mem
set_option linter.unusedVariables false

structure Pd where
  nm : ByteArray
  born : Int
  ph : Int
  rdy : Bool
instance : Inhabited Pd := ⟨⟨⟨#[]⟩, 0, 0, false⟩⟩
def encD (p : Pd) : List Value := [.string p.nm, .int .i64 p.born, .int .i64 p.ph, .bool p.rdy]
def podV (p : Pd) : Value := .agg #[.string p.nm, .int .i64 p.born, .int .i64 p.ph, .bool p.rdy]
structure Pd.wf (p : Pd) : Prop where
  nm : p.nm.size ≤ maxLen
  born : -9223372036854775808 ≤ p.born ∧ p.born ≤ 9223372036854775807
  ph : -9223372036854775808 ≤ p.ph ∧ p.ph ≤ 9223372036854775807
def phV (x : Int) : Bool := decide (0 ≤ x ∧ x ≤ 2)
/-- A valid pod. -/
def okP (p : Pd) : Bool := nameV p.nm.data.toList && sizeV p.born && phV p.ph
theorem to_pod (p : Pd) (w : World) :
    Calls Tryz.prog 72 #[podV p] w fun e w' => e = .returned (podV p) ∧ Below w.heap.size w w' := by
  unfold podV
  go_enter Tryz.func72, Tryz.ntmps72
  go_wp2
  exact bodyPost_ret (v := .agg #[.string p.nm, .int .i64 p.born, .int .i64 p.ph, .bool p.rdy]) (by simp [results, Tryz.results72, go_sem]) rfl ⟨rfl, box3_below _ _ _ _⟩
theorem sz_pod (p : Pd) (hs : p.wf) (left : Int) (h0 : 0 ≤ left) (h1 : left ≤ 1048576) (w : World) :
    Calls Tryz.prog 59 #[podV p, .int .i64 left] w fun e w' => e = .returned (.int .i64 (if left < p.nm.size then -1 else left - p.nm.size)) ∧ Below w.heap.size w w' := by
  unfold podV
  obtain ⟨hp, -, -⟩ := hs
  unfold maxLen at hp
  by_cases a1 : left < p.nm.size
  · rw [if_pos (by omega)]
    go_enter Tryz.func59, Tryz.ntmps59
    go_wp2
    go_ret
    exact ⟨rfl, box_below _ _ _⟩
  · rw [if_neg a1]
    go_enter Tryz.func59, Tryz.ntmps59
    go_wp2
    go_ret
    exact ⟨ret1I (by first | rfl | omega), box_below _ _ _⟩
theorem spec_podok (p : Pd) (hs : p.wf) (w : World) :
    Calls Tryz.prog 64 #[podV p] w fun e w' => e = .returned (.bool (okP p)) ∧ Below w.heap.size w w' := by
  obtain ⟨hp, -, -⟩ := hs
  unfold maxLen at hp
  unfold podV okP
  cases c1 : nameV p.nm.data.toList
  · go_enter Tryz.func64, Tryz.ntmps64
    go_wp2_with (go_at_call 66; refine (spec_name _ (by omega) _).mono ?_; rintro e w' ⟨rfl, rfl⟩)
    go_ret
    exact ⟨ret1B (by simp), box_below _ _ _⟩
  · cases c2 : sizeV p.born
    · go_enter Tryz.func64, Tryz.ntmps64
      go_wp2_with (first | (go_at_call 66; refine (spec_name _ (by omega) _).mono ?_; rintro e w' ⟨rfl, rfl⟩) | (go_at_call 25; refine (spec_tick _ _).mono ?_; rintro e w' ⟨rfl, rfl⟩))
      go_ret
      exact ⟨ret1B (by simp), box_below _ _ _⟩
    · go_enter Tryz.func64, Tryz.ntmps64
      go_wp2_with (first | (go_at_call 66; refine (spec_name _ (by omega) _).mono ?_; rintro e w' ⟨rfl, rfl⟩) | (go_at_call 25; refine (spec_tick _ _).mono ?_; rintro e w' ⟨rfl, rfl⟩) | (go_at_call 31; refine (C2.spec_in _ _ _ _).mono ?_; rintro e w' ⟨rfl, rfl⟩))
      go_ret
      exact ⟨ret1B (by unfold phV; simp), box_below _ _ _⟩
theorem impl_podok (p : Pd) (hs : p.wf) (w : World) :
    Calls Tryz.prog 83 #[podV p] w fun e w' => e = .returned (.bool (okP p)) ∧ Below w.heap.size w w' := by
  obtain ⟨hp, -, -⟩ := hs
  unfold maxLen at hp
  unfold podV okP
  cases c1 : nameV p.nm.data.toList
  · go_enter Tryz.func83, Tryz.ntmps83
    go_wp2_with (go_at_call 120; refine (impl_name _ (by omega) _).mono ?_; rintro e w1 ⟨rfl, hb1⟩; obtain ⟨r1, r2, q0, q1, q2, q3⟩ := box_read hb1; clear hb1)
    go_ret
    exact ⟨ret1B (by simp), r2⟩
  · go_enter Tryz.func83, Tryz.ntmps83
    go_wp2_with (go_at_call 120; refine (impl_name _ (by omega) _).mono ?_; rintro e w1 ⟨rfl, hb1⟩; obtain ⟨r1, r2, q0, q1, q2, q3⟩ := box_read hb1; clear hb1)
    cases c2 : sizeV p.born
    · go_wp2_with (go_at_call 79; refine (impl_tick _ _).mono ?_; rintro e w' ⟨rfl, rfl⟩)
      go_ret
      exact ⟨ret1B (by rw [c2]; simp), r2⟩
    · by_cases a1 : 0 ≤ p.ph
      · by_cases a2 : p.ph ≤ 2
        all_goals
          go_wp2_with (go_at_call 79; refine (impl_tick _ _).mono ?_; rintro e w' ⟨rfl, rfl⟩)
          go_ret
          exact ⟨ret1B (by unfold phV; simp only [c2]; simp; omega), r2⟩
      · go_wp2_with (go_at_call 79; refine (impl_tick _ _).mono ?_; rintro e w' ⟨rfl, rfl⟩)
        go_ret
        exact ⟨ret1B (by unfold phV; simp; omega), r2⟩
theorem eq_pod (p : Pd) (w : World) :
    Calls Tryz.prog 96 #[podV p, podV p] w fun e w' => e = .returned (.bool true) ∧ Below w.heap.size w w' := by
  unfold podV
  have hbb : (p.rdy != p.rdy) = false := by cases p.rdy <;> rfl
  go_enter Tryz.func96, Tryz.ntmps96
  go_wp2
  go_ret
  exact ⟨rfl, box2_below _ _ _⟩
theorem eq_pod_g (p : Pd) (w : World) :
    Calls Tryz.prog 96 #[podV p, podV p] w fun e w' => e = .returned (.bool true) ∧ ∃ q os', w' = Go.Sort.grow (w.drewN q) os' := by
  unfold podV
  have hbb : (p.rdy != p.rdy) = false := by cases p.rdy <;> rfl
  go_enter Tryz.func96, Tryz.ntmps96
  go_wp2
  go_ret
  exact ⟨rfl, 0, _, grown2 _ _ _⟩

/-! ### Rules. -/
structure Rl where
  dl : Int
  fr : Int
  wi : Int
def rlV (r : Rl) : Value := .agg #[.int .i64 r.dl, .int .i64 r.fr, .int .i64 r.wi]
structure Rl.wf (r : Rl) : Prop where
  dl : -9223372036854775808 ≤ r.dl ∧ r.dl ≤ 9223372036854775807
  fr : -9223372036854775808 ≤ r.fr ∧ r.fr ≤ 9223372036854775807
  wi : -9223372036854775808 ≤ r.wi ∧ r.wi ≤ 9223372036854775807
def ruleV (x : Int) : Bool := decide (0 ≤ x ∧ x ≤ 1000)
def okR (r : Rl) : Bool := ruleV r.dl && ruleV r.fr && ruleV r.wi
theorem to_rules (r : Rl) (w : World) :
    Calls Tryz.prog 69 #[rlV r] w fun e w' => e = .returned (rlV r) ∧ Below w.heap.size w w' := by
  unfold rlV
  go_enter Tryz.func69, Tryz.ntmps69
  go_wp2
  exact bodyPost_ret (v := .agg #[.int .i64 r.dl, .int .i64 r.fr, .int .i64 r.wi]) (by simp [results, Tryz.results69, go_sem]) rfl ⟨rfl, box3_below _ _ _ _⟩
theorem spec_rules (r : Rl) (w : World) :
    Calls Tryz.prog 61 #[rlV r] w fun e w' => e = .returned (.bool (okR r)) ∧ Below w.heap.size w w' := by
  unfold rlV okR
  have h : ∀ x, decide ((0 : Int) ≤ x ∧ x ≤ 1000) = ruleV x := fun _ => rfl
  cases c1 : ruleV r.dl
  · have d1 := (h r.dl).trans c1
    go_enter Tryz.func61, Tryz.ntmps61
    go_wp2_with (go_at_call 31; refine (C2.spec_in _ _ _ _).mono ?_; rw [d1]; rintro e w' ⟨rfl, rfl⟩)
    go_ret
    exact ⟨ret1B (by simp), box_below _ _ _⟩
  · cases c2 : ruleV r.fr
    · have d1 := (h r.dl).trans c1
      have d2 := (h r.fr).trans c2
      go_enter Tryz.func61, Tryz.ntmps61
      go_wp2_with (go_at_call 31; refine (C2.spec_in _ _ _ _).mono ?_; (first | rw [d1] | rw [d2]); rintro e w' ⟨rfl, rfl⟩)
      go_ret
      exact ⟨ret1B (by simp), box_below _ _ _⟩
    · have d1 := (h r.dl).trans c1
      have d2 := (h r.fr).trans c2
      go_enter Tryz.func61, Tryz.ntmps61
      go_wp2_with (go_at_call 31; refine (C2.spec_in _ _ _ _).mono ?_; (first | rw [d1] | rw [d2] | skip); rintro e w' ⟨rfl, rfl⟩)
      go_ret
      exact ⟨ret1B (by simp), box_below _ _ _⟩
theorem impl_rule (x : Int) (w : World) :
    Calls Tryz.prog 116 #[.int .i64 x] w fun e w' => e = .returned (.bool (ruleV x)) ∧ w = w' := by
  unfold ruleV
  by_cases h1 : 0 ≤ x
  · by_cases h2 : x ≤ 1000
    all_goals
      go_enter Tryz.func116, Tryz.ntmps116
      go_wp2
      go_ret
      exact ⟨ret1B (by simp; omega), rfl⟩
  · go_enter Tryz.func116, Tryz.ntmps116
    go_wp2
    go_ret
    exact ⟨ret1B (by simp; omega), rfl⟩
theorem impl_rules (r : Rl) (w : World) :
    Calls Tryz.prog 76 #[rlV r] w fun e w' => e = .returned (.bool (okR r)) ∧ Below w.heap.size w w' := by
  unfold rlV okR
  cases c1 : ruleV r.dl
  · go_enter Tryz.func76, Tryz.ntmps76
    go_wp2_with (go_at_call 116; refine (impl_rule _ _).mono ?_; rintro e w' ⟨rfl, rfl⟩)
    go_ret
    exact ⟨ret1B (by simp), box_below _ _ _⟩
  · cases c2 : ruleV r.fr
    all_goals
      go_enter Tryz.func76, Tryz.ntmps76
      go_wp2_with (go_at_call 116; refine (impl_rule _ _).mono ?_; rintro e w' ⟨rfl, rfl⟩)
      go_ret
      exact ⟨ret1B (by simp), box_below _ _ _⟩
theorem box_read3 {w w1 : World} {v0 v1 v2 : Value} {t : TypeId} (h : Below (w.alloc (.cells #[v0, v1, v2] t)).heap.size (w.alloc (.cells #[v0, v1, v2] t)) w1) :
    w.heap.size < w1.heap.size ∧ Below w.heap.size w w1 ∧ w1.cell? ⟨w.heap.size, 0, none⟩ = some v0 ∧ w1.cell? ⟨w.heap.size, 1, none⟩ = some v1 ∧ w1.cell? ⟨w.heap.size, 2, none⟩ = some v2 := by
  have hz : (w.alloc (.cells #[v0, v1, v2] t)).heap.size = w.heap.size + 1 := by simp
  have hs := h.size
  rw [hz] at hs
  have hc : ∀ j, w1.cell? ⟨w.heap.size, j, none⟩ = (w.alloc (.cells #[v0, v1, v2] t)).cell? ⟨w.heap.size, j, none⟩ := fun j => h.cell (p := ⟨w.heap.size, j, none⟩) (by show w.heap.size < _; omega)
  refine ⟨by omega, (box_below w _ t).trans (h.mono (by omega)), ?_, ?_, ?_⟩ <;> rw [hc, World.cell?_alloc_new] <;> rfl
theorem keep3 {w1 w2 : World} {b : Nat} {v0 v1 v2 : Value} (hlt : b < w1.heap.size) (h : Below w1.heap.size w1 w2) (q0 : w1.cell? ⟨b, 0, none⟩ = some v0) (q1 : w1.cell? ⟨b, 1, none⟩ = some v1) (q2 : w1.cell? ⟨b, 2, none⟩ = some v2) :
    b < w2.heap.size ∧ w2.cell? ⟨b, 0, none⟩ = some v0 ∧ w2.cell? ⟨b, 1, none⟩ = some v1 ∧ w2.cell? ⟨b, 2, none⟩ = some v2 := by
  have hc : ∀ j, w2.cell? ⟨b, j, none⟩ = w1.cell? ⟨b, j, none⟩ := fun j => h.cell (p := ⟨b, j, none⟩) hlt
  exact ⟨Nat.lt_of_lt_of_le hlt h.size, by rw [hc]; exact q0, by rw [hc]; exact q1, by rw [hc]; exact q2⟩
end Go.Proofs.YtgmdfkmmbcpikaaGreat.Pd
