/- For every input that can be read, the Go function laws.FnExactGoalOk returns true and leaves its arguments as they read: the statement Rows.FnExactGoalOkSaid, without a condition of ours. -/
import Derived.Test.YtimpajhgplkpmaaRows
import Derived.WalkKit
import Derived.ProofKit
import Derived.OpenShut
import Derived.ShutString
import Derived.ChangeOld
import Derived.Below
import Derived.Lib.SmallJoins
import Derived.Test.YtimpajhgplkpmaaC1
import Derived.Test.YtimpajhgplkpmaaC2
import Derived.Test.YtimpajhgplkpmaaSmps
import Derived.Test.YtimpajhgplkpmaaMem
import Derived.Test.YtimpajhgplkpmaaPd
import Derived.Test.YtimpajhgplkpmaaGl
namespace Go.Proofs.Ytimpajhgplkpmaa.fnExactGoalOk
open Go.ChangeShapes Go.WideShapes Go.ChangeAt Go.RowKit Go.Joins
open Go.ChangeMaps (open_string shut_string)
open Go.Proofs.Ytimpajhgplkpmaa.C1
open Go.Proofs.Ytimpajhgplkpmaa.C2
open Go.Proofs.Ytimpajhgplkpmaa.Smps
open Go.Proofs.Ytimpajhgplkpmaa.Mem
open Go.Proofs.Ytimpajhgplkpmaa.Pd
open Go.Proofs.Ytimpajhgplkpmaa.Gl
set_option linter.unusedVariables false

theorem own : ownKnob Try.prog.godebug = none := by kernel_rfl
theorem laidOut : laidOutB Try.prog = true := by kernel_rfl
set_option maxHeartbeats 4000000 in
set_option maxRecDepth 100000 in
theorem walk (x0 : Gl) (w : World) (w0 : x0.wf)  :
    Calls Try.prog 8 #[glV x0] w fun e w' => e = .returned (.bool true) ∧ Below w.heap.size w w' := by
  obtain ⟨hp, -, -⟩ := id w0
  unfold maxLen at hp
  by_cases hbig : (1048576 : Int) < x0.met.size
  · unfold glV
    go_enter Try.func8, Try.ntmps8
    go_wp2_with (go_at_call 41; refine (sz_goal x0 w0 1048576 (by omega) (by omega) _).mono ?_; rw [if_pos hbig]; rintro e w1 ⟨rfl, hb1⟩; obtain ⟨r1, r2, q0, q1, q2⟩ := box_read3 hb1; clear hb1)
    go_ret
    exact ⟨rfl, r2⟩
  · obtain ⟨L, hL, hL0⟩ : ∃ L : Int, L = 1048576 - x0.met.size ∧ 0 ≤ L := ⟨_, rfl, by omega⟩
    unfold glV
    go_enter Try.func8, Try.ntmps8
    go_wp2_with (go_at_call 41; refine (sz_goal x0 w0 1048576 (by omega) (by omega) _).mono ?_; rw [if_neg hbig, ← hL]; rintro e w1 ⟨rfl, hb1⟩; obtain ⟨r1, r2, q0, q1, q2⟩ := box_read3 hb1; clear hb1)
    go_wp2_with (go_at_call 43; refine (to_goal x0 _).mono ?_; rintro e w2 ⟨rfl, hb2⟩; obtain ⟨s1, p0, p1, p2⟩ := keep3 r1 hb2 q0 q1 q2; have R2 := r2.trans (hb2.mono (Nat.le_of_lt r1)); clear hb2 q0 q1 q2 r2)
    go_wp2_with (go_at_call 42; refine (spec_goalok x0 w0 _).mono ?_; rintro e w3 ⟨rfl, hb3⟩; obtain ⟨s3, m0, m1, m2⟩ := keep3 s1 hb3 p0 p1 p2; have R3 := R2.trans (hb3.mono (Nat.le_of_lt s1)); clear hb3 p0 p1 p2 R2)
    go_wp2_with (first
      | (go_at_call 43; refine (to_goal x0 _).mono ?_; rintro e w4 ⟨rfl, hb4⟩; have R4 := R3.trans (hb4.mono (Nat.le_of_lt s3)); have s4 := Nat.le_trans (Nat.le_of_lt s3) hb4.size)
      | (go_at_call 44; refine (impl_goalok x0 w0 _).mono ?_; rintro e w5 ⟨rfl, hb5⟩))
    go_ret
    exact ⟨rfl, R4.trans (hb5.mono s4)⟩

set_option maxRecDepth 100000 in
theorem lifted (os : Os) (started : os.Started) (H : Type) (enc : TypeId × Value → H) :
    ReturnsInHanded {} Try.checked os 8 .any (Rows.fnExactGoalOkSpec.pre6 enc Try.prog Try.f8 Rows.fnExactGoalOkRow.domain false) (Rows.fnExactGoalOkSpec.post enc Try.prog Try.f8 false true false false) := by
  refine returnsInHanded_of_change (C := Try.checked) own started (by kernel_rfl) Try.func8
    (ChangeSpec.witness6 (enc := enc) (C := Try.checked) false ⟨#[], #[.agg #[.string ⟨#[]⟩, .int .i64 0, .int .i64 0]], []⟩ 8 (by kernel_rfl) (by kernel_rfl) (by kernel_rfl) (by kernel_rfl)) ?_
  intro W base args ds gs before hval0 hW hcnd _
  have hval : ∀ (j : Nat) t v, Try.f8.params[j]? = some t → args[j]? = some v → Value.okWide Try.prog W .any base t v := hval0
  clear hval0
  have hW' := hW
  obtain ⟨p, q, hA0, hV, rfl, hfz, hnd⟩ := hW
  have hA : DataW.TrodAll enc Try.prog W 0 (fun _ => true) true Try.f8.params.toList args.toList ds p := hA0
  rw [Try.params8] at hA hval
  obtain ⟨v0, vs0, d0, ds0, p0, q0, hargs, rfl, rfl, h0, r0⟩ := trodAll_cons hA
  obtain ⟨rfl, rfl, rfl⟩ := trodAll_nil r0
  obtain rfl : args = #[v0] := by cases args; simp_all
  obtain ⟨rfl, rfl⟩ := trodVars_none hV
  have k0 := h0
  have lt0 : ∀ x ∈ p0, x.block < W.heap.size := by obtain ⟨m, hm⟩ := k0; exact DataW.trod_lt m _ _ _ hm
  obtain ⟨c0_0, c1_0, c2_0, y0_0, y1_0, y2_0, m_0, rfl, rfl, rfl, g0_0, g1_0, g2_0⟩ := open_agg3 Try.underlying64 (by kernel_rfl) (by kernel_rfl) (hval 0 64 v0 rfl rfl) h0
  obtain ⟨p0, e0_0, rfl, u0_0⟩ := DataW.trod_string Try.underlying9 g0_0
  obtain ⟨q0, e1_0, rfl, u1_0⟩ := DataW.trod_int Try.underlying3 g1_0
  obtain ⟨v0, e2_0, rfl, u2_0⟩ := DataW.trod_int Try.underlying3 g2_0
  simp at e0_0 e1_0 e2_0
  subst e0_0 e1_0 e2_0
  have w0 : Gl.wf ⟨p0, q0, v0⟩ := ⟨u0_0, bounds_i64 u1_0, bounds_i64 u2_0⟩
  clear hA0
  refine (walk ⟨p0, q0, v0⟩ W w0).mono fun e W' ⟨he, bel⟩ => ?_
  subst he
  exact ⟨_, rfl, _, _, _, [], _, [], hW', trodAll_mk1 (shut_bool Try.underlying4 _), (trodAll_cons_mk (Below.trod laidOut (by kernel_rfl) (of_decide_eq_true (by kernel_rfl)) k0 bel lt0) trodAll_mk0), rfl, bel.frame _, fun h => by cases h⟩

theorem over : Rows.fnExactGoalOkRow.holds Try.pinned (OpenSpec.ofChange Rows.fnExactGoalOkSpec) :=
  OpenClaim.holds_of_wide 8 Try.f8 rfl rfl rfl rfl rfl rfl rfl ⟨rfl, rfl, rfl, rfl, rfl⟩ rfl rfl rfl rfl rfl (by kernel_rfl) Try.func8 (by kernel_rfl)
    (of_decide_eq_true (by kernel_rfl)) (by unfold Func.isWrapper; first | (rw [if_pos (by decide +kernel)]; kernel_rfl) | (rw [if_neg (by decide +kernel)]; exact ⟨rfl, rfl⟩))
    (fun os started H enc _ => lifted os started H enc)

/-- THE STATEMENT. -/
theorem proved : Rows.FnExactGoalOkSaid := over
end Go.Proofs.Ytimpajhgplkpmaa.fnExactGoalOk
