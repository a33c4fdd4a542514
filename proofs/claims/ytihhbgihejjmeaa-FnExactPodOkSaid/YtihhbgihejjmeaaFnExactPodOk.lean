/- For every input that can be read, the Go function laws.FnExactPodOk returns true and leaves its arguments as they read: the statement Rows.FnExactPodOkSaid, without a condition of ours. -/
import Derived.Test.YtihhbgihejjmeaaRows
import Derived.WalkKit
import Derived.ProofKit
import Derived.OpenShut
import Derived.ShutString
import Derived.ChangeOld
import Derived.Below
import Derived.Lib.SmallJoins
import Derived.Test.YtihhbgihejjmeaaC1
import Derived.Test.YtihhbgihejjmeaaC2
import Derived.Test.YtihhbgihejjmeaaSmps
import Derived.Test.YtihhbgihejjmeaaMem
import Derived.Test.YtihhbgihejjmeaaPd
namespace Go.Proofs.Ytihhbgihejjmeaa.fnExactPodOk
open Go.ChangeShapes Go.WideShapes Go.ChangeAt Go.RowKit Go.Joins
open Go.ChangeMaps (open_string shut_string)
open Go.Proofs.Ytihhbgihejjmeaa.C1
open Go.Proofs.Ytihhbgihejjmeaa.C2
open Go.Proofs.Ytihhbgihejjmeaa.Smps
open Go.Proofs.Ytihhbgihejjmeaa.Mem
open Go.Proofs.Ytihhbgihejjmeaa.Pd
set_option linter.unusedVariables false

theorem own : ownKnob Try.prog.godebug = none := by kernel_rfl
theorem laidOut : laidOutB Try.prog = true := by kernel_rfl
set_option maxHeartbeats 4000000 in
set_option maxRecDepth 100000 in
theorem walk (x0 : Pd) (w : World) (w0 : x0.wf)  :
    Calls Try.prog 5 #[podV x0] w fun e w' => e = .returned (.bool true) ∧ Below w.heap.size w w' := by
  obtain ⟨hp, -, -⟩ := id w0
  unfold maxLen at hp
  by_cases hbig : (1048576 : Int) < x0.nm.size
  · unfold podV
    go_enter Try.func5, Try.ntmps5
    go_wp2_with (go_at_call 28; refine (sz_pod x0 w0 1048576 (by omega) (by omega) _).mono ?_; rw [if_pos hbig]; rintro e w1 ⟨rfl, hb1⟩; obtain ⟨r1, r2, q0, q1, q2, q3⟩ := box_read hb1; clear hb1)
    go_ret
    exact ⟨rfl, r2⟩
  · obtain ⟨L, hL, hL0⟩ : ∃ L : Int, L = 1048576 - x0.nm.size ∧ 0 ≤ L := ⟨_, rfl, by omega⟩
    unfold podV
    go_enter Try.func5, Try.ntmps5
    go_wp2_with (go_at_call 28; refine (sz_pod x0 w0 1048576 (by omega) (by omega) _).mono ?_; rw [if_neg hbig, ← hL]; rintro e w1 ⟨rfl, hb1⟩; obtain ⟨r1, r2, q0, q1, q2, q3⟩ := box_read hb1; clear hb1)
    go_wp2_with (go_at_call 30; refine (to_pod x0 _).mono ?_; rintro e w2 ⟨rfl, hb2⟩; obtain ⟨s1, p0, p1, p2, p3⟩ := keep4 r1 hb2 q0 q1 q2 q3; have R2 := r2.trans (hb2.mono (Nat.le_of_lt r1)); clear hb2 q0 q1 q2 q3 r2)
    go_wp2_with (go_at_call 29; refine (spec_podok x0 w0 _).mono ?_; rintro e w3 ⟨rfl, hb3⟩; obtain ⟨s3, m0, m1, m2, m3⟩ := keep4 s1 hb3 p0 p1 p2 p3; have R3 := R2.trans (hb3.mono (Nat.le_of_lt s1)); clear hb3 p0 p1 p2 p3 R2)
    go_wp2_with (first
      | (go_at_call 30; refine (to_pod x0 _).mono ?_; rintro e w4 ⟨rfl, hb4⟩; have R4 := R3.trans (hb4.mono (Nat.le_of_lt s3)); have s4 := Nat.le_trans (Nat.le_of_lt s3) hb4.size)
      | (go_at_call 31; refine (impl_podok x0 w0 _).mono ?_; rintro e w5 ⟨rfl, hb5⟩))
    go_ret
    exact ⟨rfl, R4.trans (hb5.mono s4)⟩

set_option maxRecDepth 100000 in
theorem lifted (os : Os) (started : os.Started) (H : Type) (enc : TypeId × Value → H) :
    ReturnsInHanded {} Try.checked os 5 .any (Rows.fnExactPodOkSpec.pre6 enc Try.prog Try.f5 Rows.fnExactPodOkRow.domain false) (Rows.fnExactPodOkSpec.post enc Try.prog Try.f5 false true false false) := by
  refine returnsInHanded_of_change (C := Try.checked) own started (by kernel_rfl) Try.func5
    (ChangeSpec.witness6 (enc := enc) (C := Try.checked) false ⟨#[], #[.agg #[.string ⟨#[]⟩, .int .i64 0, .int .i64 0, .bool false]], []⟩ 8 (by kernel_rfl) (by kernel_rfl) (by kernel_rfl) (by kernel_rfl)) ?_
  intro W base args ds gs before hval0 hW hcnd _
  have hval : ∀ (j : Nat) t v, Try.f5.params[j]? = some t → args[j]? = some v → Value.okWide Try.prog W .any base t v := hval0
  clear hval0
  have hW' := hW
  obtain ⟨p, q, hA0, hV, rfl, hfz, hnd⟩ := hW
  have hA : DataW.TrodAll enc Try.prog W 0 (fun _ => true) true Try.f5.params.toList args.toList ds p := hA0
  rw [Try.params5] at hA hval
  obtain ⟨v0, vs0, d0, ds0, p0, q0, hargs, rfl, rfl, h0, r0⟩ := trodAll_cons hA
  obtain ⟨rfl, rfl, rfl⟩ := trodAll_nil r0
  obtain rfl : args = #[v0] := by cases args; simp_all
  obtain ⟨rfl, rfl⟩ := trodVars_none hV
  have k0 := h0
  have lt0 : ∀ x ∈ p0, x.block < W.heap.size := by obtain ⟨m, hm⟩ := k0; exact DataW.trod_lt m _ _ _ hm
  obtain ⟨c0_0, c1_0, c2_0, c3_0, y0_0, y1_0, y2_0, y3_0, m_0, rfl, rfl, rfl, g0_0, g1_0, g2_0, g3_0⟩ := open_agg4 Try.underlying49 (by kernel_rfl) (by kernel_rfl) (hval 0 49 v0 rfl rfl) h0
  obtain ⟨p0, e0_0, rfl, u0_0⟩ := DataW.trod_string Try.underlying9 g0_0
  obtain ⟨q0, e1_0, rfl, u1_0⟩ := DataW.trod_int Try.underlying3 g1_0
  obtain ⟨v0, e2_0, rfl, u2_0⟩ := DataW.trod_int Try.underlying3 g2_0
  obtain ⟨t0, e3_0, rfl⟩ := DataW.trod_bool Try.underlying4 g3_0
  simp at e0_0 e1_0 e2_0 e3_0
  subst e0_0 e1_0 e2_0 e3_0
  have w0 : Pd.wf ⟨p0, q0, v0, t0⟩ := ⟨u0_0, bounds_i64 u1_0, bounds_i64 u2_0⟩
  clear hA0
  refine (walk ⟨p0, q0, v0, t0⟩ W w0).mono fun e W' ⟨he, bel⟩ => ?_
  subst he
  exact ⟨_, rfl, _, _, _, [], _, [], hW', trodAll_mk1 (shut_bool Try.underlying4 _), (trodAll_cons_mk (Below.trod laidOut (by kernel_rfl) (of_decide_eq_true (by kernel_rfl)) k0 bel lt0) trodAll_mk0), rfl, bel.frame _, fun h => by cases h⟩

theorem over : Rows.fnExactPodOkRow.holds Try.pinned (OpenSpec.ofChange Rows.fnExactPodOkSpec) :=
  OpenClaim.holds_of_wide 5 Try.f5 rfl rfl rfl rfl rfl rfl rfl ⟨rfl, rfl, rfl, rfl, rfl⟩ rfl rfl rfl rfl rfl (by kernel_rfl) Try.func5 (by kernel_rfl)
    (of_decide_eq_true (by kernel_rfl)) (by unfold Func.isWrapper; first | (rw [if_pos (by decide +kernel)]; kernel_rfl) | (rw [if_neg (by decide +kernel)]; exact ⟨rfl, rfl⟩))
    (fun os started H enc _ => lifted os started H enc)

/-- THE STATEMENT. -/
theorem proved : Rows.FnExactPodOkSaid := over
end Go.Proofs.Ytihhbgihejjmeaa.fnExactPodOk
