/- For every input that can be read, the Go function laws.FnExactInBand returns true and leaves its arguments as they read: the statement Rows.FnExactInBandSaid, without a condition of ours. -/
import Derived.Test.YtimpajhgplkpmaaRows
import Derived.WalkKit
import Derived.ProofKit
import Derived.OpenShut
import Derived.ShutString
import Derived.ChangeOld
import Derived.Below
import Derived.Lib.SmallJoins
import Derived.Test.YtimpajhgplkpmaaC1
import Derived.Test.YtimpajhgplkpmaaFlt
import Derived.Test.YtimpajhgplkpmaaC2
import Derived.Test.YtimpajhgplkpmaaSmps
import Derived.Test.YtimpajhgplkpmaaMem
import Derived.Test.YtimpajhgplkpmaaPd
import Derived.Test.YtimpajhgplkpmaaGl
import Derived.Test.YtimpajhgplkpmaaRs
import Derived.Test.YtimpajhgplkpmaaBd
namespace Go.Proofs.Ytimpajhgplkpmaa.fnExactInBand
open Go.ChangeShapes Go.WideShapes Go.ChangeAt Go.RowKit Go.Joins
open Go.ChangeMaps (open_string shut_string)
open Go.Proofs.Ytimpajhgplkpmaa.C1
open Go.Proofs.Ytimpajhgplkpmaa.Flt
open Go.Proofs.Ytimpajhgplkpmaa.C2
open Go.Proofs.Ytimpajhgplkpmaa.Smps
open Go.Proofs.Ytimpajhgplkpmaa.Mem
open Go.Proofs.Ytimpajhgplkpmaa.Pd
open Go.Proofs.Ytimpajhgplkpmaa.Gl
open Go.Proofs.Ytimpajhgplkpmaa.Rs
open Go.Proofs.Ytimpajhgplkpmaa.Bd
set_option linter.unusedVariables false

theorem own : ownKnob Try.prog.godebug = none := by kernel_rfl
theorem laidOut : laidOutB Try.prog = true := by kernel_rfl
set_option maxHeartbeats 4000000 in
set_option maxRecDepth 100000 in
theorem walk (a0 : Int) (a1 : Int) (x2 : Gl) (w : World) (w0 : (Lit.int .i64 a0).wf = true) (w1 : (Lit.int .i64 a1).wf = true) (w2 : x2.wf)  :
    Calls Try.prog 10 #[.int .i64 a0, .int .i64 a1, glV x2] w fun e w' => e = .returned (.bool true) ∧ Below w.heap.size w w' := by
  obtain ⟨hp, -, -⟩ := id w2
  unfold maxLen at hp
  by_cases hbig : (1048576 : Int) < x2.met.size
  · unfold glV
    go_enter Try.func10, Try.ntmps10
    go_wp2_with (go_at_call 41; refine (sz_goal x2 w2 1048576 (by omega) (by omega) _).mono ?_; rw [if_pos hbig]; rintro e w1 ⟨rfl, hb1⟩; obtain ⟨r1, r2, q0, q1, q2⟩ := box_read3 hb1; clear hb1)
    go_ret
    exact ⟨rfl, r2⟩
  · obtain ⟨L, hL, hL0⟩ : ∃ L : Int, L = 1048576 - x2.met.size ∧ 0 ≤ L := ⟨_, rfl, by omega⟩
    have hsb := fun W => spec_inband a0 a1 x2 w2 W
    have hib := fun W => impl_inband a0 a1 x2 w2 W
    obtain ⟨v, hv⟩ : ∃ v, bandV a0 a1 x2 = v := ⟨_, rfl⟩
    have hvn : (v != v) = false := by cases v <;> rfl
    rw [hv] at hsb hib
    clear hv
    unfold glV at hsb hib ⊢
    go_enter Try.func10, Try.ntmps10
    go_wp2_with (go_at_call 41; refine (sz_goal x2 w2 1048576 (by omega) (by omega) _).mono ?_; rw [if_neg hbig, ← hL]; rintro e w1 ⟨rfl, hb1⟩; obtain ⟨r1, r2, q0, q1, q2⟩ := box_read3 hb1; clear hb1)
    go_wp2_with (go_at_call 43; refine (to_goal x2 _).mono ?_; rintro e w2 ⟨rfl, hb2⟩; obtain ⟨s1, p0, p1, p2⟩ := keep3 r1 hb2 q0 q1 q2; have R2 := r2.trans (hb2.mono (Nat.le_of_lt r1)); clear hb2 q0 q1 q2 r2)
    go_wp2_with (go_at_call 46; refine (hsb _).mono ?_; rintro e w3 ⟨rfl, hb3⟩; obtain ⟨s3, m0, m1, m2⟩ := keep3 s1 hb3 p0 p1 p2; have R3 := R2.trans (hb3.mono (Nat.le_of_lt s1)); clear hb3 p0 p1 p2 R2)
    go_wp2_with (first
      | (go_at_call 43; refine (to_goal x2 _).mono ?_; rintro e w4 ⟨rfl, hb4⟩; have R4 := R3.trans (hb4.mono (Nat.le_of_lt s3)); have s4 := Nat.le_trans (Nat.le_of_lt s3) hb4.size)
      | (go_at_call 17; refine (hib _).mono ?_; rintro e w5 ⟨rfl, hb5⟩))
    go_ret
    exact ⟨rfl, R4.trans (hb5.mono s4)⟩

set_option maxRecDepth 100000 in
theorem lifted (os : Os) (started : os.Started) (H : Type) (enc : TypeId × Value → H) :
    ReturnsInHanded {} Try.checked os 10 .any (Rows.fnExactInBandSpec.pre6 enc Try.prog Try.f10 Rows.fnExactInBandRow.domain false) (Rows.fnExactInBandSpec.post enc Try.prog Try.f10 false true false false) := by
  refine returnsInHanded_of_change (C := Try.checked) own started (by kernel_rfl) Try.func10
    (ChangeSpec.witness6 (enc := enc) (C := Try.checked) false ⟨#[], #[.int .i64 0, .int .i64 0, .agg #[.string ⟨#[]⟩, .int .i64 0, .int .i64 0]], []⟩ 8 (by kernel_rfl) (by kernel_rfl) (by kernel_rfl) (by kernel_rfl)) ?_
  intro W base args ds gs before hval0 hW hcnd _
  have hval : ∀ (j : Nat) t v, Try.f10.params[j]? = some t → args[j]? = some v → Value.okWide Try.prog W .any base t v := hval0
  clear hval0
  have hW' := hW
  obtain ⟨p, q, hA0, hV, rfl, hfz, hnd⟩ := hW
  have hA : DataW.TrodAll enc Try.prog W 0 (fun _ => true) true Try.f10.params.toList args.toList ds p := hA0
  rw [Try.params10] at hA hval
  obtain ⟨v0, vs0, d0, ds0, p0, q0, hargs, rfl, rfl, h0, r0⟩ := trodAll_cons hA
  obtain ⟨v1, vs1, d1, ds1, p1, q1, rfl, rfl, rfl, h1, r1⟩ := trodAll_cons r0
  obtain ⟨v2, vs2, d2, ds2, p2, q2, rfl, rfl, rfl, h2, r2⟩ := trodAll_cons r1
  obtain ⟨rfl, rfl, rfl⟩ := trodAll_nil r2
  obtain rfl : args = #[v0, v1, v2] := by cases args; simp_all
  obtain ⟨rfl, rfl⟩ := trodVars_none hV
  have k0 := h0
  have lt0 : ∀ x ∈ p0, x.block < W.heap.size := by obtain ⟨m, hm⟩ := k0; exact DataW.trod_lt m _ _ _ hm
  have k1 := h1
  have lt1 : ∀ x ∈ p1, x.block < W.heap.size := by obtain ⟨m, hm⟩ := k1; exact DataW.trod_lt m _ _ _ hm
  have k2 := h2
  have lt2 : ∀ x ∈ p2, x.block < W.heap.size := by obtain ⟨m, hm⟩ := k2; exact DataW.trod_lt m _ _ _ hm
  obtain ⟨a0, rfl, rfl, rfl, w0⟩ := open_int Try.underlying3 (hval 0 3 v0 rfl rfl) h0
  obtain ⟨a1, rfl, rfl, rfl, w1⟩ := open_int Try.underlying3 (hval 1 3 v1 rfl rfl) h1
  obtain ⟨c0_2, c1_2, c2_2, y0_2, y1_2, y2_2, m_2, rfl, rfl, rfl, g0_2, g1_2, g2_2⟩ := open_agg3 Try.underlying64 (by kernel_rfl) (by kernel_rfl) (hval 2 64 v2 rfl rfl) h2
  obtain ⟨p2, e0_2, rfl, u0_2⟩ := DataW.trod_string Try.underlying9 g0_2
  obtain ⟨q2, e1_2, rfl, u1_2⟩ := DataW.trod_int Try.underlying3 g1_2
  obtain ⟨v2, e2_2, rfl, u2_2⟩ := DataW.trod_int Try.underlying3 g2_2
  simp at e0_2 e1_2 e2_2
  subst e0_2 e1_2 e2_2
  have w2 : Gl.wf ⟨p2, q2, v2⟩ := ⟨u0_2, bounds_i64 u1_2, bounds_i64 u2_2⟩
  clear hA0
  refine (walk a0 a1 ⟨p2, q2, v2⟩ W w0 w1 w2).mono fun e W' ⟨he, bel⟩ => ?_
  subst he
  exact ⟨_, rfl, _, _, _, [], _, [], hW', trodAll_mk1 (shut_bool Try.underlying4 _), (trodAll_cons_mk (shut_int Try.underlying3 w0) (trodAll_cons_mk (shut_int Try.underlying3 w1) (trodAll_cons_mk (Below.trod laidOut (by kernel_rfl) (of_decide_eq_true (by kernel_rfl)) k2 bel lt2) trodAll_mk0))), rfl, bel.frame _, fun h => by cases h⟩

theorem over : Rows.fnExactInBandRow.holds Try.pinned (OpenSpec.ofChange Rows.fnExactInBandSpec) :=
  OpenClaim.holds_of_wide 10 Try.f10 rfl rfl rfl rfl rfl rfl rfl ⟨rfl, rfl, rfl, rfl, rfl⟩ rfl rfl rfl rfl rfl (by kernel_rfl) Try.func10 (by kernel_rfl)
    (of_decide_eq_true (by kernel_rfl)) (by unfold Func.isWrapper; first | (rw [if_pos (by decide +kernel)]; kernel_rfl) | (rw [if_neg (by decide +kernel)]; exact ⟨rfl, rfl⟩))
    (fun os started H enc _ => lifted os started H enc)

/-- THE STATEMENT. -/
theorem proved : Rows.FnExactInBandSaid := over
end Go.Proofs.Ytimpajhgplkpmaa.fnExactInBand
