/- For every input that can be read, the Go function laws.FnExactCountPoints returns true and leaves its arguments as they read: the statement Rows.FnExactCountPointsSaid, without a condition of ours. -/
import Derived.Test.YtgbkmnhdgaeejaaRows
import Derived.WalkKit
import Derived.ProofKit
import Derived.OpenShut
import Derived.ShutString
import Derived.ChangeOld
import Derived.Below
import Derived.Test.YtgbkmnhdgaeejaaC1
import Derived.Test.YtgbkmnhdgaeejaaC2
import Derived.Test.YtgbkmnhdgaeejaaSmps
import Derived.Test.YtgbkmnhdgaeejaaMem
import Derived.Test.YtgbkmnhdgaeejaaSer
import Derived.Test.YtgbkmnhdgaeejaaSer2
import Derived.Test.YtgbkmnhdgaeejaaKey
import Derived.Test.YtgbkmnhdgaeejaaSto
import Derived.Test.YtgbkmnhdgaeejaaStoL
import Derived.Test.YtgbkmnhdgaeejaaCnt
namespace Go.Proofs.Ytgbkmnhdgaeejaa.fnExactCountPoints
open Go.ChangeShapes Go.WideShapes Go.ChangeAt Go.RowKit
open Go.ChangeMaps (open_string shut_string)
open Go.Proofs.Ytgbkmnhdgaeejaa.C1
open Go.Proofs.Ytgbkmnhdgaeejaa.C2
open Go.Proofs.Ytgbkmnhdgaeejaa.Smps
open Go.Proofs.Ytgbkmnhdgaeejaa.Mem
open Go.Proofs.Ytgbkmnhdgaeejaa.Ser
open Go.Proofs.Ytgbkmnhdgaeejaa.Ser2
open Go.Proofs.Ytgbkmnhdgaeejaa.Key
open Go.Proofs.Ytgbkmnhdgaeejaa.Sto
open Go.Proofs.Ytgbkmnhdgaeejaa.StoL
open Go.Proofs.Ytgbkmnhdgaeejaa.Cnt
set_option linter.unusedVariables false

theorem own : ownKnob Try.prog.godebug = none := by kernel_rfl
theorem laidOut : laidOutB Try.prog = true := by kernel_rfl
set_option maxHeartbeats 4000000 in
set_option maxRecDepth 100000 in
theorem walk (a0 : Option Addr) (len0 cap0 : Nat) (z0 : List Sv) (w : World) (w0 : IsSrs w a0 len0 cap0 z0)  :
    Calls Try.prog 11 #[.slice a0 len0 cap0] w fun e w' => e = .returned (.bool true) ∧ Below w.heap.size w w' := by
  obtain ⟨hl, hcap, hmax, hwf, hS⟩ := w0
  subst hl
  have hml : z0.length ≤ 9223372036854775807 := by unfold maxLen at hmax; omega
  have HW := Lib.hid hwf
  have HS := Lib.hid hS
  clear hwf hS
  go_enter Try.func11, Try.ntmps11
  go_wp2_with (go_at_call 12; refine (sz_series z0 HW.out _ _ hml _ HS.out).mono ?_; rintro e u1 ⟨r, rfl, hb1, hr⟩; have HB1 := Lib.hid hb1; clear hb1; rcases hr with hr | ⟨hr, hr2, hn, hsz⟩)
  · go_ret
    exact ⟨rfl, HB1.out⟩
  · have HS1 := Lib.hid (HS.out.kept HB1.out)
    have HP := Lib.hid (sum_pts hsz)
    clear hsz
    go_wp2_with (go_at_call 14; refine (to_series z0 _ _ _ HS1.out hn HP.out).mono ?_; rintro e u2 ⟨g2, m2, rfl, hm2, ho2, hg2, hb2⟩; have HM2 := Lib.hid hm2; have HI2 := Lib.hid (srs_of ho2 hg2); have HB2 := Lib.hid (HB1.out.trans (hb2.mono HB1.out.size)); have HS2 := Lib.hid (HS1.out.kept hb2); clear ho2 hg2 hb2 hm2)
    go_wp2_with (go_at_call 50; refine (spec_count2 z0 m2 HM2.out _ _ _ HW.out HI2.out hn).mono ?_; rintro e u3 ⟨rfl, hb3⟩; have HB3 := Lib.hid (HB2.out.trans (hb3.mono HB2.out.size)); have HS3 := Lib.hid (HS2.out.kept hb3); clear hb3)
    go_wp2_with (go_at_call 14; refine (to_series z0 _ _ _ HS3.out hn HP.out).mono ?_; rintro e u4 ⟨g4, m4, rfl, hm4, ho4, hg4, hb4⟩; have HM4 := Lib.hid hm4; have HI4 := Lib.hid (srs_of ho4 hg4); have HB4 := Lib.hid (HB3.out.trans (hb4.mono HB3.out.size)); have HS4 := Lib.hid (HS3.out.kept hb4); clear ho4 hg4 hb4 hm4)
    go_wp2_with (go_at_call 51; refine (impl_count2 z0 m4 HM4.out _ _ _ HW.out HP.out HI4.out hn).mono ?_; rintro e u5 ⟨rfl, hb5⟩; have HB5 := Lib.hid (HB4.out.trans (hb5.mono HB4.out.size)); have HS5 := Lib.hid (HS4.out.kept hb5); have HI5 := Lib.hid (HI4.out.kept hb5); clear hb5)
    go_wp2_with (go_at_call 14; refine (to_series z0 _ _ _ HS5.out hn HP.out).mono ?_; rintro e u6 ⟨g6, m6, rfl, hm6, ho6, hg6, hb6⟩; have HM6 := Lib.hid hm6; have HJ6 := Lib.hid (srs_of ho6 hg6); have HB6 := Lib.hid (HB5.out.trans (hb6.mono HB5.out.size)); have HI6 := Lib.hid (HI5.out.kept hb6); clear ho6 hg6 hb6 hm6)
    go_wp2_with (go_at_call 16; refine (eq_series2 z0 m4 m6 HM4.out HM6.out _ _ _ _ _ HI6.out HJ6.out hn HP.out).mono ?_; rintro e u7 ⟨rfl, hb7⟩; have HB7 := Lib.hid (HB6.out.trans (hb7.mono HB6.out.size)); clear hb7)
    go_ret
    exact ⟨rfl, HB7.out⟩

set_option maxRecDepth 100000 in
theorem lifted (os : Os) (started : os.Started) (H : Type) (enc : TypeId × Value → H) :
    ReturnsInHanded {} Try.checked os 11 .any (Rows.fnExactCountPointsSpec.pre6 enc Try.prog Try.f11 Rows.fnExactCountPointsRow.domain false) (Rows.fnExactCountPointsSpec.post enc Try.prog Try.f11 false true false false) := by
  refine returnsInHanded_of_change (C := Try.checked) own started (by kernel_rfl) Try.func11
    (ChangeSpec.witness6 (enc := enc) (C := Try.checked) false ⟨#[], #[.slice none 0 0], []⟩ 8 (by kernel_rfl) (by kernel_rfl) (by kernel_rfl) (by kernel_rfl)) ?_
  intro W base args ds gs before hval0 hW hcnd _
  have hval : ∀ (j : Nat) t v, Try.f11.params[j]? = some t → args[j]? = some v → Value.okWide Try.prog W .any base t v := hval0
  clear hval0
  have hW' := hW
  obtain ⟨p, q, hA0, hV, rfl, hfz, hnd⟩ := hW
  have hA : DataW.TrodAll enc Try.prog W 0 (fun _ => true) true Try.f11.params.toList args.toList ds p := hA0
  rw [Try.params11] at hA hval
  obtain ⟨v0, vs0, d0, ds0, p0, q0, hargs, rfl, rfl, h0, r0⟩ := trodAll_cons hA
  obtain ⟨rfl, rfl, rfl⟩ := trodAll_nil r0
  obtain rfl : args = #[v0] := by cases args; simp_all
  obtain ⟨rfl, rfl⟩ := trodVars_none hV
  have k0 := h0
  have lt0 : ∀ x ∈ p0, x.block < W.heap.size := by obtain ⟨m, hm⟩ := k0; exact DataW.trod_lt m _ _ _ hm
  obtain ⟨a0, len0, cap0, rfl⟩ := okWide_slice Try.underlying22 (hval 0 22 v0 rfl rfl)
  obtain ⟨z0, w0⟩ : ∃ zs, IsSrs W a0 len0 cap0 zs := by
    obtain ⟨fuel, hf⟩ := h0
    exact open_srs Try.underlying22 Try.underlying77 (by kernel_rfl) (by kernel_rfl) ⟨rfl, rfl, rfl⟩ Try.underlying9 Try.underlying75 Try.underlying113 (by kernel_rfl) (by kernel_rfl) ⟨rfl, rfl⟩ Try.underlying3 hf
  clear hA0
  refine (walk a0 len0 cap0 z0 W w0).mono fun e W' ⟨he, bel⟩ => ?_
  subst he
  exact ⟨_, rfl, _, _, _, [], _, [], hW', trodAll_mk1 (shut_bool Try.underlying4 _), (trodAll_cons_mk (Below.trod laidOut (by kernel_rfl) (of_decide_eq_true (by kernel_rfl)) k0 bel lt0) trodAll_mk0), rfl, bel.frame _, fun h => by cases h⟩

theorem over : Rows.fnExactCountPointsRow.holds Try.pinned (OpenSpec.ofChange Rows.fnExactCountPointsSpec) :=
  OpenClaim.holds_of_wide 11 Try.f11 rfl rfl rfl rfl rfl rfl rfl ⟨rfl, rfl, rfl, rfl, rfl⟩ rfl rfl rfl rfl rfl (by kernel_rfl) Try.func11 (by kernel_rfl)
    (of_decide_eq_true (by kernel_rfl)) (by unfold Func.isWrapper; first | (rw [if_pos (by decide +kernel)]; kernel_rfl) | (rw [if_neg (by decide +kernel)]; exact ⟨rfl, rfl⟩))
    (fun os started H enc _ => lifted os started H enc)

/-- THE STATEMENT. -/
theorem proved : Rows.FnExactCountPointsSaid := over
end Go.Proofs.Ytgbkmnhdgaeejaa.fnExactCountPoints
