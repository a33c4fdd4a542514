/- For every input that can be read, the Go function laws.FnExactAliveOf returns true and leaves its arguments as they read: the statement Rows.FnExactAliveOfSaid, without a condition of ours. -/
import Derived.Test.YtihhbgihejjmeabRows
import Derived.WalkKit
import Derived.ProofKit
import Derived.OpenShut
import Derived.ShutString
import Derived.ChangeOld
import Derived.Below
import Derived.Test.YtihhbgihejjmeabC1
import Derived.Test.YtihhbgihejjmeabC2
import Derived.Test.YtihhbgihejjmeabSmps
import Derived.Test.YtihhbgihejjmeabMem
import Derived.Test.YtihhbgihejjmeabPd
import Derived.Test.YtihhbgihejjmeabPds
import Derived.Test.YtihhbgihejjmeabRos
import Derived.Test.YtihhbgihejjmeabPok
import Derived.Test.YtihhbgihejjmeabPokI
import Derived.Test.YtihhbgihejjmeabRun
namespace Go.Proofs.Ytihhbgihejjmeab.fnExactAliveOf
open Go.ChangeShapes Go.WideShapes Go.ChangeAt Go.RowKit
open Go.ChangeMaps (open_string shut_string)
open Go.Proofs.Ytihhbgihejjmeab.C1
open Go.Proofs.Ytihhbgihejjmeab.C2
open Go.Proofs.Ytihhbgihejjmeab.Smps
open Go.Proofs.Ytihhbgihejjmeab.Mem
open Go.Proofs.Ytihhbgihejjmeab.Pd
open Go.Proofs.Ytihhbgihejjmeab.Pds
open Go.Proofs.Ytihhbgihejjmeab.Ros
open Go.Proofs.Ytihhbgihejjmeab.Pok
open Go.Proofs.Ytihhbgihejjmeab.PokI
open Go.Proofs.Ytihhbgihejjmeab.Run
set_option linter.unusedVariables false

theorem own : ownKnob Try.prog.godebug = none := by kernel_rfl
theorem laidOut : laidOutB Try.prog = true := by kernel_rfl
set_option maxHeartbeats 4000000 in
set_option maxRecDepth 100000 in
theorem walk (a0 : Option Addr) (len0 cap0 : Nat) (z0 : List Pd) (w : World) (w0 : IsPds w a0 len0 cap0 z0)  :
    Calls Try.prog 3 #[.slice a0 len0 cap0] w fun e w' => e = .returned (.bool true) ∧ Below w.heap.size w w' := by
  obtain ⟨hl, hcap, hmax, hwf, hS⟩ := w0
  subst hl
  have hml : z0.length ≤ 9223372036854775807 := by unfold maxLen at hmax; omega
  have HW := Lib.hid hwf
  have HS := Lib.hid hS
  clear hwf hS
  obtain ⟨c, hc⟩ : ∃ c, aliveV z0 = c := ⟨_, rfl⟩
  have HCV := Lib.hid hc
  clear hc
  have hcn : (c != c) = false := by simp
  go_enter Try.func3, Try.ntmps3
  go_wp2_with (go_at_call 4; refine (sz_pods z0 HW.out _ _ hml _ HS.out).mono ?_; rintro e u1 ⟨r, rfl, hb1, hr⟩; have HB1 := Lib.hid hb1; clear hb1; rcases hr with hr | ⟨hr, hr2, hn, hsz⟩)
  · go_ret
    exact ⟨rfl, HB1.out⟩
  · have HS1 := Lib.hid (HS.out.kept HB1.out)
    clear hsz
    go_wp2_with (go_at_call 6; refine (to_pods z0 _ _ _ HS1.out hn).mono ?_; rintro e u2 ⟨g2, rfl, ho2, hb2⟩; have HI2 := Lib.hid (pds_of ho2); have HB2 := Lib.hid (HB1.out.trans (hb2.mono HB1.out.size)); have HS2 := Lib.hid (HS1.out.kept hb2); clear ho2 hb2)
    go_wp2_with (go_at_call 5; refine (spec_alive2 z0 HW.out _ _ _ HI2.out hn HCV.out).mono ?_; rintro e u3 ⟨rfl, hb3⟩; have HB3 := Lib.hid (HB2.out.trans (hb3.mono HB2.out.size)); have HS3 := Lib.hid (HS2.out.kept hb3); clear hb3)
    go_wp2_with (go_at_call 6; refine (to_pods z0 _ _ _ HS3.out hn).mono ?_; rintro e u4 ⟨g4, rfl, ho4, hb4⟩; have HI4 := Lib.hid (pds_of ho4); have HB4 := Lib.hid (HB3.out.trans (hb4.mono HB3.out.size)); have HS4 := Lib.hid (HS3.out.kept hb4); clear ho4 hb4)
    go_wp2_with (go_at_call 7; refine (impl_alive2 z0 HW.out _ _ _ HI4.out hn HCV.out).mono ?_; rintro e u5 ⟨rfl, hb5⟩; have HB5 := Lib.hid (HB4.out.trans (hb5.mono HB4.out.size)); have HS5 := Lib.hid (HS4.out.kept hb5); have HI5 := Lib.hid (HI4.out.kept hb5); clear hb5)
    go_wp2_with (go_at_call 6; refine (to_pods z0 _ _ _ HS5.out hn).mono ?_; rintro e u6 ⟨g6, rfl, ho6, hb6⟩; have HJ6 := Lib.hid (pds_of ho6); have HB6 := Lib.hid (HB5.out.trans (hb6.mono HB5.out.size)); have HI6 := Lib.hid (HI5.out.kept hb6); clear ho6 hb6)
    go_wp2_with (go_at_call 8; refine (eq_pods z0 _ _ _ _ _ HI6.out HJ6.out hn).mono ?_; rintro e u7 ⟨rfl, hb7⟩; have HB7 := Lib.hid (HB6.out.trans (hb7.mono HB6.out.size)); clear hb7)
    go_ret
    exact ⟨rfl, HB7.out⟩

set_option maxRecDepth 100000 in
theorem lifted (os : Os) (started : os.Started) (H : Type) (enc : TypeId × Value → H) :
    ReturnsInHanded {} Try.checked os 3 .any (Rows.fnExactAliveOfSpec.pre6 enc Try.prog Try.f3 Rows.fnExactAliveOfRow.domain false) (Rows.fnExactAliveOfSpec.post enc Try.prog Try.f3 false true false false) := by
  refine returnsInHanded_of_change (C := Try.checked) own started (by kernel_rfl) Try.func3
    (ChangeSpec.witness6 (enc := enc) (C := Try.checked) false ⟨#[], #[.slice none 0 0], []⟩ 8 (by kernel_rfl) (by kernel_rfl) (by kernel_rfl) (by kernel_rfl)) ?_
  intro W base args ds gs before hval0 hW hcnd _
  have hval : ∀ (j : Nat) t v, Try.f3.params[j]? = some t → args[j]? = some v → Value.okWide Try.prog W .any base t v := hval0
  clear hval0
  have hW' := hW
  obtain ⟨p, q, hA0, hV, rfl, hfz, hnd⟩ := hW
  have hA : DataW.TrodAll enc Try.prog W 0 (fun _ => true) true Try.f3.params.toList args.toList ds p := hA0
  rw [Try.params3] at hA hval
  obtain ⟨v0, vs0, d0, ds0, p0, q0, hargs, rfl, rfl, h0, r0⟩ := trodAll_cons hA
  obtain ⟨rfl, rfl, rfl⟩ := trodAll_nil r0
  obtain rfl : args = #[v0] := by cases args; simp_all
  obtain ⟨rfl, rfl⟩ := trodVars_none hV
  have k0 := h0
  have lt0 : ∀ x ∈ p0, x.block < W.heap.size := by obtain ⟨m, hm⟩ := k0; exact DataW.trod_lt m _ _ _ hm
  obtain ⟨a0, len0, cap0, rfl⟩ := okWide_slice Try.underlying22 (hval 0 22 v0 rfl rfl)
  obtain ⟨z0, w0⟩ : ∃ zs, IsPds W a0 len0 cap0 zs := by
    obtain ⟨fuel, hf⟩ := h0
    exact open_pds Try.underlying22 Try.underlying31 (by kernel_rfl) (by kernel_rfl) ⟨rfl, rfl, rfl, rfl⟩ Try.underlying9 Try.underlying3 Try.underlying4 hf
  clear hA0
  refine (walk a0 len0 cap0 z0 W w0).mono fun e W' ⟨he, bel⟩ => ?_
  subst he
  exact ⟨_, rfl, _, _, _, [], _, [], hW', trodAll_mk1 (shut_bool Try.underlying4 _), (trodAll_cons_mk (Below.trod laidOut (by kernel_rfl) (of_decide_eq_true (by kernel_rfl)) k0 bel lt0) trodAll_mk0), rfl, bel.frame _, fun h => by cases h⟩

theorem over : Rows.fnExactAliveOfRow.holds Try.pinned (OpenSpec.ofChange Rows.fnExactAliveOfSpec) :=
  OpenClaim.holds_of_wide 3 Try.f3 rfl rfl rfl rfl rfl rfl rfl ⟨rfl, rfl, rfl, rfl, rfl⟩ rfl rfl rfl rfl rfl (by kernel_rfl) Try.func3 (by kernel_rfl)
    (of_decide_eq_true (by kernel_rfl)) (by unfold Func.isWrapper; first | (rw [if_pos (by decide +kernel)]; kernel_rfl) | (rw [if_neg (by decide +kernel)]; exact ⟨rfl, rfl⟩))
    (fun os started H enc _ => lifted os started H enc)

/-- THE STATEMENT. -/
theorem proved : Rows.FnExactAliveOfSaid := over
end Go.Proofs.Ytihhbgihejjmeab.fnExactAliveOf
