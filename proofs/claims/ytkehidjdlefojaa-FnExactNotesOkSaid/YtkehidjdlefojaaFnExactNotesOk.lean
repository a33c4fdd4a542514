/- For every input that can be read, the Go function laws.FnExactNotesOk returns true and leaves its arguments as they read: the statement Rows.FnExactNotesOkSaid, without a condition of ours. -/
import Derived.Test.YtkehidjdlefojaaRows
import Derived.WalkKit
import Derived.ProofKit
import Derived.OpenShut
import Derived.ShutString
import Derived.ChangeOld
import Derived.Below
import Derived.Test.YtkehidjdlefojaaC1
import Derived.Test.YtkehidjdlefojaaC2
import Derived.Test.YtkehidjdlefojaaSmps
import Derived.Test.YtkehidjdlefojaaMem
import Derived.Test.YtkehidjdlefojaaSer
import Derived.Test.YtkehidjdlefojaaSer2
import Derived.Test.YtkehidjdlefojaaNt
import Derived.Test.YtkehidjdlefojaaMv
import Derived.Test.YtkehidjdlefojaaPl
import Derived.Test.YtkehidjdlefojaaBhM
import Derived.Test.YtkehidjdlefojaaLogS
import Derived.Test.YtkehidjdlefojaaBhI
import Derived.Test.YtkehidjdlefojaaLogI
namespace Go.Proofs.Ytkehidjdlefojaa.fnExactNotesOk
open Go.ChangeShapes Go.WideShapes Go.ChangeAt Go.RowKit
open Go.ChangeMaps (open_string shut_string)
open Go.Proofs.Ytkehidjdlefojaa.C1
open Go.Proofs.Ytkehidjdlefojaa.C2
open Go.Proofs.Ytkehidjdlefojaa.Smps
open Go.Proofs.Ytkehidjdlefojaa.Mem
open Go.Proofs.Ytkehidjdlefojaa.Ser
open Go.Proofs.Ytkehidjdlefojaa.Ser2
open Go.Proofs.Ytkehidjdlefojaa.Nt
open Go.Proofs.Ytkehidjdlefojaa.Mv
open Go.Proofs.Ytkehidjdlefojaa.Pl
open Go.Proofs.Ytkehidjdlefojaa.BhM
open Go.Proofs.Ytkehidjdlefojaa.LogS
open Go.Proofs.Ytkehidjdlefojaa.BhI
open Go.Proofs.Ytkehidjdlefojaa.LogI
set_option linter.unusedVariables false

theorem own : ownKnob Try.prog.godebug = none := by kernel_rfl
theorem laidOut : laidOutB Try.prog = true := by kernel_rfl
set_option maxHeartbeats 4000000 in
set_option maxRecDepth 100000 in
theorem walk (a0 : Option Addr) (len0 cap0 : Nat) (z0 : List Ser.Pt) (w : World) (w0 : Pl.IsPts w a0 len0 cap0 z0)  :
    Calls Try.prog 8 #[.slice a0 len0 cap0] w fun e w' => e = .returned (.bool true) ∧ Below w.heap.size w w' := by
  obtain ⟨hl, hmax, hwf, hS⟩ := w0
  subst hl
  have hml : z0.length ≤ 9223372036854775807 := by unfold maxLen at hmax; omega
  have HS := Lib.hid hS
  clear hwf hS
  by_cases hn : z0.length ≤ 1048576
  · have hsz := fun w => Nt.sz_points z0.length a0 cap0 hml 1048576 (by omega) (by omega) w
    obtain ⟨L, hL, hL0⟩ : ∃ L : Int, 1048576 - (z0.length : Int) = L ∧ 0 ≤ L := ⟨_, rfl, by omega⟩
    simp only [if_neg (show ¬ (1048576 : Int) < z0.length by omega), hL] at hsz
    have HSZ := Lib.hid hsz
    clear hsz hL
    go_enter Try.func8, Try.ntmps8
    go_wp2_with fail
    refine (HSZ.out _).mono ?_
    rintro e u1 ⟨rfl, rfl⟩
    go_wp2_with fail
    refine (Nt.to_points z0 _ _ _ HS.out hn).mono ?_
    rintro e u2 ⟨g2, rfl, ho2, hb⟩
    have HI2 := Lib.hid (Nt.OwnP.pts ho2)
    have HB2 := Lib.hid hb
    clear ho2 hb
    go_wp2_with fail
    refine (LogS.spec_notesok z0 _ _ _ HI2.out hn).mono ?_
    rintro e u3 ⟨rfl, hb⟩
    have HB3 := Lib.hid (HB2.out.trans (hb.mono HB2.out.size))
    clear hb
    obtain ⟨v, hv⟩ : ∃ v, BhM.logV BhM.noteV z0 = v := ⟨_, rfl⟩
    have HIM := Lib.hid (fun a cap w h => hv ▸ LogI.impl_notesok z0 a cap w h hn)
    have hvv : (v != v) = false := by cases v <;> rfl
    rw [hv]
    clear hv
    go_wp2_with fail
    refine (Nt.to_points z0 _ _ _ (HS.out.kept HB3.out) hn).mono ?_
    rintro e u4 ⟨g4, rfl, ho4, hb⟩
    have HI4 := Lib.hid (Nt.OwnP.pts ho4)
    have HB4 := Lib.hid (HB3.out.trans (hb.mono HB3.out.size))
    clear ho4 hb
    go_wp2_with fail
    refine (HIM.out _ _ _ HI4.out).mono ?_
    rintro e u5 ⟨rfl, hb⟩
    have HB5 := Lib.hid (HB4.out.trans (hb.mono HB4.out.size))
    have HI5 := Lib.hid (HI4.out.kept hb)
    clear hb
    go_wp2_with fail
    refine (Nt.to_points z0 _ _ _ (HS.out.kept HB5.out) hn).mono ?_
    rintro e u6 ⟨g6, rfl, ho6, hb⟩
    have HJ6 := Lib.hid (Nt.OwnP.pts ho6)
    have HB6 := Lib.hid (HB5.out.trans (hb.mono HB5.out.size))
    have HI6 := Lib.hid (HI5.out.kept hb)
    clear ho6 hb
    go_wp2_with fail
    refine (Nt.eq_points z0 _ _ _ _ _ HI6.out HJ6.out hn).mono ?_
    rintro e u7 ⟨rfl, hb⟩
    have HB7 := Lib.hid (HB6.out.trans (hb.mono HB6.out.size))
    clear hb
    go_wp2
    go_ret
    exact ⟨rfl, HB7.out⟩
  · have hsz := fun w => Nt.sz_points z0.length a0 cap0 hml 1048576 (by omega) (by omega) w
    simp only [if_pos (show (1048576 : Int) < z0.length by omega)] at hsz
    have HSZ := Lib.hid hsz
    clear hsz
    go_enter Try.func8, Try.ntmps8
    go_wp2_with fail
    refine (HSZ.out _).mono ?_
    rintro e u1 ⟨rfl, rfl⟩
    go_wp2
    go_ret
    exact ⟨rfl, Below.refl _ _⟩

set_option maxRecDepth 100000 in
theorem lifted (os : Os) (started : os.Started) (H : Type) (enc : TypeId × Value → H) :
    ReturnsInHanded {} Try.checked os 8 .any (Rows.fnExactNotesOkSpec.pre6 enc Try.prog Try.f8 Rows.fnExactNotesOkRow.domain false) (Rows.fnExactNotesOkSpec.post enc Try.prog Try.f8 false true false false) := by
  refine returnsInHanded_of_change (C := Try.checked) own started (by kernel_rfl) Try.func8
    (ChangeSpec.witness6 (enc := enc) (C := Try.checked) false ⟨#[], #[.slice none 0 0], []⟩ 8 (by kernel_rfl) (by kernel_rfl) (by kernel_rfl) (by kernel_rfl)) ?_
  intro W base args ds gs before hval0 hW hcnd _
  have hval : ∀ (j : Nat) t v, Try.f8.params[j]? = some t → args[j]? = some v → Value.okWide Try.prog W .any base t v := hval0
  clear hval0
  have hW' := hW
  obtain ⟨p, q, hA0, hV, rfl, hfz, hnd⟩ := hW
  have hA : DataW.TrodAll enc Try.prog W 0 (fun _ => true) true Try.f8.params.toList args.toList ds p := hA0
  rw [Try.params8] at hA hval
  obtain ⟨v0, vs0, d0, ds0, p0, q0, hargs, rfl, rfl, h0, r0⟩ := trodAll_cons hA
  obtain ⟨rfl, rfl, rfl⟩ := trodAll_nil r0
  obtain rfl : args = #[v0] := by cases args; simp_all
  obtain ⟨rfl, rfl⟩ := trodVars_none hV
  have k0 := h0
  have lt0 : ∀ x ∈ p0, x.block < W.heap.size := by obtain ⟨m, hm⟩ := k0; exact DataW.trod_lt m _ _ _ hm
  obtain ⟨a0, len0, cap0, rfl⟩ := okWide_slice Try.underlying71 (hval 0 71 v0 rfl rfl)
  obtain ⟨z0, w0⟩ : ∃ zs, Pl.IsPts W a0 len0 cap0 zs := by
    obtain ⟨fuel, hf⟩ := h0
    exact Pl.open_row2 Try.underlying71 Try.underlying143 (by kernel_rfl) (by kernel_rfl) ⟨rfl, rfl⟩ Try.underlying3 hf
  clear hA0
  refine (walk a0 len0 cap0 z0 W w0).mono fun e W' ⟨he, bel⟩ => ?_
  subst he
  exact ⟨_, rfl, _, _, _, [], _, [], hW', trodAll_mk1 (shut_bool Try.underlying4 _), (trodAll_cons_mk (Below.trod laidOut (by kernel_rfl) (of_decide_eq_true (by kernel_rfl)) k0 bel lt0) trodAll_mk0), rfl, bel.frame _, fun h => by cases h⟩

theorem over : Rows.fnExactNotesOkRow.holds Try.pinned (OpenSpec.ofChange Rows.fnExactNotesOkSpec) :=
  OpenClaim.holds_of_wide 8 Try.f8 rfl rfl rfl rfl rfl rfl rfl ⟨rfl, rfl, rfl, rfl, rfl⟩ rfl rfl rfl rfl rfl (by kernel_rfl) Try.func8 (by kernel_rfl)
    (of_decide_eq_true (by kernel_rfl)) (by unfold Func.isWrapper; first | (rw [if_pos (by decide +kernel)]; kernel_rfl) | (rw [if_neg (by decide +kernel)]; exact ⟨rfl, rfl⟩))
    (fun os started H enc _ => lifted os started H enc)

/-- THE STATEMENT. -/
theorem proved : Rows.FnExactNotesOkSaid := over
end Go.Proofs.Ytkehidjdlefojaa.fnExactNotesOk
