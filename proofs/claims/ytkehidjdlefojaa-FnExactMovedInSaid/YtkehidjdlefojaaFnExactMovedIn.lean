/- For every input that can be read, the Go function laws.FnExactMovedIn returns true and leaves its arguments as they read: the statement Rows.FnExactMovedInSaid, without a condition of ours. -/
import Derived.Test.YtkehidjdlefojaaRows
import Derived.WalkKit
import Derived.ProofKit
import Derived.OpenShut
import Derived.ShutString
import Derived.ChangeOld
import Derived.Below
import Derived.Test.YtkehidjdlefojaaC1
import Derived.Test.YtkehidjdlefojaaC2
import Derived.Test.YtkehidjdlefojaaSmps
import Derived.Test.YtkehidjdlefojaaMem
import Derived.Test.YtkehidjdlefojaaSer
import Derived.Test.YtkehidjdlefojaaSer2
import Derived.Test.YtkehidjdlefojaaNt
import Derived.Test.YtkehidjdlefojaaMv
import Derived.Test.YtkehidjdlefojaaPl
import Derived.Test.YtkehidjdlefojaaBhM
import Derived.Test.YtkehidjdlefojaaLogS
import Derived.Test.YtkehidjdlefojaaBhI
import Derived.Test.YtkehidjdlefojaaLogI
import Derived.Test.YtkehidjdlefojaaSdS
import Derived.Test.YtkehidjdlefojaaSdI
import Derived.Test.YtkehidjdlefojaaSdT
import Derived.Test.YtkehidjdlefojaaRH
import Derived.Test.YtkehidjdlefojaaItr
import Derived.Test.YtkehidjdlefojaaTail
import Derived.Test.YtkehidjdlefojaaWin
import Derived.Test.YtkehidjdlefojaaExt
import Derived.Test.YtkehidjdlefojaaCons
import Derived.Test.YtkehidjdlefojaaMvd
namespace Go.Proofs.Ytkehidjdlefojaa.fnExactMovedIn
open Go.ChangeShapes Go.WideShapes Go.ChangeAt Go.RowKit
open Go.ChangeMaps (open_string shut_string)
open Go.Proofs.Ytkehidjdlefojaa.C1
open Go.Proofs.Ytkehidjdlefojaa.C2
open Go.Proofs.Ytkehidjdlefojaa.Smps
open Go.Proofs.Ytkehidjdlefojaa.Mem
open Go.Proofs.Ytkehidjdlefojaa.Ser
open Go.Proofs.Ytkehidjdlefojaa.Ser2
open Go.Proofs.Ytkehidjdlefojaa.Nt
open Go.Proofs.Ytkehidjdlefojaa.Mv
open Go.Proofs.Ytkehidjdlefojaa.Pl
open Go.Proofs.Ytkehidjdlefojaa.BhM
open Go.Proofs.Ytkehidjdlefojaa.LogS
open Go.Proofs.Ytkehidjdlefojaa.BhI
open Go.Proofs.Ytkehidjdlefojaa.LogI
open Go.Proofs.Ytkehidjdlefojaa.SdS
open Go.Proofs.Ytkehidjdlefojaa.SdI
open Go.Proofs.Ytkehidjdlefojaa.SdT
open Go.Proofs.Ytkehidjdlefojaa.RH
open Go.Proofs.Ytkehidjdlefojaa.Itr
open Go.Proofs.Ytkehidjdlefojaa.Tail
open Go.Proofs.Ytkehidjdlefojaa.Win
open Go.Proofs.Ytkehidjdlefojaa.Ext
open Go.Proofs.Ytkehidjdlefojaa.Cons
open Go.Proofs.Ytkehidjdlefojaa.Mvd
set_option linter.unusedVariables false

theorem own : ownKnob Try.prog.godebug = none := by kernel_rfl
theorem laidOut : laidOutB Try.prog = true := by kernel_rfl
set_option maxHeartbeats 4000000 in
set_option maxRecDepth 100000 in
theorem walk (a0 : Option Addr) (len0 cap0 : Nat) (z0 : List Ser.Pt) (a1 : Int) (a2 : Int) (w : World) (w0 : Pl.IsPts w a0 len0 cap0 z0) (w1 : (Lit.int .i64 a1).wf = true) (w2 : (Lit.int .i64 a2).wf = true)  :
    Calls Try.prog 11 #[.slice a0 len0 cap0, .int .i64 a1, .int .i64 a2] w fun e w' => e = .returned (.bool true) ∧ Below w.heap.size w w' := by
  obtain ⟨hl0, hmax0, hwf0, hp0⟩ := w0
  subst hl0
  have hml0 : z0.length ≤ 9223372036854775807 := by unfold maxLen at hmax0; omega
  have HP0 := Lib.hid hp0
  clear hwf0 hp0 hmax0
  have hsz0 := fun w => Mv.sz_points z0.length a0 cap0 hml0 1048576 (by omega) (by omega) w
  by_cases hs0 : (1048576 : Int) < z0.length
  · simp only [if_pos hs0] at hsz0
    have HSZ0 := Lib.hid hsz0
    clear hsz0
    go_enter Try.func11, Try.ntmps11
    go_wp2_with fail
    refine (HSZ0.out _).mono ?_
    rintro e wz ⟨rfl, hww⟩
    obtain rfl := hww.symm
    clear hww
    go_wp2
    go_ret
    exact ⟨rfl, Below.refl _ _⟩
  · obtain ⟨l0, hl0, hl0a, hl0b⟩ : ∃ l : Int, (1048576 : Int) - z0.length = l ∧ 0 ≤ l ∧ l ≤ 1048576 := ⟨_, rfl, by omega, by omega⟩
    simp only [if_neg hs0, hl0] at hsz0
    have HSZ0 := Lib.hid hsz0
    clear hsz0
    have hn0 : z0.length ≤ 1048576 := by omega
    have hsp := fun a c w h => spec_moved z0 a c a1 a2 w h hn0
    have him := fun a c w h => impl_movedin z0 a c a1 a2 w h hn0
    obtain ⟨v, hv⟩ : ∃ v, mvR z0 a1 a2 = v := ⟨_, rfl⟩
    obtain ⟨v2, hv2⟩ : ∃ v, mvF z0 a1 a2 = v := ⟨_, rfl⟩
    simp only [hv, hv2] at hsp him
    clear hv hv2
    have hvv : (v != v) = false := by simp
    have hvv2 : (v2 != v2) = false := by simp
    have HSP := Lib.hid hsp
    have HIM := Lib.hid him
    clear hsp him
    clear hl0 hs0
    go_enter Try.func11, Try.ntmps11
    go_wp2_with fail
    refine (HSZ0.out _).mono ?_
    rintro e wz ⟨rfl, hww⟩
    obtain rfl := hww.symm
    clear hww
    have B_0 := Lib.hid (Below.refl w.heap.size w)
    go_wp2_with fail
    refine (Mv.to_points z0 _ _ _ (HP0.out.kept B_0.out) hn0).mono ?_
    rintro e u1 ⟨gq0, rfl, hq, hb⟩
    have B_1 := Lib.hid (B_0.out.trans (hb.mono B_0.out.size))
    clear B_0 hb
    have Q0_1 := Lib.hid (Mv.OwnP.pts hq)
    clear hq
    go_wp2_with fail
    refine (HSP.out _ _ _ Q0_1.out).mono ?_
    rintro e u2 ⟨rfl, hb⟩
    have B_2 := Lib.hid (B_1.out.trans (hb.mono B_1.out.size))
    have Q0_2 := Lib.hid (Q0_1.out.kept hb)
    clear B_1 Q0_1 hb
    clear Q0_2
    go_wp2_with fail
    refine (Mv.to_points z0 _ _ _ (HP0.out.kept B_2.out) hn0).mono ?_
    rintro e u3 ⟨gq0, rfl, hq, hb⟩
    have B_3 := Lib.hid (B_2.out.trans (hb.mono B_2.out.size))
    clear B_2 hb
    have Q0_3 := Lib.hid (Mv.OwnP.pts hq)
    clear hq
    go_wp2_with fail
    refine (HIM.out _ _ _ Q0_3.out).mono ?_
    rintro e u4 ⟨rfl, hb⟩
    have B_4 := Lib.hid (B_3.out.trans (hb.mono B_3.out.size))
    have Q0_4 := Lib.hid (Q0_3.out.kept hb)
    clear B_3 Q0_3 hb
    go_wp2_with fail
    refine (Mv.to_points z0 _ _ _ (HP0.out.kept B_4.out) hn0).mono ?_
    rintro e u5 ⟨gz0, rfl, hqz, hb⟩
    have B_5 := Lib.hid (B_4.out.trans (hb.mono B_4.out.size))
    have Q0_5 := Lib.hid (Q0_4.out.kept hb)
    clear B_4 Q0_4 hb
    have QZ0 := Lib.hid (Mv.OwnP.pts hqz)
    clear hqz
    go_wp2_with fail
    refine (Mv.eq_points z0 _ _ _ _ _ Q0_5.out QZ0.out hn0).mono ?_
    rintro e u6 ⟨rfl, hb⟩
    have B_6 := Lib.hid (B_5.out.trans (hb.mono B_5.out.size))
    have Q0_6 := Lib.hid (Q0_5.out.kept hb)
    clear B_5 Q0_5 hb
    go_wp2
    go_ret
    exact ⟨rfl, B_6.out⟩

set_option maxRecDepth 100000 in
theorem lifted (os : Os) (started : os.Started) (H : Type) (enc : TypeId × Value → H) :
    ReturnsInHanded {} Try.checked os 11 .any (Rows.fnExactMovedInSpec.pre6 enc Try.prog Try.f11 Rows.fnExactMovedInRow.domain false) (Rows.fnExactMovedInSpec.post enc Try.prog Try.f11 false true false false) := by
  refine returnsInHanded_of_change (C := Try.checked) own started (by kernel_rfl) Try.func11
    (ChangeSpec.witness6 (enc := enc) (C := Try.checked) false ⟨#[], #[.slice none 0 0, .int .i64 0, .int .i64 0], []⟩ 8 (by kernel_rfl) (by kernel_rfl) (by kernel_rfl) (by kernel_rfl)) ?_
  intro W base args ds gs before hval0 hW hcnd _
  have hval : ∀ (j : Nat) t v, Try.f11.params[j]? = some t → args[j]? = some v → Value.okWide Try.prog W .any base t v := hval0
  clear hval0
  have hW' := hW
  obtain ⟨p, q, hA0, hV, rfl, hfz, hnd⟩ := hW
  have hA : DataW.TrodAll enc Try.prog W 0 (fun _ => true) true Try.f11.params.toList args.toList ds p := hA0
  rw [Try.params11] at hA hval
  obtain ⟨v0, vs0, d0, ds0, p0, q0, hargs, rfl, rfl, h0, r0⟩ := trodAll_cons hA
  obtain ⟨v1, vs1, d1, ds1, p1, q1, rfl, rfl, rfl, h1, r1⟩ := trodAll_cons r0
  obtain ⟨v2, vs2, d2, ds2, p2, q2, rfl, rfl, rfl, h2, r2⟩ := trodAll_cons r1
  obtain ⟨rfl, rfl, rfl⟩ := trodAll_nil r2
  obtain rfl : args = #[v0, v1, v2] := by cases args; simp_all
  obtain ⟨rfl, rfl⟩ := trodVars_none hV
  have k0 := h0
  have lt0 : ∀ x ∈ p0, x.block < W.heap.size := by obtain ⟨m, hm⟩ := k0; exact DataW.trod_lt m _ _ _ hm
  have k1 := h1
  have lt1 : ∀ x ∈ p1, x.block < W.heap.size := by obtain ⟨m, hm⟩ := k1; exact DataW.trod_lt m _ _ _ hm
  have k2 := h2
  have lt2 : ∀ x ∈ p2, x.block < W.heap.size := by obtain ⟨m, hm⟩ := k2; exact DataW.trod_lt m _ _ _ hm
  obtain ⟨a0, len0, cap0, rfl⟩ := okWide_slice Try.underlying77 (hval 0 77 v0 rfl rfl)
  obtain ⟨z0, w0⟩ : ∃ zs, Pl.IsPts W a0 len0 cap0 zs := by
    obtain ⟨fuel, hf⟩ := h0
    exact Pl.open_row2 Try.underlying77 Try.underlying148 (by kernel_rfl) (by kernel_rfl) ⟨rfl, rfl⟩ Try.underlying3 hf
  obtain ⟨a1, rfl, rfl, rfl, w1⟩ := open_int Try.underlying3 (hval 1 3 v1 rfl rfl) h1
  obtain ⟨a2, rfl, rfl, rfl, w2⟩ := open_int Try.underlying3 (hval 2 3 v2 rfl rfl) h2
  clear hA0
  refine (walk a0 len0 cap0 z0 a1 a2 W w0 w1 w2).mono fun e W' ⟨he, bel⟩ => ?_
  subst he
  exact ⟨_, rfl, _, _, _, [], _, [], hW', trodAll_mk1 (shut_bool Try.underlying4 _), (trodAll_cons_mk (Below.trod laidOut (by kernel_rfl) (of_decide_eq_true (by kernel_rfl)) k0 bel lt0) (trodAll_cons_mk (shut_int Try.underlying3 w1) (trodAll_cons_mk (shut_int Try.underlying3 w2) trodAll_mk0))), rfl, bel.frame _, fun h => by cases h⟩

theorem over : Rows.fnExactMovedInRow.holds Try.pinned (OpenSpec.ofChange Rows.fnExactMovedInSpec) :=
  OpenClaim.holds_of_wide 11 Try.f11 rfl rfl rfl rfl rfl rfl rfl ⟨rfl, rfl, rfl, rfl, rfl⟩ rfl rfl rfl rfl rfl (by kernel_rfl) Try.func11 (by kernel_rfl)
    (of_decide_eq_true (by kernel_rfl)) (by unfold Func.isWrapper; first | (rw [if_pos (by decide +kernel)]; kernel_rfl) | (rw [if_neg (by decide +kernel)]; exact ⟨rfl, rfl⟩))
    (fun os started H enc _ => lifted os started H enc)

/-- THE STATEMENT. -/
theorem proved : Rows.FnExactMovedInSaid := over
end Go.Proofs.Ytkehidjdlefojaa.fnExactMovedIn
