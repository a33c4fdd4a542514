/- For every input that can be read, the Go function laws.FnExactRefillOf returns true and leaves its arguments as they read: the statement Rows.FnExactRefillOfSaid, without a condition of ours. -/
import Derived.Test.YtimpajhgplkpmaaRows
import Derived.WalkKit
import Derived.ProofKit
import Derived.OpenShut
import Derived.ShutString
import Derived.ChangeOld
import Derived.Below
import Derived.Lib.SmallJoins
import Derived.Test.YtimpajhgplkpmaaC1
import Derived.Test.YtimpajhgplkpmaaFlt
import Derived.Test.YtimpajhgplkpmaaC2
import Derived.Test.YtimpajhgplkpmaaSmps
import Derived.Test.YtimpajhgplkpmaaMem
import Derived.Test.YtimpajhgplkpmaaPd
import Derived.Test.YtimpajhgplkpmaaGl
import Derived.Test.YtimpajhgplkpmaaRs
import Derived.Test.YtimpajhgplkpmaaBd
import Derived.Test.YtimpajhgplkpmaaRf
namespace Go.Proofs.Ytimpajhgplkpmaa.fnExactRefillOf
open Go.ChangeShapes Go.WideShapes Go.ChangeAt Go.RowKit Go.Joins
open Go.ChangeMaps (open_string shut_string)
open Go.Proofs.Ytimpajhgplkpmaa.C1
open Go.Proofs.Ytimpajhgplkpmaa.Flt
open Go.Proofs.Ytimpajhgplkpmaa.C2
open Go.Proofs.Ytimpajhgplkpmaa.Smps
open Go.Proofs.Ytimpajhgplkpmaa.Mem
open Go.Proofs.Ytimpajhgplkpmaa.Pd
open Go.Proofs.Ytimpajhgplkpmaa.Gl
open Go.Proofs.Ytimpajhgplkpmaa.Rs
open Go.Proofs.Ytimpajhgplkpmaa.Bd
open Go.Proofs.Ytimpajhgplkpmaa.Rf
set_option linter.unusedVariables false

theorem own : ownKnob Try.prog.godebug = none := by kernel_rfl
theorem laidOut : laidOutB Try.prog = true := by kernel_rfl
set_option maxHeartbeats 4000000 in
set_option maxRecDepth 100000 in
theorem walk (x0 : Ty) (x1 : Gl) (w : World) (w0 : x0.wf) (w1 : x1.wf)  :
    Calls Try.prog 11 #[tyV x0, glV x1] w fun e w' => e = .returned (.bool true) ∧ Below w.heap.size w w' := by
  obtain ⟨hp, -, -⟩ := id w1
  unfold maxLen at hp
  obtain ⟨hA, hB⟩ := box2_cells w #[.int .i64 x0.rdy, .int .i64 x0.unr, .int .i64 x0.mis, .int .i64 x0.sum] #[.string x1.met, .int .i64 x1.tar, .int .i64 x1.tol] 71 64
  have HA := Lib.hid hA
  have HB := Lib.hid hB
  have H0 := Lib.hid (box2_below w (.cells #[.int .i64 x0.rdy, .int .i64 x0.unr, .int .i64 x0.mis, .int .i64 x0.sum] 71) (.cells #[.string x1.met, .int .i64 x1.tar, .int .i64 x1.tol] 64))
  obtain ⟨W0, hW0⟩ : ∃ W0, (w.alloc (.cells #[.int .i64 x0.rdy, .int .i64 x0.unr, .int .i64 x0.mis, .int .i64 x0.sum] 71)).alloc (.cells #[.string x1.met, .int .i64 x1.tar, .int .i64 x1.tol] 64) = W0 := ⟨_, rfl⟩
  rw [hW0] at HA HB H0
  have HW := Lib.hid hW0
  clear hA hB hW0
  obtain ⟨z0, z1, z2⟩ := cells3 HB.out
  unfold tyV glV
  by_cases hbig : (1048576 : Int) < x1.met.size
  · go_enter Try.func11, Try.ntmps11
    go_wp2_with fail
    rw [HW.out]
    refine (sz_goal x1 w1 1048576 (by omega) (by omega) _).mono ?_
    rw [if_pos (show (1048576 : Int) < x1.met.size by omega)]
    rintro e u1 ⟨rfl, hb⟩
    have HB1 := Lib.hid (H0.out.trans (hb.mono H0.out.size))
    clear hb
    go_wp2
    go_ret
    exact ⟨rfl, HB1.out⟩
  · obtain ⟨L, hL, hL0⟩ : ∃ L : Int, L = 1048576 - x1.met.size ∧ 0 ≤ L := ⟨_, rfl, by omega⟩
    obtain ⟨S, hS⟩ : ∃ S, rf1 x0 x1 = S := ⟨_, rfl⟩
    obtain ⟨M, hM⟩ : ∃ M, rf2 x0 x1 = M := ⟨_, rfl⟩
    have hsr := fun W => spec_refillof x0 x1 w1 S M hS hM W
    have hir := fun W => impl_refillof x0 x1 w1 S M hS hM W
    have hsn : (S != S) = false := by simp
    have hmn : (M != M) = false := by simp
    clear hS hM
    have hty := fun W => to_tally x0 W
    have hgl := fun W => to_goal x1 W
    unfold tyV glV at hsr hir
    unfold tyV at hty
    unfold glV at hgl
    go_enter Try.func11, Try.ntmps11
    go_wp2_with fail
    rw [HW.out]
    refine (sz_goal x1 w1 1048576 (by omega) (by omega) _).mono ?_
    rw [if_neg (show ¬ (1048576 : Int) < x1.met.size by omega), ← hL]
    rintro e u1 ⟨rfl, hb⟩
    have HB1 := Lib.hid (H0.out.trans (hb.mono H0.out.size))
    have HT1 := Lib.hid (HA.out.kept hb)
    have HG1 := Lib.hid (HB.out.kept hb)
    clear hb z0 z1 z2 hL
    have HT : Hid (∀ W, Hid (Below u1.heap.size u1 W) → (W.cell? ⟨w.heap.size, 0, none⟩ = some (.int .i64 x0.rdy) ∧ W.cell? ⟨w.heap.size, 1, none⟩ = some (.int .i64 x0.unr) ∧ W.cell? ⟨w.heap.size, 2, none⟩ = some (.int .i64 x0.mis) ∧ W.cell? ⟨w.heap.size, 3, none⟩ = some (.int .i64 x0.sum) ∧ W.cell? ⟨w.heap.size + 1, 0, none⟩ = some (.string x1.met) ∧ W.cell? ⟨w.heap.size + 1, 1, none⟩ = some (.int .i64 x1.tar) ∧ W.cell? ⟨w.heap.size + 1, 2, none⟩ = some (.int .i64 x1.tol))) := fun W hW => by
      obtain ⟨p0, p1, p2, p3⟩ := cells4 (HT1.out.kept hW.out)
      obtain ⟨r0, r1, r2⟩ := cells3 (HG1.out.kept hW.out)
      exact ⟨p0, p1, p2, p3, r0, r1, r2⟩
    have HBD : Hid (Below u1.heap.size u1 u1.drew) := (Below.refl _ _).drew
    go_wp2_with fail
    go_region_held3 (fun w' => w'.cell? ⟨w.heap.size, 0, none⟩ = some (.int .i64 x0.rdy) ∧ w'.cell? ⟨w.heap.size, 1, none⟩ = some (.int .i64 x0.unr) ∧ w'.cell? ⟨w.heap.size, 2, none⟩ = some (.int .i64 x0.mis) ∧ w'.cell? ⟨w.heap.size, 3, none⟩ = some (.int .i64 x0.sum) ∧ w'.cell? ⟨w.heap.size + 1, 0, none⟩ = some (.string x1.met) ∧ w'.cell? ⟨w.heap.size + 1, 1, none⟩ = some (.int .i64 x1.tar) ∧ w'.cell? ⟨w.heap.size + 1, 2, none⟩ = some (.int .i64 x1.tol))
      (first | exact HT.out _ HV3 | exact HT.out _ HV2 | exact HT.out _ HV1 | exact HT.out _ HBD)
      (first
        | (go_at_call 47; refine (hty _).mono ?_; rintro e v1 ⟨rfl, hb⟩; have HV1 := Lib.hid (HBD.out.trans (hb.mono HBD.out.size)); clear hb)
        | (go_at_call 43; refine (hgl _).mono ?_; rintro e v2 ⟨rfl, hb⟩; have HV2 := Lib.hid (HV1.out.trans (hb.mono HV1.out.size)); clear hb)
        | (go_at_call 19; refine (hsr _).mono ?_; rintro e v3 ⟨rfl, hb⟩; have HV3 := Lib.hid (HV2.out.trans (hb.mono HV2.out.size)); clear hb))
    have HBE : Hid (Below u1.heap.size u1 v3.drew) := HV3.out.drew
    clear HV1 HV2
    go_wp2_with fail
    go_region_held3 (fun w' => w'.cell? ⟨w.heap.size, 0, none⟩ = some (.int .i64 x0.rdy) ∧ w'.cell? ⟨w.heap.size, 1, none⟩ = some (.int .i64 x0.unr) ∧ w'.cell? ⟨w.heap.size, 2, none⟩ = some (.int .i64 x0.mis) ∧ w'.cell? ⟨w.heap.size, 3, none⟩ = some (.int .i64 x0.sum) ∧ w'.cell? ⟨w.heap.size + 1, 0, none⟩ = some (.string x1.met) ∧ w'.cell? ⟨w.heap.size + 1, 1, none⟩ = some (.int .i64 x1.tar) ∧ w'.cell? ⟨w.heap.size + 1, 2, none⟩ = some (.int .i64 x1.tol))
      (first | exact HT.out _ HV6 | exact HT.out _ HV5 | exact HT.out _ HV4 | exact HT.out _ HBE)
      (first
        | (go_at_call 47; refine (hty _).mono ?_; rintro e v4 ⟨rfl, hb⟩; have HV4 := Lib.hid (HBE.out.trans (hb.mono HBE.out.size)); clear hb)
        | (go_at_call 43; refine (hgl _).mono ?_; rintro e v5 ⟨rfl, hb⟩; have HV5 := Lib.hid (HV4.out.trans (hb.mono HV4.out.size)); clear hb)
        | (go_at_call 18; refine (hir _).mono ?_; rintro e v6 ⟨rfl, hb⟩; have HV6 := Lib.hid (HV5.out.trans (hb.mono HV5.out.size)); clear hb))
    have HBX := Lib.hid (HB1.out.trans (HV6.out.mono HB1.out.size))
    go_wp2
    go_ret
    exact ⟨rfl, HBX.out⟩

set_option maxRecDepth 100000 in
theorem lifted (os : Os) (started : os.Started) (H : Type) (enc : TypeId × Value → H) :
    ReturnsInHanded {} Try.checked os 11 .any (Rows.fnExactRefillOfSpec.pre6 enc Try.prog Try.f11 Rows.fnExactRefillOfRow.domain false) (Rows.fnExactRefillOfSpec.post enc Try.prog Try.f11 false true false false) := by
  refine returnsInHanded_of_change (C := Try.checked) own started (by kernel_rfl) Try.func11
    (ChangeSpec.witness6 (enc := enc) (C := Try.checked) false ⟨#[], #[.agg #[.int .i64 0, .int .i64 0, .int .i64 0, .int .i64 0], .agg #[.string ⟨#[]⟩, .int .i64 0, .int .i64 0]], []⟩ 8 (by kernel_rfl) (by kernel_rfl) (by kernel_rfl) (by kernel_rfl)) ?_
  intro W base args ds gs before hval0 hW hcnd _
  have hval : ∀ (j : Nat) t v, Try.f11.params[j]? = some t → args[j]? = some v → Value.okWide Try.prog W .any base t v := hval0
  clear hval0
  have hW' := hW
  obtain ⟨p, q, hA0, hV, rfl, hfz, hnd⟩ := hW
  have hA : DataW.TrodAll enc Try.prog W 0 (fun _ => true) true Try.f11.params.toList args.toList ds p := hA0
  rw [Try.params11] at hA hval
  obtain ⟨v0, vs0, d0, ds0, p0, q0, hargs, rfl, rfl, h0, r0⟩ := trodAll_cons hA
  obtain ⟨v1, vs1, d1, ds1, p1, q1, rfl, rfl, rfl, h1, r1⟩ := trodAll_cons r0
  obtain ⟨rfl, rfl, rfl⟩ := trodAll_nil r1
  obtain rfl : args = #[v0, v1] := by cases args; simp_all
  obtain ⟨rfl, rfl⟩ := trodVars_none hV
  have k0 := h0
  have lt0 : ∀ x ∈ p0, x.block < W.heap.size := by obtain ⟨m, hm⟩ := k0; exact DataW.trod_lt m _ _ _ hm
  have k1 := h1
  have lt1 : ∀ x ∈ p1, x.block < W.heap.size := by obtain ⟨m, hm⟩ := k1; exact DataW.trod_lt m _ _ _ hm
  obtain ⟨c0_0, c1_0, c2_0, c3_0, y0_0, y1_0, y2_0, y3_0, m_0, rfl, rfl, rfl, g0_0, g1_0, g2_0, g3_0⟩ := open_agg4 Try.underlying71 (by kernel_rfl) (by kernel_rfl) (hval 0 71 v0 rfl rfl) h0
  obtain ⟨p0, e0_0, rfl, u0_0⟩ := DataW.trod_int Try.underlying3 g0_0
  obtain ⟨q0, e1_0, rfl, u1_0⟩ := DataW.trod_int Try.underlying3 g1_0
  obtain ⟨v0, e2_0, rfl, u2_0⟩ := DataW.trod_int Try.underlying3 g2_0
  obtain ⟨t0, e3_0, rfl, u3_0⟩ := DataW.trod_int Try.underlying3 g3_0
  simp at e0_0 e1_0 e2_0 e3_0
  subst e0_0 e1_0 e2_0 e3_0
  have w0 : Ty.wf ⟨p0, q0, v0, t0⟩ := ⟨bounds_i64 u0_0, bounds_i64 u1_0, bounds_i64 u2_0, bounds_i64 u3_0⟩
  obtain ⟨c0_1, c1_1, c2_1, y0_1, y1_1, y2_1, m_1, rfl, rfl, rfl, g0_1, g1_1, g2_1⟩ := open_agg3 Try.underlying64 (by kernel_rfl) (by kernel_rfl) (hval 1 64 v1 rfl rfl) h1
  obtain ⟨p1, e0_1, rfl, u0_1⟩ := DataW.trod_string Try.underlying9 g0_1
  obtain ⟨q1, e1_1, rfl, u1_1⟩ := DataW.trod_int Try.underlying3 g1_1
  obtain ⟨v1, e2_1, rfl, u2_1⟩ := DataW.trod_int Try.underlying3 g2_1
  simp at e0_1 e1_1 e2_1
  subst e0_1 e1_1 e2_1
  have w1 : Gl.wf ⟨p1, q1, v1⟩ := ⟨u0_1, bounds_i64 u1_1, bounds_i64 u2_1⟩
  clear hA0
  refine (walk ⟨p0, q0, v0, t0⟩ ⟨p1, q1, v1⟩ W w0 w1).mono fun e W' ⟨he, bel⟩ => ?_
  subst he
  exact ⟨_, rfl, _, _, _, [], _, [], hW', trodAll_mk1 (shut_bool Try.underlying4 _), (trodAll_cons_mk (Below.trod laidOut (by kernel_rfl) (of_decide_eq_true (by kernel_rfl)) k0 bel lt0) (trodAll_cons_mk (Below.trod laidOut (by kernel_rfl) (of_decide_eq_true (by kernel_rfl)) k1 bel lt1) trodAll_mk0)), rfl, bel.frame _, fun h => by cases h⟩

theorem over : Rows.fnExactRefillOfRow.holds Try.pinned (OpenSpec.ofChange Rows.fnExactRefillOfSpec) :=
  OpenClaim.holds_of_wide 11 Try.f11 rfl rfl rfl rfl rfl rfl rfl ⟨rfl, rfl, rfl, rfl, rfl⟩ rfl rfl rfl rfl rfl (by kernel_rfl) Try.func11 (by kernel_rfl)
    (of_decide_eq_true (by kernel_rfl)) (by unfold Func.isWrapper; first | (rw [if_pos (by decide +kernel)]; kernel_rfl) | (rw [if_neg (by decide +kernel)]; exact ⟨rfl, rfl⟩))
    (fun os started H enc _ => lifted os started H enc)

/-- THE STATEMENT. -/
theorem proved : Rows.FnExactRefillOfSaid := over
end Go.Proofs.Ytimpajhgplkpmaa.fnExactRefillOf
