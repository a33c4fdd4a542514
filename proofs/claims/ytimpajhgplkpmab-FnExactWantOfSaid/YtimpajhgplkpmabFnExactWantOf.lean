/- For every input that can be read, the Go function laws.FnExactWantOf returns true and leaves its arguments as they read: the statement Rows.FnExactWantOfSaid, without a condition of ours. -/
import Derived.Test.YtimpajhgplkpmabRows
import Derived.WalkKit
import Derived.ProofKit
import Derived.OpenShut
import Derived.ShutString
import Derived.ChangeOld
import Derived.Below
import Derived.Lib.SmallJoins
import Derived.Test.YtimpajhgplkpmabC1
import Derived.Test.YtimpajhgplkpmabFlt
import Derived.Test.YtimpajhgplkpmabC2
import Derived.Test.YtimpajhgplkpmabSmps
import Derived.Test.YtimpajhgplkpmabMem
import Derived.Test.YtimpajhgplkpmabPd
import Derived.Test.YtimpajhgplkpmabGl
import Derived.Test.YtimpajhgplkpmabRs
import Derived.Test.YtimpajhgplkpmabBd
import Derived.Test.YtimpajhgplkpmabRf
import Derived.Test.YtimpajhgplkpmabOnce
import Derived.Test.YtimpajhgplkpmabWant
import Derived.Test.YtimpajhgplkpmabWantS
namespace Go.Proofs.Ytimpajhgplkpmab.fnExactWantOf
open Go.ChangeShapes Go.WideShapes Go.ChangeAt Go.RowKit Go.Joins
open Go.ChangeMaps (open_string shut_string)
open Go.Proofs.Ytimpajhgplkpmab.C1
open Go.Proofs.Ytimpajhgplkpmab.Flt
open Go.Proofs.Ytimpajhgplkpmab.C2
open Go.Proofs.Ytimpajhgplkpmab.Smps
open Go.Proofs.Ytimpajhgplkpmab.Mem
open Go.Proofs.Ytimpajhgplkpmab.Pd
open Go.Proofs.Ytimpajhgplkpmab.Gl
open Go.Proofs.Ytimpajhgplkpmab.Rs
open Go.Proofs.Ytimpajhgplkpmab.Bd
open Go.Proofs.Ytimpajhgplkpmab.Rf
open Go.Proofs.Ytimpajhgplkpmab.Once
open Go.Proofs.Ytimpajhgplkpmab.Want
open Go.Proofs.Ytimpajhgplkpmab.WantS
set_option linter.unusedVariables false

theorem own : ownKnob Try.prog.godebug = none := by kernel_rfl
theorem laidOut : laidOutB Try.prog = true := by kernel_rfl
set_option maxHeartbeats 4000000 in
set_option maxRecDepth 100000 in
theorem walk (a0 : Int) (x1 : Ty) (x2 : Gl) (w : World) (w0 : (Lit.int .i64 a0).wf = true) (w1 : x1.wf) (w2 : x2.wf)  :
    Calls Try.prog 3 #[.int .i64 a0, tyV x1, glV x2] w fun e w' => e = .returned (.bool true) ∧ Below w.heap.size w w' := by
  obtain ⟨hp, -, -⟩ := id w2
  unfold maxLen at hp
  obtain ⟨hA, hB⟩ := box2_cells w #[.int .i64 x1.rdy, .int .i64 x1.unr, .int .i64 x1.mis, .int .i64 x1.sum] #[.string x2.met, .int .i64 x2.tar, .int .i64 x2.tol] 23 25
  have HA := Lib.hid hA
  have HB := Lib.hid hB
  have H0 := Lib.hid (box2_below w (.cells #[.int .i64 x1.rdy, .int .i64 x1.unr, .int .i64 x1.mis, .int .i64 x1.sum] 23) (.cells #[.string x2.met, .int .i64 x2.tar, .int .i64 x2.tol] 25))
  obtain ⟨W0, hW0⟩ : ∃ W0, (w.alloc (.cells #[.int .i64 x1.rdy, .int .i64 x1.unr, .int .i64 x1.mis, .int .i64 x1.sum] 23)).alloc (.cells #[.string x2.met, .int .i64 x2.tar, .int .i64 x2.tol] 25) = W0 := ⟨_, rfl⟩
  rw [hW0] at HA HB H0
  have HW := Lib.hid hW0
  clear hA hB hW0
  obtain ⟨z0, z1, z2⟩ := cells3 HB.out
  unfold tyV glV
  by_cases hbig : (1048576 : Int) < x2.met.size
  · go_enter Try.func3, Try.ntmps3
    go_wp2_with fail
    rw [HW.out]
    refine (sz_goal x2 w2 1048576 (by omega) (by omega) _).mono ?_
    rw [if_pos (show (1048576 : Int) < x2.met.size by omega)]
    rintro e u1 ⟨rfl, hb⟩
    have HB1 := Lib.hid (H0.out.trans (hb.mono H0.out.size))
    clear hb
    go_wp2
    go_ret
    exact ⟨rfl, HB1.out⟩
  · obtain ⟨L, hL, hL0⟩ : ∃ L : Int, L = 1048576 - x2.met.size ∧ 0 ≤ L := ⟨_, rfl, by omega⟩
    obtain ⟨v, hv⟩ : ∃ v, wantV a0 x1 x2 = v := ⟨_, rfl⟩
    have hsr := fun W => spec_wantof a0 x1 x2 w2 v hv W
    have hir := fun W => impl_wantof a0 x1 x2 w2 v hv W
    have hvn : (v != v) = false := by simp
    clear hv
    have hty := fun W => to_tally x1 W
    have hgl := fun W => to_goal x2 W
    unfold tyV glV at hsr hir
    unfold tyV at hty
    unfold glV at hgl
    go_enter Try.func3, Try.ntmps3
    go_wp2_with fail
    rw [HW.out]
    refine (sz_goal x2 w2 1048576 (by omega) (by omega) _).mono ?_
    rw [if_neg (show ¬ (1048576 : Int) < x2.met.size by omega), ← hL]
    rintro e u1 ⟨rfl, hb⟩
    have HB1 := Lib.hid (H0.out.trans (hb.mono H0.out.size))
    have HT1 := Lib.hid (HA.out.kept hb)
    have HG1 := Lib.hid (HB.out.kept hb)
    clear hb z0 z1 z2 hL
    have HT : Hid (∀ W, Hid (Below u1.heap.size u1 W) → (W.cell? ⟨w.heap.size, 0, none⟩ = some (.int .i64 x1.rdy) ∧ W.cell? ⟨w.heap.size, 1, none⟩ = some (.int .i64 x1.unr) ∧ W.cell? ⟨w.heap.size, 2, none⟩ = some (.int .i64 x1.mis) ∧ W.cell? ⟨w.heap.size, 3, none⟩ = some (.int .i64 x1.sum) ∧ W.cell? ⟨w.heap.size + 1, 0, none⟩ = some (.string x2.met) ∧ W.cell? ⟨w.heap.size + 1, 1, none⟩ = some (.int .i64 x2.tar) ∧ W.cell? ⟨w.heap.size + 1, 2, none⟩ = some (.int .i64 x2.tol))) := fun W hW => by
      obtain ⟨p0, p1, p2, p3⟩ := cells4 (HT1.out.kept hW.out)
      obtain ⟨r0, r1, r2⟩ := cells3 (HG1.out.kept hW.out)
      exact ⟨p0, p1, p2, p3, r0, r1, r2⟩
    have HBD : Hid (Below u1.heap.size u1 u1.drew) := (Below.refl _ _).drew
    go_wp2_with fail
    go_region_held3 (fun w' => w'.cell? ⟨w.heap.size, 0, none⟩ = some (.int .i64 x1.rdy) ∧ w'.cell? ⟨w.heap.size, 1, none⟩ = some (.int .i64 x1.unr) ∧ w'.cell? ⟨w.heap.size, 2, none⟩ = some (.int .i64 x1.mis) ∧ w'.cell? ⟨w.heap.size, 3, none⟩ = some (.int .i64 x1.sum) ∧ w'.cell? ⟨w.heap.size + 1, 0, none⟩ = some (.string x2.met) ∧ w'.cell? ⟨w.heap.size + 1, 1, none⟩ = some (.int .i64 x2.tar) ∧ w'.cell? ⟨w.heap.size + 1, 2, none⟩ = some (.int .i64 x2.tol))
      (first | exact HT.out _ HV3 | exact HT.out _ HV2 | exact HT.out _ HV1 | exact HT.out _ HBD)
      (first
        | (go_at_call 7; refine (hty _).mono ?_; rintro e v1 ⟨rfl, hb⟩; have HV1 := Lib.hid (HBD.out.trans (hb.mono HBD.out.size)); clear hb)
        | (go_at_call 8; refine (hgl _).mono ?_; rintro e v2 ⟨rfl, hb⟩; have HV2 := Lib.hid (HV1.out.trans (hb.mono HV1.out.size)); clear hb)
        | (go_at_call 6; refine (hsr _).mono ?_; rintro e v3 ⟨rfl, hb⟩; have HV3 := Lib.hid (HV2.out.trans (hb.mono HV2.out.size)); clear hb))
    have HBE : Hid (Below u1.heap.size u1 v3.drew) := HV3.out.drew
    clear HV1 HV2
    go_wp2_with fail
    go_region_held3 (fun w' => w'.cell? ⟨w.heap.size, 0, none⟩ = some (.int .i64 x1.rdy) ∧ w'.cell? ⟨w.heap.size, 1, none⟩ = some (.int .i64 x1.unr) ∧ w'.cell? ⟨w.heap.size, 2, none⟩ = some (.int .i64 x1.mis) ∧ w'.cell? ⟨w.heap.size, 3, none⟩ = some (.int .i64 x1.sum) ∧ w'.cell? ⟨w.heap.size + 1, 0, none⟩ = some (.string x2.met) ∧ w'.cell? ⟨w.heap.size + 1, 1, none⟩ = some (.int .i64 x2.tar) ∧ w'.cell? ⟨w.heap.size + 1, 2, none⟩ = some (.int .i64 x2.tol))
      (first | exact HT.out _ HV6 | exact HT.out _ HV5 | exact HT.out _ HV4 | exact HT.out _ HBE)
      (first
        | (go_at_call 7; refine (hty _).mono ?_; rintro e v4 ⟨rfl, hb⟩; have HV4 := Lib.hid (HBE.out.trans (hb.mono HBE.out.size)); clear hb)
        | (go_at_call 8; refine (hgl _).mono ?_; rintro e v5 ⟨rfl, hb⟩; have HV5 := Lib.hid (HV4.out.trans (hb.mono HV4.out.size)); clear hb)
        | (go_at_call 9; refine (hir _).mono ?_; rintro e v6 ⟨rfl, hb⟩; have HV6 := Lib.hid (HV5.out.trans (hb.mono HV5.out.size)); clear hb))
    have HBX := Lib.hid (HB1.out.trans (HV6.out.mono HB1.out.size))
    go_wp2
    go_ret
    exact ⟨rfl, HBX.out⟩

set_option maxRecDepth 100000 in
theorem lifted (os : Os) (started : os.Started) (H : Type) (enc : TypeId × Value → H) :
    ReturnsInHanded {} Try.checked os 3 .any (Rows.fnExactWantOfSpec.pre6 enc Try.prog Try.f3 Rows.fnExactWantOfRow.domain false) (Rows.fnExactWantOfSpec.post enc Try.prog Try.f3 false true false false) := by
  refine returnsInHanded_of_change (C := Try.checked) own started (by kernel_rfl) Try.func3
    (ChangeSpec.witness6 (enc := enc) (C := Try.checked) false ⟨#[], #[.int .i64 0, .agg #[.int .i64 0, .int .i64 0, .int .i64 0, .int .i64 0], .agg #[.string ⟨#[]⟩, .int .i64 0, .int .i64 0]], []⟩ 8 (by kernel_rfl) (by kernel_rfl) (by kernel_rfl) (by kernel_rfl)) ?_
  intro W base args ds gs before hval0 hW hcnd _
  have hval : ∀ (j : Nat) t v, Try.f3.params[j]? = some t → args[j]? = some v → Value.okWide Try.prog W .any base t v := hval0
  clear hval0
  have hW' := hW
  obtain ⟨p, q, hA0, hV, rfl, hfz, hnd⟩ := hW
  have hA : DataW.TrodAll enc Try.prog W 0 (fun _ => true) true Try.f3.params.toList args.toList ds p := hA0
  rw [Try.params3] at hA hval
  obtain ⟨v0, vs0, d0, ds0, p0, q0, hargs, rfl, rfl, h0, r0⟩ := trodAll_cons hA
  obtain ⟨v1, vs1, d1, ds1, p1, q1, rfl, rfl, rfl, h1, r1⟩ := trodAll_cons r0
  obtain ⟨v2, vs2, d2, ds2, p2, q2, rfl, rfl, rfl, h2, r2⟩ := trodAll_cons r1
  obtain ⟨rfl, rfl, rfl⟩ := trodAll_nil r2
  obtain rfl : args = #[v0, v1, v2] := by cases args; simp_all
  obtain ⟨rfl, rfl⟩ := trodVars_none hV
  have k0 := h0
  have lt0 : ∀ x ∈ p0, x.block < W.heap.size := by obtain ⟨m, hm⟩ := k0; exact DataW.trod_lt m _ _ _ hm
  have k1 := h1
  have lt1 : ∀ x ∈ p1, x.block < W.heap.size := by obtain ⟨m, hm⟩ := k1; exact DataW.trod_lt m _ _ _ hm
  have k2 := h2
  have lt2 : ∀ x ∈ p2, x.block < W.heap.size := by obtain ⟨m, hm⟩ := k2; exact DataW.trod_lt m _ _ _ hm
  obtain ⟨a0, rfl, rfl, rfl, w0⟩ := open_int Try.underlying3 (hval 0 3 v0 rfl rfl) h0
  obtain ⟨c0_1, c1_1, c2_1, c3_1, y0_1, y1_1, y2_1, y3_1, m_1, rfl, rfl, rfl, g0_1, g1_1, g2_1, g3_1⟩ := open_agg4 Try.underlying23 (by kernel_rfl) (by kernel_rfl) (hval 1 23 v1 rfl rfl) h1
  obtain ⟨p1, e0_1, rfl, u0_1⟩ := DataW.trod_int Try.underlying3 g0_1
  obtain ⟨q1, e1_1, rfl, u1_1⟩ := DataW.trod_int Try.underlying3 g1_1
  obtain ⟨v1, e2_1, rfl, u2_1⟩ := DataW.trod_int Try.underlying3 g2_1
  obtain ⟨t1, e3_1, rfl, u3_1⟩ := DataW.trod_int Try.underlying3 g3_1
  simp at e0_1 e1_1 e2_1 e3_1
  subst e0_1 e1_1 e2_1 e3_1
  have w1 : Ty.wf ⟨p1, q1, v1, t1⟩ := ⟨bounds_i64 u0_1, bounds_i64 u1_1, bounds_i64 u2_1, bounds_i64 u3_1⟩
  obtain ⟨c0_2, c1_2, c2_2, y0_2, y1_2, y2_2, m_2, rfl, rfl, rfl, g0_2, g1_2, g2_2⟩ := open_agg3 Try.underlying25 (by kernel_rfl) (by kernel_rfl) (hval 2 25 v2 rfl rfl) h2
  obtain ⟨p2, e0_2, rfl, u0_2⟩ := DataW.trod_string Try.underlying9 g0_2
  obtain ⟨q2, e1_2, rfl, u1_2⟩ := DataW.trod_int Try.underlying3 g1_2
  obtain ⟨v2, e2_2, rfl, u2_2⟩ := DataW.trod_int Try.underlying3 g2_2
  simp at e0_2 e1_2 e2_2
  subst e0_2 e1_2 e2_2
  have w2 : Gl.wf ⟨p2, q2, v2⟩ := ⟨u0_2, bounds_i64 u1_2, bounds_i64 u2_2⟩
  clear hA0
  refine (walk a0 ⟨p1, q1, v1, t1⟩ ⟨p2, q2, v2⟩ W w0 w1 w2).mono fun e W' ⟨he, bel⟩ => ?_
  subst he
  exact ⟨_, rfl, _, _, _, [], _, [], hW', trodAll_mk1 (shut_bool Try.underlying4 _), (trodAll_cons_mk (shut_int Try.underlying3 w0) (trodAll_cons_mk (Below.trod laidOut (by kernel_rfl) (of_decide_eq_true (by kernel_rfl)) k1 bel lt1) (trodAll_cons_mk (Below.trod laidOut (by kernel_rfl) (of_decide_eq_true (by kernel_rfl)) k2 bel lt2) trodAll_mk0))), rfl, bel.frame _, fun h => by cases h⟩

theorem over : Rows.fnExactWantOfRow.holds Try.pinned (OpenSpec.ofChange Rows.fnExactWantOfSpec) :=
  OpenClaim.holds_of_wide 3 Try.f3 rfl rfl rfl rfl rfl rfl rfl ⟨rfl, rfl, rfl, rfl, rfl⟩ rfl rfl rfl rfl rfl (by kernel_rfl) Try.func3 (by kernel_rfl)
    (of_decide_eq_true (by kernel_rfl)) (by unfold Func.isWrapper; first | (rw [if_pos (by decide +kernel)]; kernel_rfl) | (rw [if_neg (by decide +kernel)]; exact ⟨rfl, rfl⟩))
    (fun os started H enc _ => lifted os started H enc)

/-- THE STATEMENT. -/
theorem proved : Rows.FnExactWantOfSaid := over
end Go.Proofs.Ytimpajhgplkpmab.fnExactWantOf
