/- For every input that can be read, the Go function laws.FnExact returns true and leaves its arguments as they read: the statement Rows.FnExactSaid, without a condition of ours. The frame was written by the kit's skeleton program, the walk by hand. -/
import Derived.Test.YtnojeoeccohhlaaRows
import Derived.WalkKit
import Derived.ProofKit
import Derived.OpenShut
import Derived.ShutString
import Derived.ChangeOld
import Derived.Below
import Derived.Test.YtnojeoeccohhlaaC1
import Derived.Test.YtnojeoeccohhlaaInts
import Derived.Test.YtnojeoeccohhlaaDraw
import Derived.Test.YtnojeoeccohhlaaDraw1
import Derived.Test.YtnojeoeccohhlaaEx
namespace Go.Proofs.Ytnojeoeccohhlaa.fnExact
open Go.ChangeShapes Go.WideShapes Go.ChangeAt Go.RowKit
open Go.ChangeMaps (open_string shut_string)
open Go.Proofs.Ytnojeoeccohhlaa.C1
open Go.Proofs.Ytnojeoeccohhlaa.Ints
open Go.Proofs.Ytnojeoeccohhlaa.Draw
open Go.Proofs.Ytnojeoeccohhlaa.Draw1
open Go.Proofs.Ytnojeoeccohhlaa.Ex
set_option linter.unusedVariables false

theorem own : ownKnob Try.prog.godebug = none := by kernel_rfl
theorem laidOut : laidOutB Try.prog = true := by kernel_rfl

/-- WHAT THE WALK IS TOLD OF A SLICE OF INTEGERS THAT CAME IN: it is nil; or it leads to a row of 'cap' cells, the numbers 'zs' (the first 'len' are its elements, the rest its spare room), each fitting its kind. -/
def IsRow (k : IntKind) (w : World) (a : Option Addr) (len cap : Nat) (zs : List Int) : Prop :=
  (a = none ∧ len = 0 ∧ cap = 0 ∧ zs = []) ∨
  ∃ x, a = some x ∧ len ≤ cap ∧ cap ≤ maxLen ∧ zs.length = cap ∧ (∀ i, i < zs.length → w.cell? (x.add i) = some (.int k (zs.getD i 0))) ∧ ∀ n ∈ zs, (Lit.int k n).wf = true

/-! ### STEP 1: THE WALK: the Go text returns true, AND WRITES NOTHING THAT WAS THERE: 'Below w.heap.size w w'' (Derived/Below.lean: '.refl', '.alloc', '.drew', '.setCell' at a new block, '.trans'). Open each 'IsRow' by 'rcases' AHEAD of 'go_enter'; part every test ahead of the walk. -/
set_option maxHeartbeats 4000000 in
set_option maxRecDepth 100000 in
theorem walk (a0 : Option Addr) (len0 cap0 : Nat) (z0 : List Int) (w : World) (w0 : IsRow .u8 w a0 len0 cap0 z0) :
    Calls Try.prog 3 #[.slice a0 len0 cap0] w fun e w' => e = .returned (.bool true) ∧ Below w.heap.size w w' := by
  have hby := of_row_bytes w0
  by_cases hbig : 1048576 < len0
  · go_enter Try.func3, Try.ntmps3
    go_wp2
    go_ret
    exact ⟨rfl, Below.refl _ _⟩
  · have Hb := Lib.hid hby
    have hlen : len0 ≤ 1048576 := by omega
    have hlen2 : len0 ≤ 2097152 := by omega
    clear hby w0
    go_enter Try.func3, Try.ntmps3
    go_wp2_with (first | (go_at_call 12; refine (big_no _ _ _ _ hlen).mono ?_; rintro e w' ⟨rfl, rfl⟩) | (go_at_call 13; refine (draw_muldiv _ _ _ _ Hb.out hlen2).mono ?_; rintro e w1 ⟨x, y, z, u, rfl, hB1⟩))
    have HB1 := Lib.hid hB1
    have Hb1 := Lib.hid (Hb.out.kept hB1)
    clear hB1
    rcases md_ways x y z with ⟨h1, h2⟩ | ⟨h1, h2⟩ | ⟨h1, h2⟩ | ⟨h1, h2, q1, q2, q3, q4, q5, q6, q7, q8, q9, q10, q11, q12, q13, q14⟩ | ⟨h1, h2, q1, q2, q3, q4, q5, q6, q7, q8, q9, q10, q11, q12, q13, q14⟩
    all_goals
      go_wp2_with (first | (go_at_call 15; refine (spec_muldiv _ _ _ _ _).mono ?_; rintro e w' ⟨rfl, rfl⟩) | (go_at_call 14; refine (impl_muldiv _ _ _ _ _).mono ?_; rintro e w' ⟨rfl, rfl⟩))
      go_wp2_with (go_at_call 17; refine (alt_any _ _ _ _ _ Hb1.out hlen (by omega) (by omega)).mono ?_; rintro e w2 ⟨a2, n2, cap2, rfl, hn2, hb2, hB2⟩)
      have HB2 := Lib.hid (HB1.out.trans (hB2.mono HB1.out.size))
      have HC2 := Lib.hid (Hb1.out.kept hB2)
      have HD2 := Lib.hid hb2
      clear hB2 hb2
      go_wp2_with (go_at_call 16; refine (draw_floordiv _ _ _ _ HD2.out hn2).mono ?_; rintro e w3 ⟨x', d, x1, x2, d1, d2, rfl, hB3⟩)
      have HB3 := Lib.hid (HB2.out.trans (hB3.mono HB2.out.size))
      have HC3 := Lib.hid (HC2.out.kept hB3)
      clear hB3
      have hfl : (1 ≤ d ∧ -1000000001 ≤ flD x' d ∧ flD x' d ≤ 1000000001 ∧ -1000000001 ≤ clD x' d ∧ clD x' d ≤ 1000000001 ∧ -2000000000000 ≤ flD x' d * d ∧ flD x' d * d ≤ x' ∧ x' < (flD x' d + 1) * d ∧ (flD x' d + 1) * d ≤ 2000000000000 ∧ x' ≤ clD x' d * d ∧ clD x' d * d ≤ 2000000000000 ∧ -2000000000000 ≤ (clD x' d - 1) * d ∧ (clD x' d - 1) * d < x') ∨ (d < 1 ∧ flD x' d = 0 ∧ clD x' d = 0) := by
        by_cases hd : 1 ≤ d
        · exact .inl ⟨hd, fl_law hd d2 x1 x2⟩
        · exact .inr ⟨by omega, fl_zero (by omega)⟩
      rcases hfl with ⟨hd, k1, k2, k3, k4, k5, k6, k7, k8, k9, k10, k11, k12⟩ | ⟨hd, k1, k2⟩
      all_goals
        go_wp2_with (first | (go_at_call 18; refine (impl_floor _ _ _ ⟨by omega, by omega⟩).mono ?_; rintro e w' ⟨rfl, rfl⟩) | (go_at_call 19; refine (impl_ceil _ _ _ ⟨by omega, by omega⟩).mono ?_; rintro e w' ⟨rfl, rfl⟩))
        go_wp2_with (go_at_call 17; refine (alt_any _ _ _ _ _ HC3.out hlen (by omega) (by omega)).mono ?_; rintro e w4 ⟨a4, n4, cap4, rfl, hn4, hb4, hB4⟩)
        have HB4 := Lib.hid (HB3.out.trans (hB4.mono HB3.out.size))
        have HD4 := Lib.hid hb4
        clear hB4 hb4
        go_wp2_with (go_at_call 20; refine (draw_ratios _ _ _ _ HD4.out hn4).mono ?_; rintro e w5 ⟨p, q, r, s, rfl, hB5⟩)
        have HB5 := Lib.hid (HB4.out.trans (hB5.mono HB4.out.size))
        clear hB5
        rcases cr_law p q r s with ⟨j1, j2⟩ | ⟨j1, j2⟩ | ⟨j1, j2⟩ | ⟨j1, j2⟩
        all_goals
          go_wp2_with (first | (go_at_call 22; refine (spec_ratios _ _ _ _ _).mono ?_; rintro e w' ⟨rfl, rfl⟩) | (go_at_call 21; refine (impl_ratios _ _ _ _ _).mono ?_; rintro e w' ⟨rfl, rfl⟩))
          go_ret
          exact ⟨rfl, HB5.out⟩

/-! ### THE ROW's STEP: WRITTEN OUT: LEAVE IT -/
set_option maxRecDepth 100000 in
theorem lifted (os : Os) (started : os.Started) (H : Type) (enc : TypeId × Value → H) :
    ReturnsInHanded {} Try.checked os 3 .any (Rows.fnExactSpec.pre6 enc Try.prog Try.f3 Rows.fnExactRow.domain false) (Rows.fnExactSpec.post enc Try.prog Try.f3 false true false false) := by
  refine returnsInHanded_of_change (C := Try.checked) own started (by kernel_rfl) Try.func3
    (ChangeSpec.witness6 (enc := enc) (C := Try.checked) false ⟨#[], #[.slice none 0 0], []⟩ 8 (by kernel_rfl) (by kernel_rfl) (by kernel_rfl) (by kernel_rfl)) ?_
  intro W base args ds gs before hval0 hW hcnd _
  have hval : ∀ (j : Nat) t v, Try.f3.params[j]? = some t → args[j]? = some v → Value.okWide Try.prog W .any base t v := hval0
  have hW' := hW
  obtain ⟨p, q, hA0, hV, rfl, hfz, hnd⟩ := hW
  have hA : DataW.TrodAll enc Try.prog W 0 (fun _ => true) true Try.f3.params.toList args.toList ds p := hA0
  rw [Try.params3] at hA hval
  obtain ⟨v0, vs0, d0, ds0, p0, q0, hargs, rfl, rfl, h0, r0⟩ := trodAll_cons hA
  obtain ⟨rfl, rfl, rfl⟩ := trodAll_nil r0
  obtain rfl : args = #[v0] := by cases args; simp_all
  obtain ⟨rfl, rfl⟩ := trodVars_none hV
  obtain ⟨a0, len0, cap0, rfl⟩ := okWide_slice Try.underlying22 (hval 0 22 v0 rfl rfl)
  have k0 := h0
  have lt0 : ∀ x ∈ p0, x.block < W.heap.size := by obtain ⟨m, hm⟩ := k0; exact DataW.trod_lt m _ _ _ hm
  obtain ⟨z0, w0⟩ : ∃ zs, IsRow .u8 W a0 len0 cap0 zs := by
    obtain ⟨fuel, hf⟩ := h0
    rcases open_ints Try.underlying22 Try.underlying5 (by kernel_rfl) hf with ⟨hcs, _⟩ | ⟨x, l, c, zs, hcs, _, hl, hm, hz, _, hcell, hwz⟩
    · simp [Value.cells] at hcs
      obtain ⟨rfl, rfl, rfl⟩ := hcs
      exact ⟨[], .inl ⟨rfl, rfl, rfl, rfl⟩⟩
    · simp [Value.cells] at hcs
      obtain ⟨rfl, rfl, rfl⟩ := hcs
      exact ⟨zs, .inr ⟨_, rfl, hl, hm, by simpa using hz, hcell, hwz⟩⟩
  clear hA0 hval0
  refine (walk a0 len0 cap0 z0 W w0).mono fun e W' ⟨he, bel⟩ => ?_
  subst he
  exact ⟨_, rfl, _, _, _, [], _, [], hW', trodAll_mk1 (shut_bool Try.underlying4 _), (trodAll_cons_mk (Below.trod laidOut (by kernel_rfl) (of_decide_eq_true (by kernel_rfl)) k0 bel lt0) trodAll_mk0), rfl, bel.frame _, fun h => by cases h⟩

theorem over : Rows.fnExactRow.holds Try.pinned (OpenSpec.ofChange Rows.fnExactSpec) :=
  OpenClaim.holds_of_wide 3 Try.f3 rfl rfl rfl rfl rfl rfl rfl ⟨rfl, rfl, rfl, rfl, rfl⟩ rfl rfl rfl rfl rfl (by kernel_rfl) Try.func3 (by kernel_rfl)
    (of_decide_eq_true (by kernel_rfl)) (by unfold Func.isWrapper; first | (rw [if_pos (by decide +kernel)]; kernel_rfl) | (rw [if_neg (by decide +kernel)]; exact ⟨rfl, rfl⟩))
    (fun os started H enc _ => lifted os started H enc)

/-- ████ THE STATEMENT ████ -/
theorem proved : Rows.FnExactSaid := over
end Go.Proofs.Ytnojeoeccohhlaa.fnExact
