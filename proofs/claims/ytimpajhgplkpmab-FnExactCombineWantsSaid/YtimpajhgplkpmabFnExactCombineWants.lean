/- For every input that can be read, the Go function laws.FnExactCombineWants returns true and leaves its arguments as they read: the statement Rows.FnExactCombineWantsSaid, without a condition of ours. -/
import Derived.Test.YtimpajhgplkpmabRows
import Derived.WalkKit
import Derived.ProofKit
import Derived.OpenShut
import Derived.ShutString
import Derived.ChangeOld
import Derived.Below
import Derived.Test.YtimpajhgplkpmabC1
import Derived.Test.YtimpajhgplkpmabInts
import Derived.Test.YtimpajhgplkpmabC1L
import Derived.Test.YtimpajhgplkpmabFlt
import Derived.Test.YtimpajhgplkpmabC2
import Derived.Test.YtimpajhgplkpmabSmps
import Derived.Test.YtimpajhgplkpmabMem
import Derived.Test.YtimpajhgplkpmabPd
import Derived.Test.YtimpajhgplkpmabGl
import Derived.Test.YtimpajhgplkpmabRs
import Derived.Test.YtimpajhgplkpmabBd
import Derived.Test.YtimpajhgplkpmabRf
import Derived.Test.YtimpajhgplkpmabOnce
import Derived.Test.YtimpajhgplkpmabWant
import Derived.Test.YtimpajhgplkpmabComb
namespace Go.Proofs.Ytimpajhgplkpmab.fnExactCombineWants
open Go.ChangeShapes Go.WideShapes Go.ChangeAt Go.RowKit
open Go.ChangeMaps (open_string shut_string)
open Go.Proofs.Ytimpajhgplkpmab.C1
open Go.Proofs.Ytimpajhgplkpmab.Ints
open Go.Proofs.Ytimpajhgplkpmab.C1L
open Go.Proofs.Ytimpajhgplkpmab.Flt
open Go.Proofs.Ytimpajhgplkpmab.C2
open Go.Proofs.Ytimpajhgplkpmab.Smps
open Go.Proofs.Ytimpajhgplkpmab.Mem
open Go.Proofs.Ytimpajhgplkpmab.Pd
open Go.Proofs.Ytimpajhgplkpmab.Gl
open Go.Proofs.Ytimpajhgplkpmab.Rs
open Go.Proofs.Ytimpajhgplkpmab.Bd
open Go.Proofs.Ytimpajhgplkpmab.Rf
open Go.Proofs.Ytimpajhgplkpmab.Once
open Go.Proofs.Ytimpajhgplkpmab.Want
open Go.Proofs.Ytimpajhgplkpmab.Comb
set_option linter.unusedVariables false

theorem own : ownKnob Try.prog.godebug = none := by kernel_rfl
theorem laidOut : laidOutB Try.prog = true := by kernel_rfl
def IsRow (k : IntKind) (w : World) (a : Option Addr) (len cap : Nat) (zs : List Int) : Prop :=
  (a = none ∧ len = 0 ∧ cap = 0 ∧ zs = []) ∨
  ∃ x, a = some x ∧ len ≤ cap ∧ cap ≤ maxLen ∧ zs.length = cap ∧ (∀ i, i < zs.length → w.cell? (x.add i) = some (.int k (zs.getD i 0))) ∧ ∀ n ∈ zs, (Lit.int k n).wf = true
set_option maxHeartbeats 4000000 in
set_option maxRecDepth 100000 in
theorem walk (a0 : Int) (a1 : Option Addr) (len1 cap1 : Nat) (z1 : List Int) (w : World) (w0 : (Lit.int .i64 a0).wf = true) (w1 : IsRow .i64 w a1 len1 cap1 z1)  :
    Calls Try.prog 4 #[.int .i64 a0, .slice a1 len1 cap1] w fun e w' => e = .returned (.bool true) ∧ Below w.heap.size w w' := by
  obtain ⟨xs, rfl, h, hm⟩ := of_row w1
  have hmm : xs.length ≤ 9223372036854775807 := by unfold maxLen at hm; omega
  clear hm
  by_cases hbig : 1048576 < xs.length
  · go_enter Try.func4, Try.ntmps4
    go_wp2
    go_ret
    exact ⟨rfl, Below.refl _ _⟩
  · obtain ⟨v, hv⟩ : ∃ v, combV a0 xs = v := ⟨_, rfl⟩
    have hvn : (v != v) = false := by simp
    have hlen : xs.length ≤ 35184372088832 := by omega
    have H0 := Lib.hid h
    have HS := Lib.hid (fun a cap W (hW : Ints W a xs) => spec_comb a0 xs a cap W hW hlen)
    have HI := Lib.hid (fun a cap W (hW : Ints W a xs) => impl_comb a0 xs a cap W hW hlen)
    rw [hv] at HS HI
    clear h hv
    go_enter Try.func4, Try.ntmps4
    go_wp2_with (go_at_call 11; refine (to_ints xs _ _ _ H0.out hlen).mono ?_; rintro e w1 ⟨g1, rfl, hg1, hi1, hb1⟩)
    have HI1 := Lib.hid hi1
    have HB1 := Lib.hid hb1
    clear hi1 hb1
    go_wp2_with (go_at_call 10; refine (HS.out _ _ _ HI1.out).mono ?_; rintro e w' ⟨rfl, rfl⟩)
    have HI2 := Lib.hid (H0.out.kept HB1.out)
    go_wp2_with (go_at_call 11; refine (to_ints xs _ _ _ HI2.out hlen).mono ?_; rintro e w2 ⟨g2, rfl, hg2, hi2, hb2⟩)
    have HI3 := Lib.hid hi2
    have HB2 := Lib.hid hb2
    clear hi2 hb2
    go_wp2_with (go_at_call 12; refine (HI.out _ _ _ HI3.out).mono ?_; rintro e w' ⟨rfl, rfl⟩)
    have HI4 := Lib.hid (HI2.out.kept HB2.out)
    go_wp2_with (go_at_call 11; refine (to_ints xs _ _ _ HI4.out hlen).mono ?_; rintro e w3 ⟨g3, rfl, hg3, hi3, hb3⟩)
    have HI5 := Lib.hid hi3
    have HB3 := Lib.hid hb3
    clear hi3 hb3
    have HI6 := Lib.hid (HI3.out.kept HB3.out)
    go_wp2_with (go_at_call 13; refine (eq_ints xs _ _ _ _ _ HI6.out HI5.out hlen).mono ?_; rintro e w4 ⟨rfl, hb4⟩)
    have HB4 := Lib.hid hb4
    clear hb4
    go_wp2
    go_ret
    exact ⟨rfl, ((HB1.out.trans (HB2.out.mono HB1.out.size)).trans (HB3.out.mono (Nat.le_trans HB1.out.size HB2.out.size))).trans (HB4.out.mono (Nat.le_trans HB1.out.size (Nat.le_trans HB2.out.size HB3.out.size)))⟩

set_option maxRecDepth 100000 in
theorem lifted (os : Os) (started : os.Started) (H : Type) (enc : TypeId × Value → H) :
    ReturnsInHanded {} Try.checked os 4 .any (Rows.fnExactCombineWantsSpec.pre6 enc Try.prog Try.f4 Rows.fnExactCombineWantsRow.domain false) (Rows.fnExactCombineWantsSpec.post enc Try.prog Try.f4 false true false false) := by
  refine returnsInHanded_of_change (C := Try.checked) own started (by kernel_rfl) Try.func4
    (ChangeSpec.witness6 (enc := enc) (C := Try.checked) false ⟨#[], #[.int .i64 0, .slice none 0 0], []⟩ 8 (by kernel_rfl) (by kernel_rfl) (by kernel_rfl) (by kernel_rfl)) ?_
  intro W base args ds gs before hval0 hW hcnd _
  have hval : ∀ (j : Nat) t v, Try.f4.params[j]? = some t → args[j]? = some v → Value.okWide Try.prog W .any base t v := hval0
  clear hval0
  have hW' := hW
  obtain ⟨p, q, hA0, hV, rfl, hfz, hnd⟩ := hW
  have hA : DataW.TrodAll enc Try.prog W 0 (fun _ => true) true Try.f4.params.toList args.toList ds p := hA0
  rw [Try.params4] at hA hval
  obtain ⟨v0, vs0, d0, ds0, p0, q0, hargs, rfl, rfl, h0, r0⟩ := trodAll_cons hA
  obtain ⟨v1, vs1, d1, ds1, p1, q1, rfl, rfl, rfl, h1, r1⟩ := trodAll_cons r0
  obtain ⟨rfl, rfl, rfl⟩ := trodAll_nil r1
  obtain rfl : args = #[v0, v1] := by cases args; simp_all
  obtain ⟨rfl, rfl⟩ := trodVars_none hV
  have k0 := h0
  have lt0 : ∀ x ∈ p0, x.block < W.heap.size := by obtain ⟨m, hm⟩ := k0; exact DataW.trod_lt m _ _ _ hm
  have k1 := h1
  have lt1 : ∀ x ∈ p1, x.block < W.heap.size := by obtain ⟨m, hm⟩ := k1; exact DataW.trod_lt m _ _ _ hm
  obtain ⟨a0, rfl, rfl, rfl, w0⟩ := open_int Try.underlying3 (hval 0 3 v0 rfl rfl) h0
  obtain ⟨a1, len1, cap1, rfl⟩ := okWide_slice Try.underlying33 (hval 1 33 v1 rfl rfl)
  obtain ⟨z1, w1⟩ : ∃ zs, IsRow .i64 W a1 len1 cap1 zs := by
    obtain ⟨fuel, hf⟩ := h1
    rcases open_ints Try.underlying33 Try.underlying3 (by kernel_rfl) hf with ⟨hcs, _⟩ | ⟨x, l, c, zs, hcs, _, hl, hm, hz, _, hcell, hwz⟩
    · simp [Value.cells] at hcs
      obtain ⟨rfl, rfl, rfl⟩ := hcs
      exact ⟨[], .inl ⟨rfl, rfl, rfl, rfl⟩⟩
    · simp [Value.cells] at hcs
      obtain ⟨rfl, rfl, rfl⟩ := hcs
      exact ⟨zs, .inr ⟨_, rfl, hl, hm, by simpa using hz, hcell, hwz⟩⟩
  clear hA0
  refine (walk a0 a1 len1 cap1 z1 W w0 w1).mono fun e W' ⟨he, bel⟩ => ?_
  subst he
  exact ⟨_, rfl, _, _, _, [], _, [], hW', trodAll_mk1 (shut_bool Try.underlying4 _), (trodAll_cons_mk (shut_int Try.underlying3 w0) (trodAll_cons_mk (Below.trod laidOut (by kernel_rfl) (of_decide_eq_true (by kernel_rfl)) k1 bel lt1) trodAll_mk0)), rfl, bel.frame _, fun h => by cases h⟩

theorem over : Rows.fnExactCombineWantsRow.holds Try.pinned (OpenSpec.ofChange Rows.fnExactCombineWantsSpec) :=
  OpenClaim.holds_of_wide 4 Try.f4 rfl rfl rfl rfl rfl rfl rfl ⟨rfl, rfl, rfl, rfl, rfl⟩ rfl rfl rfl rfl rfl (by kernel_rfl) Try.func4 (by kernel_rfl)
    (of_decide_eq_true (by kernel_rfl)) (by unfold Func.isWrapper; first | (rw [if_pos (by decide +kernel)]; kernel_rfl) | (rw [if_neg (by decide +kernel)]; exact ⟨rfl, rfl⟩))
    (fun os started H enc _ => lifted os started H enc)

/-- THE STATEMENT. -/
theorem proved : Rows.FnExactCombineWantsSaid := over
end Go.Proofs.Ytimpajhgplkpmab.fnExactCombineWants
