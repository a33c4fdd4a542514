/- For every input that can be read, the Go function laws.FnCombined returns true and leaves its arguments as they read: the statement Rows.FnCombinedSaid, without a condition of ours. The frame was written by the kit's skeleton program, the walk by hand. -/
import Derived.Test.YtimpajhgplkpmaaRows
import Derived.WalkKit
import Derived.ProofKit
import Derived.OpenShut
import Derived.ShutString
import Derived.ChangeOld
import Derived.Below
import Derived.Test.YtimpajhgplkpmaaC1
import Derived.Test.YtimpajhgplkpmaaInts
import Derived.Test.YtimpajhgplkpmaaC1L
import Derived.Test.YtimpajhgplkpmaaFlt
import Derived.Test.YtimpajhgplkpmaaC2
import Derived.Test.YtimpajhgplkpmaaSmps
import Derived.Test.YtimpajhgplkpmaaMem
import Derived.Test.YtimpajhgplkpmaaPd
import Derived.Test.YtimpajhgplkpmaaGl
import Derived.Test.YtimpajhgplkpmaaRs
import Derived.Test.YtimpajhgplkpmaaBd
import Derived.Test.YtimpajhgplkpmaaRf
import Derived.Test.YtimpajhgplkpmaaOnce
import Derived.Test.YtimpajhgplkpmaaWant
import Derived.Test.YtimpajhgplkpmaaComb
import Derived.Test.YtimpajhgplkpmaaDraw
import Derived.Test.YtimpajhgplkpmaaDraw1
import Derived.Test.YtimpajhgplkpmaaEx
import Derived.Test.YtimpajhgplkpmaaDraw5
import Derived.Test.YtimpajhgplkpmaaDraw5W
import Derived.Test.YtimpajhgplkpmaaDraw5C
import Derived.Test.YtimpajhgplkpmaaLaw5C
namespace Go.Proofs.Ytimpajhgplkpmaa.fnCombined
open Go.ChangeShapes Go.WideShapes Go.ChangeAt Go.RowKit
open Go.ChangeMaps (open_string shut_string)
open Go.Proofs.Ytimpajhgplkpmaa.C1
open Go.Proofs.Ytimpajhgplkpmaa.Ints
open Go.Proofs.Ytimpajhgplkpmaa.C1L
open Go.Proofs.Ytimpajhgplkpmaa.Flt
open Go.Proofs.Ytimpajhgplkpmaa.C2
open Go.Proofs.Ytimpajhgplkpmaa.Smps
open Go.Proofs.Ytimpajhgplkpmaa.Mem
open Go.Proofs.Ytimpajhgplkpmaa.Pd
open Go.Proofs.Ytimpajhgplkpmaa.Gl
open Go.Proofs.Ytimpajhgplkpmaa.Rs
open Go.Proofs.Ytimpajhgplkpmaa.Bd
open Go.Proofs.Ytimpajhgplkpmaa.Rf
open Go.Proofs.Ytimpajhgplkpmaa.Once
open Go.Proofs.Ytimpajhgplkpmaa.Want
open Go.Proofs.Ytimpajhgplkpmaa.Comb
open Go.Proofs.Ytimpajhgplkpmaa.Draw
open Go.Proofs.Ytimpajhgplkpmaa.Draw1
open Go.Proofs.Ytimpajhgplkpmaa.Ex
open Go.Proofs.Ytimpajhgplkpmaa.Draw5
open Go.Proofs.Ytimpajhgplkpmaa.Draw5W
open Go.Proofs.Ytimpajhgplkpmaa.Draw5C
open Go.Proofs.Ytimpajhgplkpmaa.Law5C
set_option linter.unusedVariables false

theorem own : ownKnob Try.prog.godebug = none := by kernel_rfl
theorem laidOut : laidOutB Try.prog = true := by kernel_rfl

/-- WHAT THE WALK IS TOLD OF A SLICE OF INTEGERS THAT CAME IN: it is nil; or it leads to a row of 'cap' cells, the numbers 'zs' (the first 'len' are its elements, the rest its spare room), each fitting its kind. -/
def IsRow (k : IntKind) (w : World) (a : Option Addr) (len cap : Nat) (zs : List Int) : Prop :=
  (a = none ∧ len = 0 ∧ cap = 0 ∧ zs = []) ∨
  ∃ x, a = some x ∧ len ≤ cap ∧ cap ≤ maxLen ∧ zs.length = cap ∧ (∀ i, i < zs.length → w.cell? (x.add i) = some (.int k (zs.getD i 0))) ∧ ∀ n ∈ zs, (Lit.int k n).wf = true

/-! ### STEP 1: THE WALK: the Go text returns true, AND WRITES NOTHING THAT WAS THERE: 'Below w.heap.size w w'' (Derived/Below.lean: '.refl', '.alloc', '.drew', '.setCell' at a new block, '.trans'). Open each 'IsRow' by 'rcases' AHEAD of 'go_enter'; part every test ahead of the walk. -/
set_option maxHeartbeats 4000000 in
set_option maxRecDepth 100000 in
theorem walk (a0 : Option Addr) (len0 cap0 : Nat) (z0 : List Int) (w : World) (w0 : IsRow .u8 w a0 len0 cap0 z0) :
    Calls Try.prog 5 #[.slice a0 len0 cap0] w fun e w' => e = .returned (.bool true) ∧ Below w.heap.size w w' := by
-- env: none
  have hby := of_row_bytes w0
  by_cases hbig : 1048576 < len0
  · go_enter Try.func5, Try.ntmps5
    go_wp2
    go_ret
    exact ⟨rfl, Below.refl _ _⟩
  · have Hb := Lib.hid hby
    have hlen : len0 ≤ 1048576 := by omega
    have hlen2 : len0 ≤ 2097152 := by omega
    clear hby w0
    go_enter Try.func5, Try.ntmps5
    go_wp2_with (first | (go_at_call 12; refine (big_no _ _ _ _ hlen).mono ?_; rintro e w' ⟨rfl, rfl⟩))
    refine (draw_comb _ _ _ _ Hb.out hlen2).mono ?_
    rintro e w1 ⟨c, a', xs, cap', hxl, hI, rfl, hB1⟩
    have HB1 := Lib.hid hB1
    have HI := Lib.hid hI
    have hmm : xs.length ≤ 35184372088832 := by omega
    obtain ⟨v, hv⟩ : ∃ v, combV c xs = v := ⟨_, rfl⟩
    have hlaw := comb_law c xs
    have hci := fun W hW => impl_comb c xs a' cap' W hW hmm
    have hcs := fun W hW => spec_comb c xs a' cap' W hW hmm
    rw [hv] at hlaw hci hcs
    have HCI := Lib.hid hci
    have HCS := Lib.hid hcs
    have HL := Lib.hid hlaw
    have hvv : (v != v) = false := by simp
    clear hB1 hI Hb hci hcs hlaw hv
    go_wp2_with fail
    refine (HCI.out _ HI.out).mono ?_
    rintro e w' ⟨rfl, rfl⟩
    go_wp2_with fail
    refine (HCS.out _ HI.out).mono ?_
    rintro e w' ⟨rfl, rfl⟩
    clear HCI HCS
    rcases HL.out with rfl | ⟨hv0, hall⟩
    · go_wp2
      go_ret
      exact ⟨rfl, HB1.out⟩
    · have HA := Lib.hid hall
      obtain ⟨b, off, hc⟩ := Ints.cells HI.out
      clear HL hall
      go_wp2
      go_loop [6] (fun i => ∃ k : Nat, k ≤ xs.length ∧ i = .int .i64 k) (fun i => xs.length - (intOf i).toNat)
      case atStart => exact ⟨0, Nat.zero_le _, rfl⟩
      case round =>
        obtain ⟨k, hk, rfl⟩ := hrel
        by_cases hlt : k < xs.length
        · obtain rfl := hc.1 (by omega)
          have hx := hc.2 k hlt
          obtain ⟨h1, h2⟩ := HA.out k hlt
          have h1' : ¬ v < xs[k] := by omega
          clear hc
          by_cases hn : xs[k] < 0
          · have h3 := h2 hn
            have h3' : ¬ v < c := by omega
            clear h2
            go_wp2
            go_round
            case rel => exact ⟨k + 1, by omega, by go_num⟩
            case measure => simp [intOf]; omega
          · clear h2
            go_wp2
            go_round
            case rel => exact ⟨k + 1, by omega, by go_num⟩
            case measure => simp [intOf]; omega
        · clear hc
          go_wp2
          go_ret
          exact ⟨rfl, HB1.out⟩

/-! ### THE ROW's STEP: WRITTEN OUT: LEAVE IT -/
set_option maxRecDepth 100000 in
theorem lifted (os : Os) (started : os.Started) (H : Type) (enc : TypeId × Value → H) :
    ReturnsInHanded {} Try.checked os 5 .any (Rows.fnCombinedSpec.pre6 enc Try.prog Try.f5 Rows.fnCombinedRow.domain false) (Rows.fnCombinedSpec.post enc Try.prog Try.f5 false true false false) := by
  refine returnsInHanded_of_change (C := Try.checked) own started (by kernel_rfl) Try.func5
    (ChangeSpec.witness6 (enc := enc) (C := Try.checked) false ⟨#[], #[.slice none 0 0], []⟩ 8 (by kernel_rfl) (by kernel_rfl) (by kernel_rfl) (by kernel_rfl)) ?_
  intro W base args ds gs before hval0 hW hcnd _
  have hval : ∀ (j : Nat) t v, Try.f5.params[j]? = some t → args[j]? = some v → Value.okWide Try.prog W .any base t v := hval0
  have hW' := hW
  obtain ⟨p, q, hA0, hV, rfl, hfz, hnd⟩ := hW
  have hA : DataW.TrodAll enc Try.prog W 0 (fun _ => true) true Try.f5.params.toList args.toList ds p := hA0
  rw [Try.params5] at hA hval
  obtain ⟨v0, vs0, d0, ds0, p0, q0, hargs, rfl, rfl, h0, r0⟩ := trodAll_cons hA
  obtain ⟨rfl, rfl, rfl⟩ := trodAll_nil r0
  obtain rfl : args = #[v0] := by cases args; simp_all
  obtain ⟨rfl, rfl⟩ := trodVars_none hV
  obtain ⟨a0, len0, cap0, rfl⟩ := okWide_slice Try.underlying22 (hval 0 22 v0 rfl rfl)
  have k0 := h0
  have lt0 : ∀ x ∈ p0, x.block < W.heap.size := by obtain ⟨m, hm⟩ := k0; exact DataW.trod_lt m _ _ _ hm
  obtain ⟨z0, w0⟩ : ∃ zs, IsRow .u8 W a0 len0 cap0 zs := by
    obtain ⟨fuel, hf⟩ := h0
    rcases open_ints Try.underlying22 Try.underlying5 (by kernel_rfl) hf with ⟨hcs, _⟩ | ⟨x, l, c, zs, hcs, _, hl, hm, hz, _, hcell, hwz⟩
    · simp [Value.cells] at hcs
      obtain ⟨rfl, rfl, rfl⟩ := hcs
      exact ⟨[], .inl ⟨rfl, rfl, rfl, rfl⟩⟩
    · simp [Value.cells] at hcs
      obtain ⟨rfl, rfl, rfl⟩ := hcs
      exact ⟨zs, .inr ⟨_, rfl, hl, hm, by simpa using hz, hcell, hwz⟩⟩
  clear hA0 hval0
  refine (walk a0 len0 cap0 z0 W w0).mono fun e W' ⟨he, bel⟩ => ?_
  subst he
  exact ⟨_, rfl, _, _, _, [], _, [], hW', trodAll_mk1 (shut_bool Try.underlying4 _), (trodAll_cons_mk (Below.trod laidOut (by kernel_rfl) (of_decide_eq_true (by kernel_rfl)) k0 bel lt0) trodAll_mk0), rfl, bel.frame _, fun h => by cases h⟩

theorem over : Rows.fnCombinedRow.holds Try.pinned (OpenSpec.ofChange Rows.fnCombinedSpec) :=
  OpenClaim.holds_of_wide 5 Try.f5 rfl rfl rfl rfl rfl rfl rfl ⟨rfl, rfl, rfl, rfl, rfl⟩ rfl rfl rfl rfl rfl (by kernel_rfl) Try.func5 (by kernel_rfl)
    (of_decide_eq_true (by kernel_rfl)) (by unfold Func.isWrapper; first | (rw [if_pos (by decide +kernel)]; kernel_rfl) | (rw [if_neg (by decide +kernel)]; exact ⟨rfl, rfl⟩))
    (fun os started H enc _ => lifted os started H enc)

/-- ████ THE STATEMENT ████ -/
theorem proved : Rows.FnCombinedSaid := over
end Go.Proofs.Ytimpajhgplkpmaa.fnCombined
