/- For every input that can be read, the Go function laws.FnExactPodsIn returns true and leaves its arguments as they read: the statement Rows.FnExactPodsInSaid, without a condition of ours. -/
import Derived.Test.YtahhemgmlmhbjaaRows
import Derived.WalkKit
import Derived.ProofKit
import Derived.OpenShut
import Derived.ShutString
import Derived.ChangeOld
import Derived.Below
import Derived.Test.YtahhemgmlmhbjaaC1
import Derived.Test.YtahhemgmlmhbjaaInts
import Derived.Test.YtahhemgmlmhbjaaC2
import Derived.Test.YtahhemgmlmhbjaaSmps
import Derived.Test.YtahhemgmlmhbjaaStM
import Derived.Test.YtahhemgmlmhbjaaCmp
import Derived.Test.YtahhemgmlmhbjaaSort
import Derived.Test.YtahhemgmlmhbjaaSortR
import Derived.Test.YtahhemgmlmhbjaaSortM
import Derived.Test.YtahhemgmlmhbjaaSortN
import Derived.Test.YtahhemgmlmhbjaaSortP
import Derived.Test.YtahhemgmlmhbjaaSortS
import Derived.Test.YtahhemgmlmhbjaaSortD
import Derived.Test.YtahhemgmlmhbjaaSortI
import Derived.Test.YtahhemgmlmhbjaaSortJ
import Derived.Test.YtahhemgmlmhbjaaMark
import Derived.Test.YtahhemgmlmhbjaaSortL
import Derived.Test.YtahhemgmlmhbjaaPods
import Derived.Test.YtahhemgmlmhbjaaPodsT
import Derived.Test.YtahhemgmlmhbjaaPodsM
import Derived.Test.YtahhemgmlmhbjaaPodsL
namespace Go.Proofs.Ytahhemgmlmhbjaa.fnExactPodsIn
open Go.ChangeShapes Go.WideShapes Go.ChangeAt Go.RowKit
open Go.ChangeMaps (open_string shut_string)
open Go.Proofs.Ytahhemgmlmhbjaa.C1
open Go.Proofs.Ytahhemgmlmhbjaa.Ints
open Go.Proofs.Ytahhemgmlmhbjaa.C2
open Go.Proofs.Ytahhemgmlmhbjaa.Smps
open Go.Proofs.Ytahhemgmlmhbjaa.StM
open Go.Proofs.Ytahhemgmlmhbjaa.Cmp
open Go.Proofs.Ytahhemgmlmhbjaa.Sort
open Go.Proofs.Ytahhemgmlmhbjaa.SortR
open Go.Proofs.Ytahhemgmlmhbjaa.SortM
open Go.Proofs.Ytahhemgmlmhbjaa.SortN
open Go.Proofs.Ytahhemgmlmhbjaa.SortP
open Go.Proofs.Ytahhemgmlmhbjaa.SortS
open Go.Proofs.Ytahhemgmlmhbjaa.SortD
open Go.Proofs.Ytahhemgmlmhbjaa.SortI
open Go.Proofs.Ytahhemgmlmhbjaa.SortJ
open Go.Proofs.Ytahhemgmlmhbjaa.Mark
open Go.Proofs.Ytahhemgmlmhbjaa.SortL
open Go.Proofs.Ytahhemgmlmhbjaa.Pods
open Go.Proofs.Ytahhemgmlmhbjaa.PodsT
open Go.Proofs.Ytahhemgmlmhbjaa.PodsM
open Go.Proofs.Ytahhemgmlmhbjaa.PodsL
set_option linter.unusedVariables false

theorem own : ownKnob Try.prog.godebug = none := by kernel_rfl
theorem laidOut : laidOutB Try.prog = true := by kernel_rfl
set_option maxHeartbeats 4000000 in
set_option maxRecDepth 100000 in
theorem walk (a0 : Option Addr) (len0 cap0 : Nat) (z0 : List Smp) (w : World) (w0 : IsSmps w a0 len0 cap0 z0)  :
    Calls Try.prog 6 #[.slice a0 len0 cap0] w fun e w' => e = .returned (.bool true) ∧ Below w.heap.size w w' := by
  obtain ⟨hl, hcap, hmax, hwf, hS⟩ := w0
  subst hl
  have hml : z0.length ≤ 9223372036854775807 := by unfold maxLen at hmax; omega
  have HW := Lib.hid hwf
  have HS := Lib.hid hS
  clear hwf hS
  go_enter Try.func6, Try.ntmps6
  go_wp2_with (go_at_call 14; refine (sz_samples z0 HW.out _ _ hml _ HS.out).mono ?_; rintro e u1 ⟨r, rfl, hb1, hr⟩; have B1 := Lib.hid hb1; clear hb1; rcases hr with hr | ⟨hr, hn, hsz⟩)
  · go_ret
    exact ⟨rfl, B1.out⟩
  · have S1 := Lib.hid (HS.out.kept B1.out)
    clear hsz
    obtain ⟨ps, hps⟩ : ∃ ps, podsR z0 = ps := ⟨_, rfl⟩
    have hpl : ps.length ≤ 300 := by rw [← hps]; exact podsR_len z0
    have PS := Lib.hid hps
    clear hps
    go_wp2_with (go_at_call 16; refine (to_samples z0 _ _ _ S1.out hn).mono ?_; rintro e u2 ⟨g2, rfl, ho2, hb2⟩; have I2 := Lib.hid (own_smps ho2); have B2 := Lib.hid (B1.out.trans (hb2.mono B1.out.size)); have S2 := Lib.hid (S1.out.kept hb2); clear ho2 hb2)
    by_cases hz : ps = []
    · subst hz
      go_wp2_with (go_at_call 21; refine (spec_p0 z0 PS.out HW.out _ _ _ I2.out hn).mono ?_; rintro e u3 ⟨a3, c3, rfl, hb3⟩; have B3 := Lib.hid (B2.out.trans (hb3.mono B2.out.size)); have S3 := Lib.hid (S2.out.kept hb3); clear hb3)
      go_wp2_with (go_at_call 16; refine (to_samples z0 _ _ _ S3.out hn).mono ?_; rintro e u4 ⟨g4, rfl, ho4, hb4⟩; have O4 := Lib.hid ho4; have B4 := Lib.hid (B3.out.trans (hb4.mono B3.out.size)); have S4 := Lib.hid (S3.out.kept hb4); have L4 := Lib.hid (Nat.le_trans B3.out.size ho4.new.1); clear ho4 hb4)
      have I4 := Lib.hid (own_smps O4.out)
      go_wp2_with (go_at_call 22; refine (impl_p0 z0 PS.out _ _ _ I4.out hn).mono ?_; rintro e u5 ⟨a5, c5, rfl, hb5⟩; have B5 := Lib.hid (B4.out.trans (hb5.mono B4.out.size)); have S5 := Lib.hid (S4.out.kept hb5); have O5 := Lib.hid (O4.out.kept hb5); clear hb5)
      go_wp2_with (go_at_call 23; refine (eq_strs [] 0 rfl _ _ _ _ _ (.inl rfl) (.inl rfl) (by omega)).mono ?_; rintro e u6 ⟨rfl, hb6⟩; have B6 := Lib.hid (B5.out.trans (hb6.mono B5.out.size)); have S6 := Lib.hid (S5.out.kept hb6); have O6 := Lib.hid (O5.out.kept hb6); clear hb6)
      go_wp2_with (go_at_call 16; refine (to_samples z0 _ _ _ S6.out hn).mono ?_; rintro e u7 ⟨g7, rfl, ho7, hb7⟩; have I7 := Lib.hid (own_smps ho7); have B7 := Lib.hid (B6.out.trans (hb7.mono B6.out.size)); have O7 := Lib.hid (O6.out.kept hb7); clear ho7 hb7)
      have J7 := Lib.hid (own_smps O7.out)
      go_wp2_with (go_at_call 18; refine (eq_n z0 _ rfl _ _ _ _ _ J7.out I7.out hn).mono ?_; rintro e u8 ⟨rfl, hb8⟩; have B8 := Lib.hid (B7.out.trans (hb8.mono B7.out.size)); have O8 := Lib.hid (O7.out.kept hb8); clear hb8)
      go_wp2_with (go_at_call 19; refine (mark_n _ _ _ z0 rfl hn _ (own_cells O8.out rfl)).mono ?_; rintro e u9 ⟨rfl, hc9, ho9⟩; have B9 := Lib.hid (B8.out.trans (ho9.below L4.out B8.out.size)); clear hc9 ho9)
      go_wp2_with (go_at_call 23; refine (eq_strs [] 0 rfl _ _ _ _ _ (.inl rfl) (.inl rfl) (by omega)).mono ?_; rintro e v1 ⟨rfl, hb⟩; have B10 := Lib.hid (B9.out.trans (hb.mono B9.out.size)); clear hb)
      go_wp2_with (go_at_call 24; refine (mark_none _ _ _ _).mono ?_; rintro e v2 ⟨rfl, rfl⟩)
      go_wp2_with (go_at_call 25; refine (held_none _ _ _ _).mono ?_; rintro e v3 ⟨rfl, rfl⟩)
      have S10 := Lib.hid (HS.out.kept B10.out)
      go_wp2_with (go_at_call 16; refine (to_samples z0 _ _ _ S10.out hn).mono ?_; rintro e v4 ⟨g8, rfl, ho, hb⟩; have I11 := Lib.hid (own_smps ho); have B11 := Lib.hid (B10.out.trans (hb.mono B10.out.size)); clear ho hb)
      go_wp2_with (go_at_call 22; refine (impl_p0 z0 PS.out _ _ _ I11.out hn).mono ?_; rintro e v5 ⟨a9, c9, rfl, hb⟩; have B12 := Lib.hid (B11.out.trans (hb.mono B11.out.size)); clear hb)
      go_wp2_with (go_at_call 23; refine (eq_strs [] 0 rfl _ _ _ _ _ (.inl rfl) (.inl rfl) (by omega)).mono ?_; rintro e v6 ⟨rfl, hb⟩; have B13 := Lib.hid (B12.out.trans (hb.mono B12.out.size)); clear hb)
      go_wp2_with (go_at_call 25; refine (held_none _ _ _ _).mono ?_; rintro e v7 ⟨rfl, rfl⟩)
      go_ret
      exact ⟨rfl, B13.out⟩
    · have NZ := Lib.hid hz
      clear hz
      go_wp2_with (go_at_call 21; refine (spec_p1 z0 ps PS.out NZ.out HW.out _ _ _ I2.out hn).mono ?_; rintro e u3 ⟨g3, c3, rfl, hg3, hc3, hb3⟩; have G3 := Lib.hid hc3.1; have B3 := Lib.hid (B2.out.trans (hb3.mono B2.out.size)); have S3 := Lib.hid (S2.out.kept hb3); have W3 := Lib.hid hc3; clear hb3 hg3 hc3)
      go_wp2_with (go_at_call 16; refine (to_samples z0 _ _ _ S3.out hn).mono ?_; rintro e u4 ⟨g4, rfl, ho4, hb4⟩; have O4 := Lib.hid ho4; have B4 := Lib.hid (B3.out.trans (hb4.mono B3.out.size)); have S4 := Lib.hid (S3.out.kept hb4); have W4 := Lib.hid (W3.out.kept hb4); have N34 := Lib.hid (show g3 ≠ g4 by have h1 := ho4.new.1; have h2 := G3.out; omega); have L4 := Lib.hid (Nat.le_trans B3.out.size ho4.new.1); have M4 := Lib.hid ho4.new.2; have K4 := Lib.hid (Nat.lt_of_lt_of_le G3.out hb4.size); clear ho4 hb4)
      have I4 := Lib.hid (own_smps O4.out)
      go_wp2_with (go_at_call 22; refine (impl_p1 z0 ps PS.out NZ.out _ _ _ I4.out hn).mono ?_; rintro e u5 ⟨g5, c5, rfl, hg5, hc5, hb5⟩; have N45 := Lib.hid (show g5 ≠ g4 by have h1 := M4.out; omega); have N35 := Lib.hid (show g3 ≠ g5 by have h1 := K4.out; omega); have L5 := Lib.hid (Nat.le_trans B4.out.size hg5); have X5 := Lib.hid hc5; have B5 := Lib.hid (B4.out.trans (hb5.mono B4.out.size)); have S5 := Lib.hid (S4.out.kept hb5); have O5 := Lib.hid (O4.out.kept hb5); have W5 := Lib.hid (W4.out.kept hb5); clear hb5 hg5 hc5)
      go_wp2_with (go_at_call 23; refine (eq_strs ps _ rfl _ _ _ _ _ (cells_vals X5.out) (cells_vals W5.out) (by omega)).mono ?_; rintro e u6 ⟨rfl, hb6⟩; have B6 := Lib.hid (B5.out.trans (hb6.mono B5.out.size)); have S6 := Lib.hid (S5.out.kept hb6); have O6 := Lib.hid (O5.out.kept hb6); have X6 := Lib.hid (X5.out.kept hb6); have W6 := Lib.hid (W5.out.kept hb6); clear hb6)
      go_wp2_with (go_at_call 16; refine (to_samples z0 _ _ _ S6.out hn).mono ?_; rintro e u7 ⟨g7, rfl, ho7, hb7⟩; have I7 := Lib.hid (own_smps ho7); have B7 := Lib.hid (B6.out.trans (hb7.mono B6.out.size)); have O7 := Lib.hid (O6.out.kept hb7); have X7 := Lib.hid (X6.out.kept hb7); have W7 := Lib.hid (W6.out.kept hb7); clear ho7 hb7)
      have J7 := Lib.hid (own_smps O7.out)
      go_wp2_with (go_at_call 18; refine (eq_n z0 _ rfl _ _ _ _ _ J7.out I7.out hn).mono ?_; rintro e u8 ⟨rfl, hb8⟩; have B8 := Lib.hid (B7.out.trans (hb8.mono B7.out.size)); have O8 := Lib.hid (O7.out.kept hb8); have X8 := Lib.hid (X7.out.kept hb8); have W8 := Lib.hid (W7.out.kept hb8); clear hb8)
      go_wp2_with (go_at_call 19; refine (mark_n _ _ _ z0 rfl hn _ (own_cells O8.out rfl)).mono ?_; rintro e u9 ⟨rfl, hc9, ho9⟩; have X9 := Lib.hid (cells_only X8.out ho9 N45.out); have W9 := Lib.hid (cells_only W8.out ho9 N34.out); have B9 := Lib.hid (B8.out.trans (ho9.below L4.out B8.out.size)); clear hc9 ho9)
      go_wp2_with (go_at_call 23; refine (eq_strs ps _ rfl _ _ _ _ _ (cells_vals X9.out) (cells_vals W9.out) (by omega)).mono ?_; rintro e v1 ⟨rfl, hb⟩; have B10 := Lib.hid (B9.out.trans (hb.mono B9.out.size)); have X10 := Lib.hid (X9.out.kept hb); have W10 := Lib.hid (W9.out.kept hb); clear hb)
      go_wp2_with (go_at_call 24; refine (mark_strs _ _ _ 1 (by omega) (ps.map encT) (enc_len ps) (by rw [List.length_map]; omega) _ X10.out).mono ?_; rintro e v2 ⟨rfl, hc, ho⟩; have C11 := Lib.hid hc; have W11 := Lib.hid (cells_only W10.out ho N35.out); have B11 := Lib.hid (B10.out.trans (ho.below L5.out B10.out.size)); clear hc ho)
      go_wp2_with (go_at_call 25; refine (held_strs _ 1 _ _ (by omega) (by omega) _ C11.out).mono ?_; rintro e v3 ⟨rfl, hb⟩; have C12 := Lib.hid (C11.out.kept hb); have W12 := Lib.hid (W11.out.kept hb); have B12 := Lib.hid (B11.out.trans (hb.mono B11.out.size)); clear hb)
      have S12 := Lib.hid (HS.out.kept B12.out)
      go_wp2_with (go_at_call 16; refine (to_samples z0 _ _ _ S12.out hn).mono ?_; rintro e v4 ⟨g8, rfl, ho, hb⟩; have I13 := Lib.hid (own_smps ho); have C13 := Lib.hid (C12.out.kept hb); have W13 := Lib.hid (W12.out.kept hb); have B13 := Lib.hid (B12.out.trans (hb.mono B12.out.size)); clear ho hb)
      go_wp2_with (go_at_call 22; refine (impl_p1 z0 ps PS.out NZ.out _ _ _ I13.out hn).mono ?_; rintro e v5 ⟨g9, c9, rfl, _, hs, hb⟩; have X14 := Lib.hid hs; have C14 := Lib.hid (C13.out.kept hb); have W14 := Lib.hid (W13.out.kept hb); have B14 := Lib.hid (B13.out.trans (hb.mono B13.out.size)); clear hs hb)
      go_wp2_with (go_at_call 23; refine (eq_strs ps _ rfl _ _ _ _ _ (cells_vals X14.out) (cells_vals W14.out) (by omega)).mono ?_; rintro e v6 ⟨rfl, hb⟩; have C15 := Lib.hid (C14.out.kept hb); have B15 := Lib.hid (B14.out.trans (hb.mono B14.out.size)); clear hb)
      go_wp2_with (go_at_call 25; refine (held_strs _ 1 _ _ (by omega) (by omega) _ C15.out).mono ?_; rintro e v7 ⟨rfl, hb⟩; have B16 := Lib.hid (B15.out.trans (hb.mono B15.out.size)); clear hb)
      go_ret
      exact ⟨rfl, B16.out⟩

set_option maxRecDepth 100000 in
theorem lifted (os : Os) (started : os.Started) (H : Type) (enc : TypeId × Value → H) :
    ReturnsInHanded {} Try.checked os 6 .any (Rows.fnExactPodsInSpec.pre6 enc Try.prog Try.f6 Rows.fnExactPodsInRow.domain false) (Rows.fnExactPodsInSpec.post enc Try.prog Try.f6 false true false false) := by
  refine returnsInHanded_of_change (C := Try.checked) own started (by kernel_rfl) Try.func6
    (ChangeSpec.witness6 (enc := enc) (C := Try.checked) false ⟨#[], #[.slice none 0 0], []⟩ 8 (by kernel_rfl) (by kernel_rfl) (by kernel_rfl) (by kernel_rfl)) ?_
  intro W base args ds gs before hval0 hW hcnd _
  have hval : ∀ (j : Nat) t v, Try.f6.params[j]? = some t → args[j]? = some v → Value.okWide Try.prog W .any base t v := hval0
  clear hval0
  have hW' := hW
  obtain ⟨p, q, hA0, hV, rfl, hfz, hnd⟩ := hW
  have hA : DataW.TrodAll enc Try.prog W 0 (fun _ => true) true Try.f6.params.toList args.toList ds p := hA0
  rw [Try.params6] at hA hval
  obtain ⟨v0, vs0, d0, ds0, p0, q0, hargs, rfl, rfl, h0, r0⟩ := trodAll_cons hA
  obtain ⟨rfl, rfl, rfl⟩ := trodAll_nil r0
  obtain rfl : args = #[v0] := by cases args; simp_all
  obtain ⟨rfl, rfl⟩ := trodVars_none hV
  have k0 := h0
  have lt0 : ∀ x ∈ p0, x.block < W.heap.size := by obtain ⟨m, hm⟩ := k0; exact DataW.trod_lt m _ _ _ hm
  obtain ⟨a0, len0, cap0, rfl⟩ := okWide_slice Try.underlying30 (hval 0 30 v0 rfl rfl)
  obtain ⟨z0, w0⟩ : ∃ zs, IsSmps W a0 len0 cap0 zs := by
    obtain ⟨fuel, hf⟩ := h0
    exact open_smps Try.underlying30 Try.underlying24 (by kernel_rfl) (by kernel_rfl) ⟨rfl, rfl, rfl, rfl⟩ Try.underlying9 Try.underlying3 hf
  clear hA0
  refine (walk a0 len0 cap0 z0 W w0).mono fun e W' ⟨he, bel⟩ => ?_
  subst he
  exact ⟨_, rfl, _, _, _, [], _, [], hW', trodAll_mk1 (shut_bool Try.underlying4 _), (trodAll_cons_mk (Below.trod laidOut (by kernel_rfl) (of_decide_eq_true (by kernel_rfl)) k0 bel lt0) trodAll_mk0), rfl, bel.frame _, fun h => by cases h⟩

theorem over : Rows.fnExactPodsInRow.holds Try.pinned (OpenSpec.ofChange Rows.fnExactPodsInSpec) :=
  OpenClaim.holds_of_wide 6 Try.f6 rfl rfl rfl rfl rfl rfl rfl ⟨rfl, rfl, rfl, rfl, rfl⟩ rfl rfl rfl rfl rfl (by kernel_rfl) Try.func6 (by kernel_rfl)
    (of_decide_eq_true (by kernel_rfl)) (by unfold Func.isWrapper; first | (rw [if_pos (by decide +kernel)]; kernel_rfl) | (rw [if_neg (by decide +kernel)]; exact ⟨rfl, rfl⟩))
    (fun os started H enc _ => lifted os started H enc)

/-- THE STATEMENT. -/
theorem proved : Rows.FnExactPodsInSaid := over
end Go.Proofs.Ytahhemgmlmhbjaa.fnExactPodsIn
