/- For every input that can be read, the Go function laws.FnExactSortSamples returns true and leaves its arguments as they read: the statement Rows.FnExactSortSamplesSaid, without a condition of ours. -/
import Derived.Test.YtahhemgmlmhbjaaRows
import Derived.WalkKit
import Derived.ProofKit
import Derived.OpenShut
import Derived.ShutString
import Derived.ChangeOld
import Derived.Below
import Derived.Test.YtahhemgmlmhbjaaC1
import Derived.Test.YtahhemgmlmhbjaaInts
import Derived.Test.YtahhemgmlmhbjaaC2
import Derived.Test.YtahhemgmlmhbjaaSmps
import Derived.Test.YtahhemgmlmhbjaaStM
import Derived.Test.YtahhemgmlmhbjaaCmp
import Derived.Test.YtahhemgmlmhbjaaSort
import Derived.Test.YtahhemgmlmhbjaaSortR
import Derived.Test.YtahhemgmlmhbjaaSortM
import Derived.Test.YtahhemgmlmhbjaaSortN
import Derived.Test.YtahhemgmlmhbjaaSortP
import Derived.Test.YtahhemgmlmhbjaaSortS
import Derived.Test.YtahhemgmlmhbjaaSortD
import Derived.Test.YtahhemgmlmhbjaaSortI
import Derived.Test.YtahhemgmlmhbjaaSortJ
import Derived.Test.YtahhemgmlmhbjaaMark
import Derived.Test.YtahhemgmlmhbjaaSortL
namespace Go.Proofs.Ytahhemgmlmhbjaa.fnExactSortSamples
open Go.ChangeShapes Go.WideShapes Go.ChangeAt Go.RowKit
open Go.ChangeMaps (open_string shut_string)
open Go.Proofs.Ytahhemgmlmhbjaa.C1
open Go.Proofs.Ytahhemgmlmhbjaa.Ints
open Go.Proofs.Ytahhemgmlmhbjaa.C2
open Go.Proofs.Ytahhemgmlmhbjaa.Smps
open Go.Proofs.Ytahhemgmlmhbjaa.StM
open Go.Proofs.Ytahhemgmlmhbjaa.Cmp
open Go.Proofs.Ytahhemgmlmhbjaa.Sort
open Go.Proofs.Ytahhemgmlmhbjaa.SortR
open Go.Proofs.Ytahhemgmlmhbjaa.SortM
open Go.Proofs.Ytahhemgmlmhbjaa.SortN
open Go.Proofs.Ytahhemgmlmhbjaa.SortP
open Go.Proofs.Ytahhemgmlmhbjaa.SortS
open Go.Proofs.Ytahhemgmlmhbjaa.SortD
open Go.Proofs.Ytahhemgmlmhbjaa.SortI
open Go.Proofs.Ytahhemgmlmhbjaa.SortJ
open Go.Proofs.Ytahhemgmlmhbjaa.Mark
open Go.Proofs.Ytahhemgmlmhbjaa.SortL
set_option linter.unusedVariables false

theorem own : ownKnob Try.prog.godebug = none := by kernel_rfl
theorem laidOut : laidOutB Try.prog = true := by kernel_rfl
set_option maxHeartbeats 4000000 in
set_option maxRecDepth 100000 in
theorem walk (a0 : Option Addr) (len0 cap0 : Nat) (z0 : List Smp) (w : World) (w0 : IsSmps w a0 len0 cap0 z0)  :
    Calls Try.prog 5 #[.slice a0 len0 cap0] w fun e w' => e = .returned (.bool true) ∧ Below w.heap.size w w' := by
  obtain ⟨hl, hcap, hmax, hwf, hS⟩ := w0
  subst hl
  have hml : z0.length ≤ 9223372036854775807 := by unfold maxLen at hmax; omega
  have HW := Lib.hid hwf
  have HS := Lib.hid hS
  clear hwf hS
  go_enter Try.func5, Try.ntmps5
  go_wp2_with (go_at_call 14; refine (sz_samples z0 HW.out _ _ hml _ HS.out).mono ?_; rintro e u1 ⟨r, rfl, hb1, hr⟩; have B1 := Lib.hid hb1; clear hb1; rcases hr with hr | ⟨hr, hn, hsz⟩)
  · go_ret
    exact ⟨rfl, B1.out⟩
  · have S1 := Lib.hid (HS.out.kept B1.out)
    clear hsz
    go_wp2_with (go_at_call 16; refine (to_samples z0 _ _ _ S1.out hn).mono ?_; rintro e u2 ⟨g2, rfl, ho2, hb2⟩; have O2 := Lib.hid ho2; have B2 := Lib.hid (B1.out.trans (hb2.mono B1.out.size)); have S2 := Lib.hid (S1.out.kept hb2); clear ho2 hb2)
    have I2 := Lib.hid (own_smps O2.out)
    by_cases hbig : 300 < z0.length
    · go_wp2_with (go_at_call 15; refine (spec_gt z0 HW.out _ _ _ I2.out hbig hn).mono ?_; rintro e u3 ⟨rfl, hb3⟩; have B3 := Lib.hid (B2.out.trans (hb3.mono B2.out.size)); have S3 := Lib.hid (S2.out.kept hb3); clear hb3)
      go_wp2_with (go_at_call 16; refine (to_samples z0 _ _ _ S3.out hn).mono ?_; rintro e u4 ⟨g4, rfl, ho4, hb4⟩; have O4 := Lib.hid ho4; have B4 := Lib.hid (B3.out.trans (hb4.mono B3.out.size)); have S4 := Lib.hid (S3.out.kept hb4); have L4 := Lib.hid (Nat.le_trans B3.out.size ho4.new.1); clear ho4 hb4)
      have I4 := Lib.hid (own_smps O4.out)
      go_wp2_with (go_at_call 17; refine (impl_gt z0 _ _ _ _ I4.out hbig hn).mono ?_; rintro e u5 ⟨rfl, hb5⟩; have B5 := Lib.hid (B4.out.trans (hb5.mono B4.out.size)); have S5 := Lib.hid (S4.out.kept hb5); have O5 := Lib.hid (O4.out.kept hb5); clear hb5)
      go_wp2_with (go_at_call 18; refine (eq_n [] 0 rfl _ _ _ _ _ (.inl rfl) (.inl rfl) (by omega)).mono ?_; rintro e u6 ⟨rfl, hb6⟩; have B6 := Lib.hid (B5.out.trans (hb6.mono B5.out.size)); have S6 := Lib.hid (S5.out.kept hb6); have O6 := Lib.hid (O5.out.kept hb6); clear hb6)
      go_wp2_with (go_at_call 16; refine (to_samples z0 _ _ _ S6.out hn).mono ?_; rintro e u7 ⟨g7, rfl, ho7, hb7⟩; have I7 := Lib.hid (own_smps ho7); have B7 := Lib.hid (B6.out.trans (hb7.mono B6.out.size)); have S7 := Lib.hid (S6.out.kept hb7); have O7 := Lib.hid (O6.out.kept hb7); clear ho7 hb7)
      have J7 := Lib.hid (own_smps O7.out)
      go_wp2_with (go_at_call 18; refine (eq_n z0 _ rfl _ _ _ _ _ J7.out I7.out hn).mono ?_; rintro e u8 ⟨rfl, hb8⟩; have B8 := Lib.hid (B7.out.trans (hb8.mono B7.out.size)); have S8 := Lib.hid (S7.out.kept hb8); have O8 := Lib.hid (O7.out.kept hb8); clear hb8)
      go_wp2_with (go_at_call 19; refine (mark_n _ _ _ z0 rfl hn _ (own_cells O8.out rfl)).mono ?_; rintro e u9 ⟨rfl, hc9, ho9⟩; have B9 := Lib.hid (B8.out.trans (ho9.below L4.out B8.out.size)); clear hc9 ho9)
      have S9 := Lib.hid (HS.out.kept B9.out)
      go_wp2_with (go_at_call 18; refine (eq_n [] 0 rfl _ _ _ _ _ (.inl rfl) (.inl rfl) (by omega)).mono ?_; rintro e v1 ⟨rfl, hb⟩; have B10 := Lib.hid (B9.out.trans (hb.mono B9.out.size)); clear hb)
      go_wp2_with (go_at_call 19; refine (mark_zero _ _ _ _).mono ?_; rintro e v2 ⟨rfl, rfl⟩)
      go_wp2_with (go_at_call 20; refine (held_zero _ _ _ _).mono ?_; rintro e v3 ⟨rfl, rfl⟩)
      have S10 := Lib.hid (HS.out.kept B10.out)
      go_wp2_with (go_at_call 16; refine (to_samples z0 _ _ _ S10.out hn).mono ?_; rintro e v4 ⟨g8, rfl, ho, hb⟩; have I11 := Lib.hid (own_smps ho); have B11 := Lib.hid (B10.out.trans (hb.mono B10.out.size)); clear ho hb)
      go_wp2_with (go_at_call 17; refine (impl_gt z0 _ _ _ _ I11.out hbig hn).mono ?_; rintro e v5 ⟨rfl, hb⟩; have B12 := Lib.hid (B11.out.trans (hb.mono B11.out.size)); clear hb)
      go_wp2_with (go_at_call 18; refine (eq_n [] 0 rfl _ _ _ _ _ (.inl rfl) (.inl rfl) (by omega)).mono ?_; rintro e v6 ⟨rfl, hb⟩; have B13 := Lib.hid (B12.out.trans (hb.mono B12.out.size)); clear hb)
      go_wp2_with (go_at_call 20; refine (held_zero _ _ _ _).mono ?_; rintro e v7 ⟨rfl, rfl⟩)
      go_ret
      exact ⟨rfl, B13.out⟩
    · have hle : z0.length ≤ 300 := by omega
      go_wp2_with (go_at_call 15; refine (spec_le z0 HW.out _ _ _ I2.out hle).mono ?_; rintro e u3 ⟨a3, c3, rfl, hs3, hd3, hb3⟩; have W3 := Lib.hid hs3; have D3 := Lib.hid hd3; have B3 := Lib.hid (B2.out.trans (hb3.mono B2.out.size)); have S3 := Lib.hid (S2.out.kept hb3); clear hs3 hd3 hb3)
      go_wp2_with (go_at_call 16; refine (to_samples z0 _ _ _ S3.out hn).mono ?_; rintro e u4 ⟨g4, rfl, ho4, hb4⟩; have O4 := Lib.hid ho4; have B4 := Lib.hid (B3.out.trans (hb4.mono B3.out.size)); have S4 := Lib.hid (S3.out.kept hb4); have W4 := Lib.hid (W3.out.kept hb4); have L4 := Lib.hid ho4.new.1; clear ho4 hb4)
      have I4 := Lib.hid (own_smps O4.out)
      go_wp2_with (go_at_call 17; refine (impl_le z0 _ _ _ _ I4.out hle).mono ?_; rintro e u5 ⟨g5, c5, rfl, hs5, hc5, hb5⟩; have X5 := Lib.hid hs5; have C5 := Lib.hid hc5; have B5 := Lib.hid (B4.out.trans (hb5.mono B4.out.size)); have S5 := Lib.hid (S4.out.kept hb5); have W5 := Lib.hid (W4.out.kept hb5); have O5 := Lib.hid (O4.out.kept hb5); have L5 := Lib.hid O4.out.new.2; clear hs5 hc5 hb5)
      go_wp2_with (go_at_call 18; refine (eq_n (sortS z0) _ (sortS_len z0).symm _ _ _ _ _ X5.out W5.out hn).mono ?_; rintro e u6 ⟨rfl, hb6⟩; have X6 := Lib.hid (X5.out.kept hb6); have B6 := Lib.hid (B5.out.trans (hb6.mono B5.out.size)); have S6 := Lib.hid (S5.out.kept hb6); have W6 := Lib.hid (W5.out.kept hb6); have O6 := Lib.hid (O5.out.kept hb6); have C6 : Hid (z0 = [] ∨ u4.heap.size ≤ g5 ∧ CellsW u6 g5 (flat (sortS z0))) := C5.out.imp id (fun h => ⟨h.1, h.2.kept hb6⟩); clear hb6)
      go_wp2_with (go_at_call 16; refine (to_samples z0 _ _ _ S6.out hn).mono ?_; rintro e u7 ⟨g7, rfl, ho7, hb7⟩; have I7 := Lib.hid (own_smps ho7); have X7 := Lib.hid (X6.out.kept hb7); have B7 := Lib.hid (B6.out.trans (hb7.mono B6.out.size)); have S7 := Lib.hid (S6.out.kept hb7); have W7 := Lib.hid (W6.out.kept hb7); have O7 := Lib.hid (O6.out.kept hb7); have C7 : Hid (z0 = [] ∨ u4.heap.size ≤ g5 ∧ CellsW u7 g5 (flat (sortS z0))) := C6.out.imp id (fun h => ⟨h.1, h.2.kept hb7⟩); clear ho7 hb7)
      have J7 := Lib.hid (own_smps O7.out)
      go_wp2_with (go_at_call 18; refine (eq_n z0 _ rfl _ _ _ _ _ J7.out I7.out hn).mono ?_; rintro e u8 ⟨rfl, hb8⟩; have X8 := Lib.hid (X7.out.kept hb8); have B8 := Lib.hid (B7.out.trans (hb8.mono B7.out.size)); have W8 := Lib.hid (W7.out.kept hb8); have O8 := Lib.hid (O7.out.kept hb8); have C8 : Hid (z0 = [] ∨ u4.heap.size ≤ g5 ∧ CellsW u8 g5 (flat (sortS z0))) := C7.out.imp id (fun h => ⟨h.1, h.2.kept hb8⟩); clear hb8)
      by_cases hz : z0 = []
      · subst hz
        go_wp2_with (go_at_call 19; refine (mark_zero _ _ _ _).mono ?_; rintro e v0 ⟨rfl, rfl⟩)
        go_wp2_with (go_at_call 18; refine (eq_n [] 0 rfl _ _ _ _ _ (.inl rfl) (.inl rfl) (by omega)).mono ?_; rintro e v1 ⟨rfl, hb⟩; have B10 := Lib.hid (B8.out.trans (hb.mono B8.out.size)); clear hb)
        go_wp2_with (go_at_call 19; refine (mark_zero _ _ _ _).mono ?_; rintro e v2 ⟨rfl, rfl⟩)
        go_wp2_with (go_at_call 20; refine (held_zero _ _ _ _).mono ?_; rintro e v3 ⟨rfl, rfl⟩)
        have S10 := Lib.hid (HS.out.kept B10.out)
        go_wp2_with (go_at_call 16; refine (to_samples [] _ _ _ S10.out hn).mono ?_; rintro e v4 ⟨g8, rfl, ho, hb⟩; have I11 := Lib.hid (own_smps ho); have B11 := Lib.hid (B10.out.trans (hb.mono B10.out.size)); clear ho hb)
        go_wp2_with (go_at_call 17; refine (impl_le [] _ _ _ _ I11.out hle).mono ?_; rintro e v5 ⟨g9, c9, rfl, _, _, hb⟩; have B12 := Lib.hid (B11.out.trans (hb.mono B11.out.size)); clear hb)
        go_wp2_with (go_at_call 18; refine (eq_n [] 0 rfl _ _ _ _ _ (.inl rfl) (.inl rfl) (by omega)).mono ?_; rintro e v6 ⟨rfl, hb⟩; have B13 := Lib.hid (B12.out.trans (hb.mono B12.out.size)); clear hb)
        go_wp2_with (go_at_call 20; refine (held_zero _ _ _ _).mono ?_; rintro e v7 ⟨rfl, rfl⟩)
        go_ret
        exact ⟨rfl, B13.out⟩
      · have hsz : ¬ sortS z0 = [] := fun h => hz (List.length_eq_zero_iff.1 (by rw [← sortS_len, h]; rfl))
        obtain ⟨hg5, hc8⟩ : u4.heap.size ≤ g5 ∧ Hid (CellsW u8 g5 (flat (sortS z0))) := by
          rcases C8.out with h | h
          · exact absurd h hz
          · exact h
        obtain ⟨g3, rfl, hg3a, hg3b⟩ : ∃ g, a3 = some ⟨g, 0, none⟩ ∧ u2.heap.size ≤ g ∧ g < u3.heap.size := by
          rcases D3.out with h | h
          · exact absurd h hsz
          · exact h
        have hl4 := L4.out
        have hl5 := L5.out
        have hne5 : g5 ≠ g4 := by omega
        have hne3 : g3 ≠ g4 := by omega
        have hne35 : g3 ≠ g5 := by omega
        have hb25 : w.heap.size ≤ g5 := by have := B4.out.size; omega
        have NE5 := Lib.hid hne5
        have NE3 := Lib.hid hne3
        have NE35 := Lib.hid hne35
        have HB5 := Lib.hid hb25
        have LW4 := Lib.hid (Nat.le_trans B3.out.size hl4)
        clear hne5 hne3 hne35 hb25 hsz hz hg5 hg3a hg3b hl4 hl5
        go_wp2_with (go_at_call 19; refine (mark_n _ _ _ z0 rfl hn _ (own_cells O8.out rfl)).mono ?_; rintro e u9 ⟨rfl, hc9, ho9⟩; have X9 := Lib.hid (smps_only X8.out ho9 NE5.out); have W9 := Lib.hid (smps_only W8.out ho9 NE3.out); have C9 := Lib.hid (cells_only hc8.out ho9 NE5.out); have B9 := Lib.hid (B8.out.trans (ho9.below LW4.out B8.out.size)); clear hc9 ho9 hc8)
        go_wp2_with (go_at_call 18; refine (eq_n (sortS z0) _ (sortS_len z0).symm _ _ _ _ _ X9.out W9.out hn).mono ?_; rintro e v1 ⟨rfl, hb⟩; have W10 := Lib.hid (W9.out.kept hb); have C10 := Lib.hid (C9.out.kept hb); have B10 := Lib.hid (B9.out.trans (hb.mono B9.out.size)); clear hb)
        go_wp2_with (go_at_call 19; refine (mark_n _ _ _ (sortS z0) (sortS_len z0).symm hn _ C10.out).mono ?_; rintro e v2 ⟨rfl, hc, ho⟩; have C11 := Lib.hid hc; have W11 := Lib.hid (smps_only W10.out ho NE35.out); have B11 := Lib.hid (B10.out.trans (ho.below HB5.out B10.out.size)); clear hc ho)
        go_wp2_with (go_at_call 20; refine (held_n _ _ _ hn _ C11.out).mono ?_; rintro e v3 ⟨rfl, hb⟩; have C12 := Lib.hid (C11.out.kept hb); have W12 := Lib.hid (W11.out.kept hb); have B12 := Lib.hid (B11.out.trans (hb.mono B11.out.size)); clear hb)
        have S12 := Lib.hid (HS.out.kept B12.out)
        go_wp2_with (go_at_call 16; refine (to_samples z0 _ _ _ S12.out hn).mono ?_; rintro e v4 ⟨g8, rfl, ho, hb⟩; have I13 := Lib.hid (own_smps ho); have C13 := Lib.hid (C12.out.kept hb); have W13 := Lib.hid (W12.out.kept hb); have B13 := Lib.hid (B12.out.trans (hb.mono B12.out.size)); clear ho hb)
        go_wp2_with (go_at_call 17; refine (impl_le z0 _ _ _ _ I13.out hle).mono ?_; rintro e v5 ⟨g9, c9, rfl, hs, _, hb⟩; have X14 := Lib.hid hs; have C14 := Lib.hid (C13.out.kept hb); have W14 := Lib.hid (W13.out.kept hb); have B14 := Lib.hid (B13.out.trans (hb.mono B13.out.size)); clear hs hb)
        go_wp2_with (go_at_call 18; refine (eq_n (sortS z0) _ (sortS_len z0).symm _ _ _ _ _ X14.out W14.out hn).mono ?_; rintro e v6 ⟨rfl, hb⟩; have C15 := Lib.hid (C14.out.kept hb); have B15 := Lib.hid (B14.out.trans (hb.mono B14.out.size)); clear hb)
        go_wp2_with (go_at_call 20; refine (held_n _ _ _ hn _ C15.out).mono ?_; rintro e v7 ⟨rfl, hb⟩; have B16 := Lib.hid (B15.out.trans (hb.mono B15.out.size)); clear hb)
        go_ret
        exact ⟨rfl, B16.out⟩

set_option maxRecDepth 100000 in
theorem lifted (os : Os) (started : os.Started) (H : Type) (enc : TypeId × Value → H) :
    ReturnsInHanded {} Try.checked os 5 .any (Rows.fnExactSortSamplesSpec.pre6 enc Try.prog Try.f5 Rows.fnExactSortSamplesRow.domain false) (Rows.fnExactSortSamplesSpec.post enc Try.prog Try.f5 false true false false) := by
  refine returnsInHanded_of_change (C := Try.checked) own started (by kernel_rfl) Try.func5
    (ChangeSpec.witness6 (enc := enc) (C := Try.checked) false ⟨#[], #[.slice none 0 0], []⟩ 8 (by kernel_rfl) (by kernel_rfl) (by kernel_rfl) (by kernel_rfl)) ?_
  intro W base args ds gs before hval0 hW hcnd _
  have hval : ∀ (j : Nat) t v, Try.f5.params[j]? = some t → args[j]? = some v → Value.okWide Try.prog W .any base t v := hval0
  clear hval0
  have hW' := hW
  obtain ⟨p, q, hA0, hV, rfl, hfz, hnd⟩ := hW
  have hA : DataW.TrodAll enc Try.prog W 0 (fun _ => true) true Try.f5.params.toList args.toList ds p := hA0
  rw [Try.params5] at hA hval
  obtain ⟨v0, vs0, d0, ds0, p0, q0, hargs, rfl, rfl, h0, r0⟩ := trodAll_cons hA
  obtain ⟨rfl, rfl, rfl⟩ := trodAll_nil r0
  obtain rfl : args = #[v0] := by cases args; simp_all
  obtain ⟨rfl, rfl⟩ := trodVars_none hV
  have k0 := h0
  have lt0 : ∀ x ∈ p0, x.block < W.heap.size := by obtain ⟨m, hm⟩ := k0; exact DataW.trod_lt m _ _ _ hm
  obtain ⟨a0, len0, cap0, rfl⟩ := okWide_slice Try.underlying30 (hval 0 30 v0 rfl rfl)
  obtain ⟨z0, w0⟩ : ∃ zs, IsSmps W a0 len0 cap0 zs := by
    obtain ⟨fuel, hf⟩ := h0
    exact open_smps Try.underlying30 Try.underlying24 (by kernel_rfl) (by kernel_rfl) ⟨rfl, rfl, rfl, rfl⟩ Try.underlying9 Try.underlying3 hf
  clear hA0
  refine (walk a0 len0 cap0 z0 W w0).mono fun e W' ⟨he, bel⟩ => ?_
  subst he
  exact ⟨_, rfl, _, _, _, [], _, [], hW', trodAll_mk1 (shut_bool Try.underlying4 _), (trodAll_cons_mk (Below.trod laidOut (by kernel_rfl) (of_decide_eq_true (by kernel_rfl)) k0 bel lt0) trodAll_mk0), rfl, bel.frame _, fun h => by cases h⟩

theorem over : Rows.fnExactSortSamplesRow.holds Try.pinned (OpenSpec.ofChange Rows.fnExactSortSamplesSpec) :=
  OpenClaim.holds_of_wide 5 Try.f5 rfl rfl rfl rfl rfl rfl rfl ⟨rfl, rfl, rfl, rfl, rfl⟩ rfl rfl rfl rfl rfl (by kernel_rfl) Try.func5 (by kernel_rfl)
    (of_decide_eq_true (by kernel_rfl)) (by unfold Func.isWrapper; first | (rw [if_pos (by decide +kernel)]; kernel_rfl) | (rw [if_neg (by decide +kernel)]; exact ⟨rfl, rfl⟩))
    (fun os started H enc _ => lifted os started H enc)

/-- THE STATEMENT. -/
theorem proved : Rows.FnExactSortSamplesSaid := over
end Go.Proofs.Ytahhemgmlmhbjaa.fnExactSortSamples
