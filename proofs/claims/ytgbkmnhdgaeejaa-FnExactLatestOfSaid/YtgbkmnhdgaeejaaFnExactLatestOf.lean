/- For every input that can be read, the Go function laws.FnExactLatestOf returns true and leaves its arguments as they read: the statement Rows.FnExactLatestOfSaid, without a condition of ours. -/
import Derived.Test.YtgbkmnhdgaeejaaRows
import Derived.WalkKit
import Derived.ProofKit
import Derived.OpenShut
import Derived.ShutString
import Derived.ChangeOld
import Derived.Below
import Derived.Test.YtgbkmnhdgaeejaaC1
import Derived.Test.YtgbkmnhdgaeejaaC2
import Derived.Test.YtgbkmnhdgaeejaaSmps
import Derived.Test.YtgbkmnhdgaeejaaMem
import Derived.Test.YtgbkmnhdgaeejaaSer
import Derived.Test.YtgbkmnhdgaeejaaSer2
import Derived.Test.YtgbkmnhdgaeejaaKey
import Derived.Test.YtgbkmnhdgaeejaaSto
import Derived.Test.YtgbkmnhdgaeejaaStoL
import Derived.Test.YtgbkmnhdgaeejaaCnt
import Derived.Test.YtgbkmnhdgaeejaaRing
import Derived.Test.YtgbkmnhdgaeejaaFind
import Derived.Test.YtgbkmnhdgaeejaaSof
import Derived.Test.YtgbkmnhdgaeejaaLat
namespace Go.Proofs.Ytgbkmnhdgaeejaa.fnExactLatestOf
open Go.ChangeShapes Go.WideShapes Go.ChangeAt Go.RowKit
open Go.ChangeMaps (open_string shut_string)
open Go.Proofs.Ytgbkmnhdgaeejaa.C1
open Go.Proofs.Ytgbkmnhdgaeejaa.C2
open Go.Proofs.Ytgbkmnhdgaeejaa.Smps
open Go.Proofs.Ytgbkmnhdgaeejaa.Mem
open Go.Proofs.Ytgbkmnhdgaeejaa.Ser
open Go.Proofs.Ytgbkmnhdgaeejaa.Ser2
open Go.Proofs.Ytgbkmnhdgaeejaa.Key
open Go.Proofs.Ytgbkmnhdgaeejaa.Sto
open Go.Proofs.Ytgbkmnhdgaeejaa.StoL
open Go.Proofs.Ytgbkmnhdgaeejaa.Cnt
open Go.Proofs.Ytgbkmnhdgaeejaa.Ring
open Go.Proofs.Ytgbkmnhdgaeejaa.Find
open Go.Proofs.Ytgbkmnhdgaeejaa.Sof
open Go.Proofs.Ytgbkmnhdgaeejaa.Lat
set_option linter.unusedVariables false

theorem own : ownKnob Try.prog.godebug = none := by kernel_rfl
theorem laidOut : laidOutB Try.prog = true := by kernel_rfl
set_option maxHeartbeats 4000000 in
set_option maxRecDepth 100000 in
theorem walk (a0 : Option Addr) (len0 cap0 : Nat) (z0 : List Sv) (s1 : ByteArray) (s2 : ByteArray) (w : World) (w0 : IsSrs w a0 len0 cap0 z0) (w1 : s1.size ≤ maxLen) (w2 : s2.size ≤ maxLen)  :
    Calls Try.prog 7 #[.slice a0 len0 cap0, .string s1, .string s2] w fun e w' => e = .returned (.bool true) ∧ Below w.heap.size w w' := by
  obtain ⟨hl, hcap, hmax, hwf, hS⟩ := w0
  subst hl
  have hml : z0.length ≤ 9223372036854775807 := by unfold maxLen at hmax; omega
  have HW := Lib.hid hwf
  have HS := Lib.hid hS
  clear hwf hS
  by_cases hb1 : 1048576 < s1.size
  · go_enter Try.func7, Try.ntmps7
    go_wp2
    go_ret
    exact ⟨rfl, Below.refl _ _⟩
  · by_cases hb2 : 1048576 < s2.size
    · go_enter Try.func7, Try.ntmps7
      go_wp2
      go_ret
      exact ⟨rfl, Below.refl _ _⟩
    · obtain ⟨x, hx⟩ : ∃ x, lastV (z0.map Sv.s) s1 s2 = x := ⟨_, rfl⟩
      obtain ⟨bb, hbb⟩ : ∃ bb, lastB (z0.map Sv.s) s1 s2 = bb := ⟨_, rfl⟩
      have HX := Lib.hid hx
      have HBB := Lib.hid hbb
      clear hx hbb
      go_enter Try.func7, Try.ntmps7
      go_wp2_with fail
      refine (sz_series z0 HW.out _ _ hml _ HS.out).mono ?_
      rintro e u1 ⟨r, rfl, hb1, hr⟩
      have HB1 := Lib.hid hb1
      clear hb1
      rcases hr with hr | ⟨hr, hr2, hn, hsz⟩
      · go_wp2
        go_ret
        exact ⟨rfl, HB1.out⟩
      · have HS1 := Lib.hid (HS.out.kept HB1.out)
        have HP := Lib.hid (sum_pts hsz)
        clear hsz
        go_wp2_with fail
        refine (to_series z0 _ _ _ HS1.out hn HP.out).mono ?_
        rintro e u2 ⟨g2, m2, rfl, hm2, ho2, hg2, hb2⟩
        have HM2 := Lib.hid hm2
        have HI2 := Lib.hid (srs_of ho2 hg2)
        have HB2 := Lib.hid (HB1.out.trans (hb2.mono HB1.out.size))
        have HS2 := Lib.hid (HS1.out.kept hb2)
        have hc2 := spec_latest m2 _ z0.length s1 s2 u2 (map_all hm2 HW.out) (map_all (P := fun s => s.pts.length ≤ 1048576) hm2 HP.out) (srs_of ho2 hg2) (by rw [map_len hm2]; exact hn)
        rw [map_len hm2, hm2, HX.out, HBB.out] at hc2
        unfold ptV at hc2
        clear ho2 hg2 hb2 hm2
        go_wp2_with fail
        refine hc2.mono ?_
        rintro e u3 ⟨rfl, hb3⟩
        have HB3 := Lib.hid (HB2.out.trans (hb3.mono HB2.out.size))
        have HS3 := Lib.hid (HS2.out.kept hb3)
        clear hb3 hc2
        have hbx3 := box_below u3 #[.int .i64 x.tick, .int .i64 x.val] 57
        have HB3b := Lib.hid (HB3.out.trans (hbx3.mono HB3.out.size))
        have HS3b := Lib.hid (HS3.out.kept hbx3)
        have HK3 := Lib.hid (cells_new u3 #[.int .i64 x.tick, .int .i64 x.val] 57)
        clear hbx3
        go_wp2_with fail
        refine (to_series z0 _ _ _ HS3b.out hn HP.out).mono ?_
        rintro e u4 ⟨g4, m4, rfl, hm4, ho4, hg4, hb4⟩
        have HM4 := Lib.hid hm4
        have HI4 := Lib.hid (srs_of ho4 hg4)
        have HB4 := Lib.hid (HB3b.out.trans (hb4.mono HB3b.out.size))
        have HS4 := Lib.hid (HS3b.out.kept hb4)
        have HK4 := Lib.hid (HK3.out.kept hb4)
        have hc4 := impl_latest m4 _ z0.length s1 s2 u4 (map_all hm4 HW.out) (map_all (P := fun s => s.pts.length ≤ 1048576) hm4 HP.out) (srs_of ho4 hg4) (by rw [map_len hm4]; exact hn)
        rw [map_len hm4, hm4, HX.out, HBB.out] at hc4
        unfold ptV at hc4
        clear ho4 hg4 hb4 hm4
        go_wp2_with fail
        refine hc4.mono ?_
        rintro e u5 ⟨rfl, hb5⟩
        have HB5 := Lib.hid (HB4.out.trans (hb5.mono HB4.out.size))
        have HS5 := Lib.hid (HS4.out.kept hb5)
        have HK5 := Lib.hid (HK4.out.kept hb5)
        have HI5 := Lib.hid (HI4.out.kept hb5)
        clear hb5 hc4
        have hbx5 := box_below u5 #[.int .i64 x.tick, .int .i64 x.val] 57
        have HB5b := Lib.hid (HB5.out.trans (hbx5.mono HB5.out.size))
        have HS5b := Lib.hid (HS5.out.kept hbx5)
        have HI5b := Lib.hid (HI5.out.kept hbx5)
        have hk := HK5.out.kept hbx5
        obtain ⟨c0, -⟩ := cellsW_get hk (j := 0) rfl
        obtain ⟨c1, -⟩ := cellsW_get hk (j := 1) rfl
        clear hbx5 hk
        have heq := fun w => eq_point x w
        unfold ptV at heq
        have HEQ := Lib.hid heq
        clear heq
        go_wp2_with fail
        refine (HEQ.out _).mono ?_
        rintro e u6 ⟨rfl, hb6⟩
        have HB6 := Lib.hid (HB5b.out.trans (hb6.mono HB5b.out.size))
        have HS6 := Lib.hid (HS5b.out.kept hb6)
        have HI6 := Lib.hid (HI5b.out.kept hb6)
        clear hb6 c0 c1
        have hbn : (bb != bb) = false := by cases bb <;> rfl
        go_wp2_with fail
        refine (to_series z0 _ _ _ HS6.out hn HP.out).mono ?_
        rintro e u7 ⟨g7, m7, rfl, hm7, ho7, hg7, hb7⟩
        have HM7 := Lib.hid hm7
        have HJ7 := Lib.hid (srs_of ho7 hg7)
        have HB7 := Lib.hid (HB6.out.trans (hb7.mono HB6.out.size))
        have HI7 := Lib.hid (HI6.out.kept hb7)
        clear ho7 hg7 hb7 hm7
        go_wp2_with fail
        refine (eq_series2 z0 m4 m7 HM4.out HM7.out _ _ _ _ _ HI7.out HJ7.out hn HP.out).mono ?_
        rintro e u8 ⟨rfl, hb8⟩
        have HB8 := Lib.hid (HB7.out.trans (hb8.mono HB7.out.size))
        clear hb8
        go_wp2
        go_ret
        exact ⟨rfl, HB8.out⟩

set_option maxRecDepth 100000 in
theorem lifted (os : Os) (started : os.Started) (H : Type) (enc : TypeId × Value → H) :
    ReturnsInHanded {} Try.checked os 7 .any (Rows.fnExactLatestOfSpec.pre6 enc Try.prog Try.f7 Rows.fnExactLatestOfRow.domain false) (Rows.fnExactLatestOfSpec.post enc Try.prog Try.f7 false true false false) := by
  refine returnsInHanded_of_change (C := Try.checked) own started (by kernel_rfl) Try.func7
    (ChangeSpec.witness6 (enc := enc) (C := Try.checked) false ⟨#[], #[.slice none 0 0, .string ⟨#[]⟩, .string ⟨#[]⟩], []⟩ 8 (by kernel_rfl) (by kernel_rfl) (by kernel_rfl) (by kernel_rfl)) ?_
  intro W base args ds gs before hval0 hW hcnd _
  have hval : ∀ (j : Nat) t v, Try.f7.params[j]? = some t → args[j]? = some v → Value.okWide Try.prog W .any base t v := hval0
  clear hval0
  have hW' := hW
  obtain ⟨p, q, hA0, hV, rfl, hfz, hnd⟩ := hW
  have hA : DataW.TrodAll enc Try.prog W 0 (fun _ => true) true Try.f7.params.toList args.toList ds p := hA0
  rw [Try.params7] at hA hval
  obtain ⟨v0, vs0, d0, ds0, p0, q0, hargs, rfl, rfl, h0, r0⟩ := trodAll_cons hA
  obtain ⟨v1, vs1, d1, ds1, p1, q1, rfl, rfl, rfl, h1, r1⟩ := trodAll_cons r0
  obtain ⟨v2, vs2, d2, ds2, p2, q2, rfl, rfl, rfl, h2, r2⟩ := trodAll_cons r1
  obtain ⟨rfl, rfl, rfl⟩ := trodAll_nil r2
  obtain rfl : args = #[v0, v1, v2] := by cases args; simp_all
  obtain ⟨rfl, rfl⟩ := trodVars_none hV
  have k0 := h0
  have lt0 : ∀ x ∈ p0, x.block < W.heap.size := by obtain ⟨m, hm⟩ := k0; exact DataW.trod_lt m _ _ _ hm
  have k1 := h1
  have lt1 : ∀ x ∈ p1, x.block < W.heap.size := by obtain ⟨m, hm⟩ := k1; exact DataW.trod_lt m _ _ _ hm
  have k2 := h2
  have lt2 : ∀ x ∈ p2, x.block < W.heap.size := by obtain ⟨m, hm⟩ := k2; exact DataW.trod_lt m _ _ _ hm
  obtain ⟨a0, len0, cap0, rfl⟩ := okWide_slice Try.underlying22 (hval 0 22 v0 rfl rfl)
  obtain ⟨z0, w0⟩ : ∃ zs, IsSrs W a0 len0 cap0 zs := by
    obtain ⟨fuel, hf⟩ := h0
    exact open_srs Try.underlying22 Try.underlying77 (by kernel_rfl) (by kernel_rfl) ⟨rfl, rfl, rfl⟩ Try.underlying9 Try.underlying75 Try.underlying113 (by kernel_rfl) (by kernel_rfl) ⟨rfl, rfl⟩ Try.underlying3 hf
  obtain ⟨s1, rfl, rfl, rfl, w1⟩ := open_string Try.underlying9 (hval 1 9 v1 rfl rfl) h1
  obtain ⟨s2, rfl, rfl, rfl, w2⟩ := open_string Try.underlying9 (hval 2 9 v2 rfl rfl) h2
  clear hA0
  refine (walk a0 len0 cap0 z0 s1 s2 W w0 w1 w2).mono fun e W' ⟨he, bel⟩ => ?_
  subst he
  exact ⟨_, rfl, _, _, _, [], _, [], hW', trodAll_mk1 (shut_bool Try.underlying4 _), (trodAll_cons_mk (Below.trod laidOut (by kernel_rfl) (of_decide_eq_true (by kernel_rfl)) k0 bel lt0) (trodAll_cons_mk (shut_string Try.underlying9 w1) (trodAll_cons_mk (shut_string Try.underlying9 w2) trodAll_mk0))), rfl, bel.frame _, fun h => by cases h⟩

theorem over : Rows.fnExactLatestOfRow.holds Try.pinned (OpenSpec.ofChange Rows.fnExactLatestOfSpec) :=
  OpenClaim.holds_of_wide 7 Try.f7 rfl rfl rfl rfl rfl rfl rfl ⟨rfl, rfl, rfl, rfl, rfl⟩ rfl rfl rfl rfl rfl (by kernel_rfl) Try.func7 (by kernel_rfl)
    (of_decide_eq_true (by kernel_rfl)) (by unfold Func.isWrapper; first | (rw [if_pos (by decide +kernel)]; kernel_rfl) | (rw [if_neg (by decide +kernel)]; exact ⟨rfl, rfl⟩))
    (fun os started H enc _ => lifted os started H enc)

/-- THE STATEMENT. -/
theorem proved : Rows.FnExactLatestOfSaid := over
end Go.Proofs.Ytgbkmnhdgaeejaa.fnExactLatestOf
