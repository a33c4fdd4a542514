/- For every input that can be read, the Go function laws.FnExactClassOf returns true and leaves its arguments as they read: the statement Rows.FnExactClassOfSaid, without a condition of ours. -/
import Derived.Test.YtihhbgihejjmeaaRows
import Derived.WalkKit
import Derived.ProofKit
import Derived.OpenShut
import Derived.ShutString
import Derived.ChangeOld
import Derived.Below
import Derived.Lib.SmallJoins
import Derived.Test.YtihhbgihejjmeaaC1
import Derived.Test.YtihhbgihejjmeaaC2
import Derived.Test.YtihhbgihejjmeaaSmps
import Derived.Test.YtihhbgihejjmeaaMem
import Derived.Test.YtihhbgihejjmeaaSer
import Derived.Test.YtihhbgihejjmeaaSer2
import Derived.Test.YtihhbgihejjmeaaKey
import Derived.Test.YtihhbgihejjmeaaSto
import Derived.Test.YtihhbgihejjmeaaStoL
import Derived.Test.YtihhbgihejjmeaaLat
import Derived.Test.YtihhbgihejjmeaaPd
import Derived.Test.YtihhbgihejjmeaaCls
import Derived.Test.YtihhbgihejjmeaaClsI
import Derived.Test.YtihhbgihejjmeaaSzL
namespace Go.Proofs.Ytihhbgihejjmeaa.fnExactClassOf
open Go.ChangeShapes Go.WideShapes Go.ChangeAt Go.RowKit Go.Joins
open Go.ChangeMaps (open_string shut_string)
open Go.Proofs.Ytihhbgihejjmeaa.C1
open Go.Proofs.Ytihhbgihejjmeaa.C2
open Go.Proofs.Ytihhbgihejjmeaa.Smps
open Go.Proofs.Ytihhbgihejjmeaa.Mem
open Go.Proofs.Ytihhbgihejjmeaa.Ser
open Go.Proofs.Ytihhbgihejjmeaa.Ser2
open Go.Proofs.Ytihhbgihejjmeaa.Key
open Go.Proofs.Ytihhbgihejjmeaa.Sto
open Go.Proofs.Ytihhbgihejjmeaa.StoL
open Go.Proofs.Ytihhbgihejjmeaa.Lat
open Go.Proofs.Ytihhbgihejjmeaa.Pd
open Go.Proofs.Ytihhbgihejjmeaa.Cls
open Go.Proofs.Ytihhbgihejjmeaa.ClsI
open Go.Proofs.Ytihhbgihejjmeaa.SzL
set_option linter.unusedVariables false

theorem own : ownKnob Try.prog.godebug = none := by kernel_rfl
theorem laidOut : laidOutB Try.prog = true := by kernel_rfl
set_option maxHeartbeats 4000000 in
set_option maxRecDepth 100000 in
theorem walk (x0 : Pd) (a1 : Option Addr) (len1 cap1 : Nat) (z1 : List Sv) (s2 : ByteArray) (a3 : Int) (x4 : Rl) (w : World) (w0 : x0.wf) (w1 : IsSrs w a1 len1 cap1 z1) (w2 : s2.size ≤ maxLen) (w3 : (Lit.int .i64 a3).wf = true) (w4 : x4.wf)  :
    Calls Try.prog 8 #[podV x0, .slice a1 len1 cap1, .string s2, .int .i64 a3, rlV x4] w fun e w' => e = .returned (.bool true) ∧ Below w.heap.size w w' := by
  obtain ⟨hl, hcap, hmax, hwf, hS⟩ := w1
  subst hl
  have hml : z1.length ≤ 9223372036854775807 := by unfold maxLen at hmax; omega
  have HW := Lib.hid hwf
  have HS := Lib.hid hS
  have HWP := Lib.hid w0
  clear hwf hS
  obtain ⟨hnm, -, -⟩ := w0
  unfold maxLen at hnm
  obtain ⟨c, hc⟩ : ∃ c, classV x0 (z1.map Sv.s) s2 a3 x4 = c := ⟨_, rfl⟩
  have HCV := Lib.hid hc
  clear hc
  have hcn : (c != c) = false := by simp
  by_cases hb1 : 1048576 < s2.size
  · go_enter Try.func8, Try.ntmps8
    go_wp2
    go_ret
    exact ⟨rfl, box2_below _ _ _⟩
  · unfold podV rlV
    obtain ⟨hA, hB⟩ := box2_cells w #[.string x0.nm, .int .i64 x0.born, .int .i64 x0.ph, .bool x0.rdy] #[.int .i64 x4.dl, .int .i64 x4.fr, .int .i64 x4.wi] 49 63
    have HA := Lib.hid hA
    have HB := Lib.hid hB
    have H0 := Lib.hid (box2_below w (.cells #[.string x0.nm, .int .i64 x0.born, .int .i64 x0.ph, .bool x0.rdy] 49) (.cells #[.int .i64 x4.dl, .int .i64 x4.fr, .int .i64 x4.wi] 63))
    clear hA hB
    go_enter Try.func8, Try.ntmps8
    go_wp2_with fail
    refine (sz_pod x0 HWP.out 1048576 (by omega) (by omega) _).mono ?_
    by_cases hbig : (1048576 : Int) < x0.nm.size
    · rw [if_pos hbig]
      rintro e u1 ⟨rfl, hb⟩
      have HB1 := Lib.hid (H0.out.trans (hb.mono H0.out.size))
      clear hb
      go_wp2
      go_ret
      exact ⟨rfl, HB1.out⟩
    · obtain ⟨L, hL, hL0, hL1⟩ : ∃ L : Int, L = 1048576 - x0.nm.size ∧ 0 ≤ L ∧ L ≤ 1048576 := ⟨_, rfl, by omega, by omega⟩
      rw [if_neg hbig, ← hL]
      rintro e u1 ⟨rfl, hb⟩
      have HB1 := Lib.hid (H0.out.trans (hb.mono H0.out.size))
      have HA1 := Lib.hid (HA.out.kept hb)
      have HR1 := Lib.hid (HB.out.kept hb)
      have HS1 := Lib.hid (HS.out.kept HB1.out)
      clear hb hL HA HB
      go_wp2_with fail
      refine (sz_seriesL L hL0 hL1 z1 HW.out _ _ hml _ HS1.out).mono ?_
      rintro e u2 ⟨r, rfl, hb, hr⟩
      have HB2 := Lib.hid (HB1.out.trans (hb.mono HB1.out.size))
      have HA2 := Lib.hid (HA1.out.kept hb)
      have HR2 := Lib.hid (HR1.out.kept hb)
      have HS2 := Lib.hid (HS1.out.kept hb)
      clear hb HA1 HR1
      rcases hr with hr | ⟨hr, hr2, hn, hsz⟩
      · go_wp2
        go_ret
        exact ⟨rfl, HB2.out⟩
      · have HP := Lib.hid (sum_pts hsz)
        clear hsz
        have HT : Hid (∀ W, Hid (Below u2.heap.size u2 W) → (W.cell? ⟨w.heap.size, 0, none⟩ = some (.string x0.nm) ∧ W.cell? ⟨w.heap.size, 1, none⟩ = some (.int .i64 x0.born) ∧ W.cell? ⟨w.heap.size, 2, none⟩ = some (.int .i64 x0.ph) ∧ W.cell? ⟨w.heap.size, 3, none⟩ = some (.bool x0.rdy) ∧ W.cell? ⟨w.heap.size + 1, 0, none⟩ = some (.int .i64 x4.dl) ∧ W.cell? ⟨w.heap.size + 1, 1, none⟩ = some (.int .i64 x4.fr) ∧ W.cell? ⟨w.heap.size + 1, 2, none⟩ = some (.int .i64 x4.wi))) := fun W hW => by
          obtain ⟨p0, p1, p2, p3⟩ := cells4 (HA2.out.kept hW.out)
          obtain ⟨r0, r1, r2⟩ := cells3 (HR2.out.kept hW.out)
          exact ⟨p0, p1, p2, p3, r0, r1, r2⟩
        have HBD : Hid (Below u2.heap.size u2 u2.drew) := (Below.refl _ _).drew
        go_wp2_with fail
        go_region_held3 (fun w' => w'.cell? ⟨w.heap.size, 0, none⟩ = some (.string x0.nm) ∧ w'.cell? ⟨w.heap.size, 1, none⟩ = some (.int .i64 x0.born) ∧ w'.cell? ⟨w.heap.size, 2, none⟩ = some (.int .i64 x0.ph) ∧ w'.cell? ⟨w.heap.size, 3, none⟩ = some (.bool x0.rdy) ∧ w'.cell? ⟨w.heap.size + 1, 0, none⟩ = some (.int .i64 x4.dl) ∧ w'.cell? ⟨w.heap.size + 1, 1, none⟩ = some (.int .i64 x4.fr) ∧ w'.cell? ⟨w.heap.size + 1, 2, none⟩ = some (.int .i64 x4.wi))
          (first | exact HT.out _ HV4 | exact HT.out _ HV3 | exact HT.out _ HV2 | exact HT.out _ HV1 | exact HT.out _ HBD)
          (first
            | (go_at_call 30; refine (to_pod x0 _).mono ?_; rintro e v1 ⟨rfl, hb⟩; have HV1 := Lib.hid (HBD.out.trans (hb.mono HBD.out.size)); clear hb)
            | (go_at_call 13; refine (to_series z1 _ _ _ (HS2.out.kept HV1.out) hn HP.out).mono ?_; rintro e v2 ⟨g2, m2, rfl, hm2, ho2, hg2, hb⟩; have HM2 := Lib.hid hm2; have HI2 := Lib.hid (srs_of ho2 hg2); have HV2 := Lib.hid (HV1.out.trans (hb.mono HV1.out.size)); clear ho2 hg2 hb hm2)
            | (go_at_call 38; refine (to_rules x4 _).mono ?_; rintro e v3 ⟨rfl, hb⟩; have HI3 := Lib.hid (HI2.out.kept hb); have HV3 := Lib.hid (HV2.out.trans (hb.mono HV2.out.size)); clear hb)
            | (go_at_call 40; refine (spec_class2 z1 m2 HM2.out x0 HWP.out _ _ _ _ _ _ HW.out HP.out HI3.out hn HCV.out).mono ?_; rintro e v4 ⟨rfl, hb⟩; have HV4 := Lib.hid (HV3.out.trans (hb.mono HV3.out.size)); clear hb))
        have HS4 := Lib.hid (HS2.out.kept HV4.out)
        clear HI2 HI3 HM2 HV1 HV2 HV3
        go_wp2_with fail
        refine (to_series z1 _ _ _ HS4.out hn HP.out).mono ?_
        rintro e v5 ⟨g5, m5, rfl, hm5, ho5, hg5, hb⟩
        have HM5 := Lib.hid hm5
        have HI5 := Lib.hid (srs_of ho5 hg5)
        have HV5 := Lib.hid (HV4.out.trans (hb.mono HV4.out.size))
        have HS5 := Lib.hid (HS4.out.kept hb)
        have HBE : Hid (Below v5.heap.size v5 v5.drew) := (Below.refl _ _).drew
        have HVE : Hid (Below u2.heap.size u2 v5.drew) := HV5.out.trans (HBE.out.mono HV5.out.size)
        clear ho5 hg5 hb hm5
        go_wp2_with fail
        go_region_held3 (fun w' => w'.cell? ⟨w.heap.size, 0, none⟩ = some (.string x0.nm) ∧ w'.cell? ⟨w.heap.size, 1, none⟩ = some (.int .i64 x0.born) ∧ w'.cell? ⟨w.heap.size, 2, none⟩ = some (.int .i64 x0.ph) ∧ w'.cell? ⟨w.heap.size, 3, none⟩ = some (.bool x0.rdy) ∧ w'.cell? ⟨w.heap.size + 1, 0, none⟩ = some (.int .i64 x4.dl) ∧ w'.cell? ⟨w.heap.size + 1, 1, none⟩ = some (.int .i64 x4.fr) ∧ w'.cell? ⟨w.heap.size + 1, 2, none⟩ = some (.int .i64 x4.wi))
          (first | exact HT.out _ HV8 | exact HT.out _ HV7 | exact HT.out _ HV6 | exact HT.out _ HVE)
          (first
            | (go_at_call 30; refine (to_pod x0 _).mono ?_; rintro e v6 ⟨rfl, hb⟩; have HI6 := Lib.hid ((HI5.out.kept HBE.out).kept hb); have HS6 := Lib.hid ((HS5.out.kept HBE.out).kept hb); have HV6 := Lib.hid (HVE.out.trans (hb.mono HVE.out.size)); clear hb)
            | (go_at_call 38; refine (to_rules x4 _).mono ?_; rintro e v7 ⟨rfl, hb⟩; have HI7 := Lib.hid (HI6.out.kept hb); have HS7 := Lib.hid (HS6.out.kept hb); have HV7 := Lib.hid (HV6.out.trans (hb.mono HV6.out.size)); clear hb)
            | (go_at_call 41; refine (impl_class2 z1 m5 HM5.out x0 HWP.out _ _ _ _ _ _ HW.out HP.out HI7.out hn HCV.out).mono ?_; rintro e v8 ⟨rfl, hb⟩; have HI8 := Lib.hid (HI7.out.kept hb); have HS8 := Lib.hid (HS7.out.kept hb); have HV8 := Lib.hid (HV7.out.trans (hb.mono HV7.out.size)); clear hb))
        clear HI5 HI6 HI7 HS5 HS6 HS7 HV5 HV6 HV7 HBE HVE
        go_wp2_with fail
        refine (to_series z1 _ _ _ HS8.out hn HP.out).mono ?_
        rintro e v9 ⟨g9, m9, rfl, hm9, ho9, hg9, hb⟩
        have HM9 := Lib.hid hm9
        have HJ9 := Lib.hid (srs_of ho9 hg9)
        have HI9 := Lib.hid (HI8.out.kept hb)
        have HV9 := Lib.hid (HV8.out.trans (hb.mono HV8.out.size))
        clear ho9 hg9 hb hm9
        go_wp2_with fail
        refine (eq_series2 z1 m5 m9 HM5.out HM9.out _ _ _ _ _ HI9.out HJ9.out hn HP.out).mono ?_
        rintro e v10 ⟨rfl, hb⟩
        have HV10 := Lib.hid (HV9.out.trans (hb.mono HV9.out.size))
        have HBX := Lib.hid (HB2.out.trans (HV10.out.mono HB2.out.size))
        clear hb
        go_wp2
        go_ret
        exact ⟨rfl, HBX.out⟩

set_option maxRecDepth 100000 in
theorem lifted (os : Os) (started : os.Started) (H : Type) (enc : TypeId × Value → H) :
    ReturnsInHanded {} Try.checked os 8 .any (Rows.fnExactClassOfSpec.pre6 enc Try.prog Try.f8 Rows.fnExactClassOfRow.domain false) (Rows.fnExactClassOfSpec.post enc Try.prog Try.f8 false true false false) := by
  refine returnsInHanded_of_change (C := Try.checked) own started (by kernel_rfl) Try.func8
    (ChangeSpec.witness6 (enc := enc) (C := Try.checked) false ⟨#[], #[.agg #[.string ⟨#[]⟩, .int .i64 0, .int .i64 0, .bool false], .slice none 0 0, .string ⟨#[]⟩, .int .i64 0, .agg #[.int .i64 0, .int .i64 0, .int .i64 0]], []⟩ 8 (by kernel_rfl) (by kernel_rfl) (by kernel_rfl) (by kernel_rfl)) ?_
  intro W base args ds gs before hval0 hW hcnd _
  have hval : ∀ (j : Nat) t v, Try.f8.params[j]? = some t → args[j]? = some v → Value.okWide Try.prog W .any base t v := hval0
  clear hval0
  have hW' := hW
  obtain ⟨p, q, hA0, hV, rfl, hfz, hnd⟩ := hW
  have hA : DataW.TrodAll enc Try.prog W 0 (fun _ => true) true Try.f8.params.toList args.toList ds p := hA0
  rw [Try.params8] at hA hval
  obtain ⟨v0, vs0, d0, ds0, p0, q0, hargs, rfl, rfl, h0, r0⟩ := trodAll_cons hA
  obtain ⟨v1, vs1, d1, ds1, p1, q1, rfl, rfl, rfl, h1, r1⟩ := trodAll_cons r0
  obtain ⟨v2, vs2, d2, ds2, p2, q2, rfl, rfl, rfl, h2, r2⟩ := trodAll_cons r1
  obtain ⟨v3, vs3, d3, ds3, p3, q3, rfl, rfl, rfl, h3, r3⟩ := trodAll_cons r2
  obtain ⟨v4, vs4, d4, ds4, p4, q4, rfl, rfl, rfl, h4, r4⟩ := trodAll_cons r3
  obtain ⟨rfl, rfl, rfl⟩ := trodAll_nil r4
  obtain rfl : args = #[v0, v1, v2, v3, v4] := by cases args; simp_all
  obtain ⟨rfl, rfl⟩ := trodVars_none hV
  have k0 := h0
  have lt0 : ∀ x ∈ p0, x.block < W.heap.size := by obtain ⟨m, hm⟩ := k0; exact DataW.trod_lt m _ _ _ hm
  have k1 := h1
  have lt1 : ∀ x ∈ p1, x.block < W.heap.size := by obtain ⟨m, hm⟩ := k1; exact DataW.trod_lt m _ _ _ hm
  have k2 := h2
  have lt2 : ∀ x ∈ p2, x.block < W.heap.size := by obtain ⟨m, hm⟩ := k2; exact DataW.trod_lt m _ _ _ hm
  have k3 := h3
  have lt3 : ∀ x ∈ p3, x.block < W.heap.size := by obtain ⟨m, hm⟩ := k3; exact DataW.trod_lt m _ _ _ hm
  have k4 := h4
  have lt4 : ∀ x ∈ p4, x.block < W.heap.size := by obtain ⟨m, hm⟩ := k4; exact DataW.trod_lt m _ _ _ hm
  obtain ⟨c0_0, c1_0, c2_0, c3_0, y0_0, y1_0, y2_0, y3_0, m_0, rfl, rfl, rfl, g0_0, g1_0, g2_0, g3_0⟩ := open_agg4 Try.underlying49 (by kernel_rfl) (by kernel_rfl) (hval 0 49 v0 rfl rfl) h0
  obtain ⟨p0, e0_0, rfl, u0_0⟩ := DataW.trod_string Try.underlying9 g0_0
  obtain ⟨q0, e1_0, rfl, u1_0⟩ := DataW.trod_int Try.underlying3 g1_0
  obtain ⟨v0, e2_0, rfl, u2_0⟩ := DataW.trod_int Try.underlying3 g2_0
  obtain ⟨t0, e3_0, rfl⟩ := DataW.trod_bool Try.underlying4 g3_0
  simp at e0_0 e1_0 e2_0 e3_0
  subst e0_0 e1_0 e2_0 e3_0
  have w0 : Pd.wf ⟨p0, q0, v0, t0⟩ := ⟨u0_0, bounds_i64 u1_0, bounds_i64 u2_0⟩
  obtain ⟨a1, len1, cap1, rfl⟩ := okWide_slice Try.underlying22 (hval 1 22 v1 rfl rfl)
  obtain ⟨z1, w1⟩ : ∃ zs, IsSrs W a1 len1 cap1 zs := by
    obtain ⟨fuel, hf⟩ := h1
    exact open_srs Try.underlying22 Try.underlying75 (by kernel_rfl) (by kernel_rfl) ⟨rfl, rfl, rfl⟩ Try.underlying9 Try.underlying73 Try.underlying134 (by kernel_rfl) (by kernel_rfl) ⟨rfl, rfl⟩ Try.underlying3 hf
  obtain ⟨s2, rfl, rfl, rfl, w2⟩ := open_string Try.underlying9 (hval 2 9 v2 rfl rfl) h2
  obtain ⟨a3, rfl, rfl, rfl, w3⟩ := open_int Try.underlying3 (hval 3 3 v3 rfl rfl) h3
  obtain ⟨c0_4, c1_4, c2_4, y0_4, y1_4, y2_4, m_4, rfl, rfl, rfl, g0_4, g1_4, g2_4⟩ := open_agg3 Try.underlying63 (by kernel_rfl) (by kernel_rfl) (hval 4 63 v4 rfl rfl) h4
  obtain ⟨p4, e0_4, rfl, u0_4⟩ := DataW.trod_int Try.underlying3 g0_4
  obtain ⟨q4, e1_4, rfl, u1_4⟩ := DataW.trod_int Try.underlying3 g1_4
  obtain ⟨v4, e2_4, rfl, u2_4⟩ := DataW.trod_int Try.underlying3 g2_4
  simp at e0_4 e1_4 e2_4
  subst e0_4 e1_4 e2_4
  have w4 : Rl.wf ⟨p4, q4, v4⟩ := ⟨bounds_i64 u0_4, bounds_i64 u1_4, bounds_i64 u2_4⟩
  clear hA0
  refine (walk ⟨p0, q0, v0, t0⟩ a1 len1 cap1 z1 s2 a3 ⟨p4, q4, v4⟩ W w0 w1 w2 w3 w4).mono fun e W' ⟨he, bel⟩ => ?_
  subst he
  exact ⟨_, rfl, _, _, _, [], _, [], hW', trodAll_mk1 (shut_bool Try.underlying4 _), (trodAll_cons_mk (Below.trod laidOut (by kernel_rfl) (of_decide_eq_true (by kernel_rfl)) k0 bel lt0) (trodAll_cons_mk (Below.trod laidOut (by kernel_rfl) (of_decide_eq_true (by kernel_rfl)) k1 bel lt1) (trodAll_cons_mk (shut_string Try.underlying9 w2) (trodAll_cons_mk (shut_int Try.underlying3 w3) (trodAll_cons_mk (Below.trod laidOut (by kernel_rfl) (of_decide_eq_true (by kernel_rfl)) k4 bel lt4) trodAll_mk0))))), rfl, bel.frame _, fun h => by cases h⟩

theorem over : Rows.fnExactClassOfRow.holds Try.pinned (OpenSpec.ofChange Rows.fnExactClassOfSpec) :=
  OpenClaim.holds_of_wide 8 Try.f8 rfl rfl rfl rfl rfl rfl rfl ⟨rfl, rfl, rfl, rfl, rfl⟩ rfl rfl rfl rfl rfl (by kernel_rfl) Try.func8 (by kernel_rfl)
    (of_decide_eq_true (by kernel_rfl)) (by unfold Func.isWrapper; first | (rw [if_pos (by decide +kernel)]; kernel_rfl) | (rw [if_neg (by decide +kernel)]; exact ⟨rfl, rfl⟩))
    (fun os started H enc _ => lifted os started H enc)

/-- THE STATEMENT. -/
theorem proved : Rows.FnExactClassOfSaid := over
end Go.Proofs.Ytihhbgihejjmeaa.fnExactClassOf
