/- For every input that can be read, the Go function laws.FnExactForgetBefore returns true and leaves its arguments as they read: the statement Rows.FnExactForgetBeforeSaid, without a condition of ours. -/
import Derived.Test.YtgbkmnhdgaeejaaRows
import Derived.WalkKit
import Derived.ProofKit
import Derived.OpenShut
import Derived.ShutString
import Derived.ChangeOld
import Derived.Below
import Derived.Test.YtgbkmnhdgaeejaaC1
import Derived.Test.YtgbkmnhdgaeejaaC2
import Derived.Test.YtgbkmnhdgaeejaaSmps
import Derived.Test.YtgbkmnhdgaeejaaMem
import Derived.Test.YtgbkmnhdgaeejaaSer
import Derived.Test.YtgbkmnhdgaeejaaSer2
import Derived.Test.YtgbkmnhdgaeejaaKey
import Derived.Test.YtgbkmnhdgaeejaaSto
import Derived.Test.YtgbkmnhdgaeejaaStoL
import Derived.Test.YtgbkmnhdgaeejaaCnt
import Derived.Test.YtgbkmnhdgaeejaaRing
import Derived.Test.YtgbkmnhdgaeejaaFind
import Derived.Test.YtgbkmnhdgaeejaaSof
import Derived.Test.YtgbkmnhdgaeejaaLat
import Derived.Test.YtgbkmnhdgaeejaaAvg
import Derived.Test.YtgbkmnhdgaeejaaFrom
import Derived.Test.YtgbkmnhdgaeejaaMarkS
import Derived.Test.YtgbkmnhdgaeejaaSofL
import Derived.Test.YtgbkmnhdgaeejaaMarkT
import Derived.Test.YtgbkmnhdgaeejaaHeld
import Derived.Test.YtgbkmnhdgaeejaaCopyI
import Derived.Test.YtgbkmnhdgaeejaaCopyS
import Derived.Test.YtgbkmnhdgaeejaaFgt
import Derived.Test.YtgbkmnhdgaeejaaFgtI
import Derived.Test.YtgbkmnhdgaeejaaFgtS
import Derived.Test.YtgbkmnhdgaeejaaFgtL
namespace Go.Proofs.Ytgbkmnhdgaeejaa.fnExactForgetBefore
open Go.ChangeShapes Go.WideShapes Go.ChangeAt Go.RowKit
open Go.ChangeMaps (open_string shut_string)
open Go.Proofs.Ytgbkmnhdgaeejaa.C1
open Go.Proofs.Ytgbkmnhdgaeejaa.C2
open Go.Proofs.Ytgbkmnhdgaeejaa.Smps
open Go.Proofs.Ytgbkmnhdgaeejaa.Mem
open Go.Proofs.Ytgbkmnhdgaeejaa.Ser
open Go.Proofs.Ytgbkmnhdgaeejaa.Ser2
open Go.Proofs.Ytgbkmnhdgaeejaa.Key
open Go.Proofs.Ytgbkmnhdgaeejaa.Sto
open Go.Proofs.Ytgbkmnhdgaeejaa.StoL
open Go.Proofs.Ytgbkmnhdgaeejaa.Cnt
open Go.Proofs.Ytgbkmnhdgaeejaa.Ring
open Go.Proofs.Ytgbkmnhdgaeejaa.Find
open Go.Proofs.Ytgbkmnhdgaeejaa.Sof
open Go.Proofs.Ytgbkmnhdgaeejaa.Lat
open Go.Proofs.Ytgbkmnhdgaeejaa.Avg
open Go.Proofs.Ytgbkmnhdgaeejaa.From
open Go.Proofs.Ytgbkmnhdgaeejaa.MarkS
open Go.Proofs.Ytgbkmnhdgaeejaa.SofL
open Go.Proofs.Ytgbkmnhdgaeejaa.MarkT
open Go.Proofs.Ytgbkmnhdgaeejaa.Held
open Go.Proofs.Ytgbkmnhdgaeejaa.CopyI
open Go.Proofs.Ytgbkmnhdgaeejaa.CopyS
open Go.Proofs.Ytgbkmnhdgaeejaa.Fgt
open Go.Proofs.Ytgbkmnhdgaeejaa.FgtI
open Go.Proofs.Ytgbkmnhdgaeejaa.FgtS
open Go.Proofs.Ytgbkmnhdgaeejaa.FgtL
set_option linter.unusedVariables false

theorem own : ownKnob Try.prog.godebug = none := by kernel_rfl
theorem laidOut : laidOutB Try.prog = true := by kernel_rfl
set_option maxHeartbeats 4000000 in
set_option maxRecDepth 100000 in
theorem walk (a0 : Option Addr) (len0 cap0 : Nat) (z0 : List Sv) (a1 : Int) (w : World) (w0 : IsSrs w a0 len0 cap0 z0) (w1 : (Lit.int .i64 a1).wf = true)  :
    Calls Try.prog 9 #[.slice a0 len0 cap0, .int .i64 a1] w fun e w' => e = .returned (.bool true) ∧ Below w.heap.size w w' := by
  obtain ⟨hl, hcap, hmax, hwf, hS⟩ := w0
  subst hl
  have hml : z0.length ≤ 9223372036854775807 := by unfold maxLen at hmax; omega
  have HW := Lib.hid hwf
  have HS := Lib.hid hS
  clear hwf hS
  obtain ⟨bb, hbb⟩ : ∃ bb, storeV (z0.map Sv.s) = bb := ⟨_, rfl⟩
  have HBB := Lib.hid hbb
  have hbn : (bb != bb) = false := by cases bb <;> rfl
  clear hbb
  go_enter Try.func9, Try.ntmps9
  go_wp2_with fail
  refine (sz_total z0 HW.out _ _ hml _ HS.out).mono ?_
  rintro e u1 ⟨r, rfl, hb1, hr⟩
  have HB1 := Lib.hid hb1
  clear hb1
  rcases hr with hr | ⟨hr, hr2, hn, hp, hrem⟩
  · go_wp2
    go_ret
    exact ⟨rfl, HB1.out⟩
  · have HP := Lib.hid hp
    have HREM := Lib.hid hrem
    clear hp hrem
    go_wp2_with fail
    refine (to_series z0 _ _ _ (HS.out.kept HB1.out) hn HP.out).mono ?_
    rintro e u2 ⟨g2, m2, rfl, hm2, ho2, hg2, hb⟩
    have HM2 := Lib.hid hm2
    have HI2 := Lib.hid (srs_of ho2 hg2)
    have HB2 := Lib.hid (HB1.out.trans (hb.mono HB1.out.size))
    clear ho2 hg2 hb hm2
    go_wp2_with fail
    refine (spec_forget2 z0 m2 HM2.out _ _ a1 _ HW.out HP.out HI2.out hn bb HBB.out).mono ?_
    rintro e u3 ⟨⟨aw, cw, ns, rfl, hns, how⟩, hb⟩
    have HNS := Lib.hid hns
    have hfair := fair_of hns
    have hnl : ns.length ≤ 1048576 := Nat.le_trans hfair.most hn
    have HNP := Lib.hid (hfair.pts HP.out)
    have hnr : rem ns 0 ≤ 4194304 := Nat.le_trans hfair.rem HREM.out
    have HB3 := Lib.hid (HB2.out.trans (hb.mono HB2.out.size))
    have HPW := Lib.hid (Has.srs how)
    obtain ⟨q, hq⟩ : ∃ q : Nat, 1 + rem ns 0 = q := ⟨_, rfl⟩
    have hqb : q ≤ 100000000 := by omega
    have HQ := Lib.hid hq
    clear hb how hns hfair hnr hq
    go_wp2_with fail
    refine (to_series z0 _ _ _ (HS.out.kept HB3.out) hn HP.out).mono ?_
    rintro e u4 ⟨g4, m4, rfl, hm4, ho4, hg4, hb⟩
    have HM4 := Lib.hid hm4
    have HO4 := Lib.hid ho4
    have HG4 := Lib.hid hg4
    have HB4 := Lib.hid (HB3.out.trans (hb.mono HB3.out.size))
    have HD4 := Lib.hid hb
    have HC4 : Hid (g4 < u4.heap.size ∧ ∀ l ∈ m4, ∀ b o s, l.a = some ⟨b, o, s⟩ → b < u4.heap.size) := ⟨ho4.lt.2, fun l hl b o s e => by have := hg4.own l hl; rw [e] at this; exact this.lt.2⟩
    clear ho4 hg4 hb hm4
    go_wp2_with fail
    refine (impl_forget2 z0 m4 ns HM4.out a1 HNS.out _ _ _ _ HW.out HP.out HO4.out HG4.out hn bb HBB.out).mono ?_
    rintro e u5 ⟨⟨ag, cg, mg, rfl, hmg, hog⟩, hb⟩
    have HMG := Lib.hid hmg
    have HB5 := Lib.hid (HB4.out.trans (hb.mono HB4.out.size))
    have HD5 := Lib.hid (HD4.out.trans (hb.mono HD4.out.size))
    have HE5 := Lib.hid hb
    have HGG5 := Lib.hid hog
    have HO5 := Lib.hid (HO4.out.kept hb)
    have HG5 := Lib.hid (HG4.out.kept hb)
    clear hb hog hmg
    go_wp2_with fail
    refine (eq_series2 ns mg ns HMG.out rfl ag aw _ _ _ (Has.srs HGG5.out) (HPW.out.kept HD5.out) hnl HNP.out).mono ?_
    rintro e u6 ⟨rfl, hb⟩
    have HB6 := Lib.hid (HB5.out.trans (hb.mono HB5.out.size))
    have HD6 := Lib.hid (HD5.out.trans (hb.mono HD5.out.size))
    have HE6 := Lib.hid (HE5.out.trans (hb.mono HE5.out.size))
    have HGG6 := Lib.hid (HGG5.out.kept hb)
    have HO6 := Lib.hid (HO5.out.kept hb)
    have HG6 := Lib.hid (HG5.out.kept hb)
    clear hb
    go_wp2_with fail
    refine (to_series z0 _ _ _ (HS.out.kept HB6.out) hn HP.out).mono ?_
    rintro e u7 ⟨g7, m7, rfl, hm7, ho7, hg7, hb⟩
    have HM7 := Lib.hid hm7
    have HI7 := Lib.hid (srs_of ho7 hg7)
    have HB7 := Lib.hid (HB6.out.trans (hb.mono HB6.out.size))
    have HD7 := Lib.hid (HD6.out.trans (hb.mono HD6.out.size))
    have HE7 := Lib.hid (HE6.out.trans (hb.mono HE6.out.size))
    have HGG7 := Lib.hid (HGG6.out.kept hb)
    have HO7 := Lib.hid (HO6.out.kept hb)
    have HG7 := Lib.hid (HG6.out.kept hb)
    clear ho7 hg7 hb hm7
    go_wp2_with fail
    refine (eq_series2 z0 m4 m7 HM4.out HM7.out _ _ _ _ _ (srs_of HO7.out HG7.out) HI7.out hn HP.out).mono ?_
    rintro e u8 ⟨rfl, hb⟩
    have HB8 := Lib.hid (HB7.out.trans (hb.mono HB7.out.size))
    have HD8 := Lib.hid (HD7.out.trans (hb.mono HD7.out.size))
    have HE8 := Lib.hid (HE7.out.trans (hb.mono HE7.out.size))
    have HGG8 := Lib.hid (HGG7.out.kept hb)
    have HO8 := Lib.hid (HO7.out.kept hb)
    have HG8 := Lib.hid (HG7.out.kept hb)
    clear hb
    go_wp2_with fail
    refine (mark_series2 z0 m4 HM4.out g4 u3.heap.size u4.heap.size HREM.out hn _ HO8.out HG8.out HC4.out.1 HC4.out.2 HD8.out.size).mono ?_
    rintro e u9 ⟨mk, rfl, hwi⟩
    have hmk0 : decide ((mk : Int) < 0) = false := decide_eq_false (by omega)
    have HB9 := Lib.hid (hwi.below HB8.out HB3.out.size HB8.out.size)
    have HD9 := Lib.hid (hwi.below HD8.out (Nat.le_refl _) HD8.out.size)
    have HGG9 := Lib.hid (Has.within HGG8.out hwi)
    have HZ9 : Hid (u4.heap.size ≤ u9.heap.size) := Nat.le_trans HE8.out.size hwi.size
    clear hwi
    go_wp2_with fail
    refine (eq_series2 ns mg ns HMG.out rfl ag aw _ _ _ (Has.srs HGG9.out) (HPW.out.kept HD9.out) hnl HNP.out).mono ?_
    rintro e u10 ⟨rfl, hb⟩
    have HB10 := Lib.hid (HB9.out.trans (hb.mono HB9.out.size))
    have HD10 := Lib.hid (HD9.out.trans (hb.mono HD9.out.size))
    have HGG10 := Lib.hid (HGG9.out.kept hb)
    have HZ10 : Hid (u4.heap.size ≤ u10.heap.size) := Nat.le_trans HZ9.out hb.size
    clear hb
    go_wp2_with fail
    refine (mark_has ns mg HMG.out ag cg u4.heap.size q HQ.out hqb hnl _ HZ10.out HGG10.out).mono ?_
    rintro e u11 ⟨rfl, ho, ha⟩
    have HB11 := Lib.hid (ha.below HB10.out HB4.out.size HB10.out.size)
    have HD11 := Lib.hid (ha.below HD10.out HD4.out.size HD10.out.size)
    have HGG11 := Lib.hid ho
    clear ho ha
    go_wp2_with fail
    refine (held_has ns mg HMG.out ag cg u4.heap.size q HQ.out hqb hnl _ HGG11.out).mono ?_
    rintro e u12 ⟨rfl, hb⟩
    have HB12 := Lib.hid (HB11.out.trans (hb.mono HB11.out.size))
    have HD12 := Lib.hid (HD11.out.trans (hb.mono HD11.out.size))
    have HGG12 := Lib.hid (HGG11.out.kept hb)
    clear hb
    have hq0 : decide ((q : Int) < 0) = false := decide_eq_false (by omega)
    have hqn : ((q : Int) != (q : Int)) = false := by simp
    go_wp2_with fail
    refine (to_series z0 _ _ _ (HS.out.kept HB12.out) hn HP.out).mono ?_
    rintro e u13 ⟨g13, m13, rfl, hm13, ho13, hg13, hb⟩
    have HM13 := Lib.hid hm13
    have HO13 := Lib.hid ho13
    have HG13 := Lib.hid hg13
    have HB13 := Lib.hid (HB12.out.trans (hb.mono HB12.out.size))
    have HD13 := Lib.hid (HD12.out.trans (hb.mono HD12.out.size))
    have HGG13 := Lib.hid (HGG12.out.kept hb)
    clear ho13 hg13 hb hm13
    go_wp2_with fail
    refine (impl_forget2 z0 m13 ns HM13.out a1 HNS.out _ _ _ _ HW.out HP.out HO13.out HG13.out hn bb HBB.out).mono ?_
    rintro e u14 ⟨⟨ah, ch, mh, rfl, hmh, hoh⟩, hb⟩
    have HMH := Lib.hid hmh
    have HB14 := Lib.hid (HB13.out.trans (hb.mono HB13.out.size))
    have HD14 := Lib.hid (HD13.out.trans (hb.mono HD13.out.size))
    have HGG14 := Lib.hid (HGG13.out.kept hb)
    have HH14 := Lib.hid (Has.srs hoh)
    clear hb hoh hmh
    go_wp2_with fail
    refine (eq_series2 ns mh ns HMH.out rfl ah aw _ _ _ HH14.out (HPW.out.kept HD14.out) hnl HNP.out).mono ?_
    rintro e u15 ⟨rfl, hb⟩
    have HB15 := Lib.hid (HB14.out.trans (hb.mono HB14.out.size))
    have HGG15 := Lib.hid (HGG14.out.kept hb)
    clear hb
    go_wp2_with fail
    refine (held_has ns mg HMG.out ag cg u4.heap.size q HQ.out hqb hnl _ HGG15.out).mono ?_
    rintro e u16 ⟨rfl, hb⟩
    have HB16 := Lib.hid (HB15.out.trans (hb.mono HB15.out.size))
    clear hb
    go_wp2
    go_ret
    exact ⟨rfl, HB16.out⟩

set_option maxRecDepth 100000 in
theorem lifted (os : Os) (started : os.Started) (H : Type) (enc : TypeId × Value → H) :
    ReturnsInHanded {} Try.checked os 9 .any (Rows.fnExactForgetBeforeSpec.pre6 enc Try.prog Try.f9 Rows.fnExactForgetBeforeRow.domain false) (Rows.fnExactForgetBeforeSpec.post enc Try.prog Try.f9 false true false false) := by
  refine returnsInHanded_of_change (C := Try.checked) own started (by kernel_rfl) Try.func9
    (ChangeSpec.witness6 (enc := enc) (C := Try.checked) false ⟨#[], #[.slice none 0 0, .int .i64 0], []⟩ 8 (by kernel_rfl) (by kernel_rfl) (by kernel_rfl) (by kernel_rfl)) ?_
  intro W base args ds gs before hval0 hW hcnd _
  have hval : ∀ (j : Nat) t v, Try.f9.params[j]? = some t → args[j]? = some v → Value.okWide Try.prog W .any base t v := hval0
  clear hval0
  have hW' := hW
  obtain ⟨p, q, hA0, hV, rfl, hfz, hnd⟩ := hW
  have hA : DataW.TrodAll enc Try.prog W 0 (fun _ => true) true Try.f9.params.toList args.toList ds p := hA0
  rw [Try.params9] at hA hval
  obtain ⟨v0, vs0, d0, ds0, p0, q0, hargs, rfl, rfl, h0, r0⟩ := trodAll_cons hA
  obtain ⟨v1, vs1, d1, ds1, p1, q1, rfl, rfl, rfl, h1, r1⟩ := trodAll_cons r0
  obtain ⟨rfl, rfl, rfl⟩ := trodAll_nil r1
  obtain rfl : args = #[v0, v1] := by cases args; simp_all
  obtain ⟨rfl, rfl⟩ := trodVars_none hV
  have k0 := h0
  have lt0 : ∀ x ∈ p0, x.block < W.heap.size := by obtain ⟨m, hm⟩ := k0; exact DataW.trod_lt m _ _ _ hm
  have k1 := h1
  have lt1 : ∀ x ∈ p1, x.block < W.heap.size := by obtain ⟨m, hm⟩ := k1; exact DataW.trod_lt m _ _ _ hm
  obtain ⟨a0, len0, cap0, rfl⟩ := okWide_slice Try.underlying22 (hval 0 22 v0 rfl rfl)
  obtain ⟨z0, w0⟩ : ∃ zs, IsSrs W a0 len0 cap0 zs := by
    obtain ⟨fuel, hf⟩ := h0
    exact open_srs Try.underlying22 Try.underlying77 (by kernel_rfl) (by kernel_rfl) ⟨rfl, rfl, rfl⟩ Try.underlying9 Try.underlying75 Try.underlying113 (by kernel_rfl) (by kernel_rfl) ⟨rfl, rfl⟩ Try.underlying3 hf
  obtain ⟨a1, rfl, rfl, rfl, w1⟩ := open_int Try.underlying3 (hval 1 3 v1 rfl rfl) h1
  clear hA0
  refine (walk a0 len0 cap0 z0 a1 W w0 w1).mono fun e W' ⟨he, bel⟩ => ?_
  subst he
  exact ⟨_, rfl, _, _, _, [], _, [], hW', trodAll_mk1 (shut_bool Try.underlying4 _), (trodAll_cons_mk (Below.trod laidOut (by kernel_rfl) (of_decide_eq_true (by kernel_rfl)) k0 bel lt0) (trodAll_cons_mk (shut_int Try.underlying3 w1) trodAll_mk0)), rfl, bel.frame _, fun h => by cases h⟩

theorem over : Rows.fnExactForgetBeforeRow.holds Try.pinned (OpenSpec.ofChange Rows.fnExactForgetBeforeSpec) :=
  OpenClaim.holds_of_wide 9 Try.f9 rfl rfl rfl rfl rfl rfl rfl ⟨rfl, rfl, rfl, rfl, rfl⟩ rfl rfl rfl rfl rfl (by kernel_rfl) Try.func9 (by kernel_rfl)
    (of_decide_eq_true (by kernel_rfl)) (by unfold Func.isWrapper; first | (rw [if_pos (by decide +kernel)]; kernel_rfl) | (rw [if_neg (by decide +kernel)]; exact ⟨rfl, rfl⟩))
    (fun os started H enc _ => lifted os started H enc)

/-- THE STATEMENT. -/
theorem proved : Rows.FnExactForgetBeforeSaid := over
end Go.Proofs.Ytgbkmnhdgaeejaa.fnExactForgetBefore
