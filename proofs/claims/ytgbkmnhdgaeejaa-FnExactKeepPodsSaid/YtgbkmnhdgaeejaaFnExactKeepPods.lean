/- For every input that can be read, the Go function laws.FnExactKeepPods returns true and leaves its arguments as they read: the statement Rows.FnExactKeepPodsSaid, without a condition of ours. -/
import Derived.Test.YtgbkmnhdgaeejaaRows
import Derived.WalkKit
import Derived.ProofKit
import Derived.OpenShut
import Derived.ShutString
import Derived.ChangeOld
import Derived.Below
import Derived.Test.YtgbkmnhdgaeejaaC1
import Derived.Test.YtgbkmnhdgaeejaaC2
import Derived.Test.YtgbkmnhdgaeejaaSmps
import Derived.Test.YtgbkmnhdgaeejaaMem
import Derived.Test.YtgbkmnhdgaeejaaSer
import Derived.Test.YtgbkmnhdgaeejaaSer2
import Derived.Test.YtgbkmnhdgaeejaaKey
import Derived.Test.YtgbkmnhdgaeejaaSto
import Derived.Test.YtgbkmnhdgaeejaaStoL
import Derived.Test.YtgbkmnhdgaeejaaCnt
import Derived.Test.YtgbkmnhdgaeejaaRing
import Derived.Test.YtgbkmnhdgaeejaaFind
import Derived.Test.YtgbkmnhdgaeejaaSof
import Derived.Test.YtgbkmnhdgaeejaaLat
import Derived.Test.YtgbkmnhdgaeejaaAvg
import Derived.Test.YtgbkmnhdgaeejaaFrom
import Derived.Test.YtgbkmnhdgaeejaaMarkS
import Derived.Test.YtgbkmnhdgaeejaaSofL
import Derived.Test.YtgbkmnhdgaeejaaMarkT
import Derived.Test.YtgbkmnhdgaeejaaHeld
import Derived.Test.YtgbkmnhdgaeejaaCopyI
import Derived.Test.YtgbkmnhdgaeejaaCopyS
import Derived.Test.YtgbkmnhdgaeejaaFgt
import Derived.Test.YtgbkmnhdgaeejaaFgtI
import Derived.Test.YtgbkmnhdgaeejaaFgtS
import Derived.Test.YtgbkmnhdgaeejaaFgtL
import Derived.Test.YtgbkmnhdgaeejaaKeepS
import Derived.Test.YtgbkmnhdgaeejaaKeepI
import Derived.Test.YtgbkmnhdgaeejaaStrs
import Derived.Test.YtgbkmnhdgaeejaaStrsO
namespace Go.Proofs.Ytgbkmnhdgaeejaa.fnExactKeepPods
open Go.ChangeShapes Go.WideShapes Go.ChangeAt Go.RowKit
open Go.ChangeMaps (open_string shut_string)
open Go.Proofs.Ytgbkmnhdgaeejaa.C1
open Go.Proofs.Ytgbkmnhdgaeejaa.C2
open Go.Proofs.Ytgbkmnhdgaeejaa.Smps
open Go.Proofs.Ytgbkmnhdgaeejaa.Mem
open Go.Proofs.Ytgbkmnhdgaeejaa.Ser
open Go.Proofs.Ytgbkmnhdgaeejaa.Ser2
open Go.Proofs.Ytgbkmnhdgaeejaa.Key
open Go.Proofs.Ytgbkmnhdgaeejaa.Sto
open Go.Proofs.Ytgbkmnhdgaeejaa.StoL
open Go.Proofs.Ytgbkmnhdgaeejaa.Cnt
open Go.Proofs.Ytgbkmnhdgaeejaa.Ring
open Go.Proofs.Ytgbkmnhdgaeejaa.Find
open Go.Proofs.Ytgbkmnhdgaeejaa.Sof
open Go.Proofs.Ytgbkmnhdgaeejaa.Lat
open Go.Proofs.Ytgbkmnhdgaeejaa.Avg
open Go.Proofs.Ytgbkmnhdgaeejaa.From
open Go.Proofs.Ytgbkmnhdgaeejaa.MarkS
open Go.Proofs.Ytgbkmnhdgaeejaa.SofL
open Go.Proofs.Ytgbkmnhdgaeejaa.MarkT
open Go.Proofs.Ytgbkmnhdgaeejaa.Held
open Go.Proofs.Ytgbkmnhdgaeejaa.CopyI
open Go.Proofs.Ytgbkmnhdgaeejaa.CopyS
open Go.Proofs.Ytgbkmnhdgaeejaa.Fgt
open Go.Proofs.Ytgbkmnhdgaeejaa.FgtI
open Go.Proofs.Ytgbkmnhdgaeejaa.FgtS
open Go.Proofs.Ytgbkmnhdgaeejaa.FgtL
open Go.Proofs.Ytgbkmnhdgaeejaa.KeepS
open Go.Proofs.Ytgbkmnhdgaeejaa.KeepI
open Go.Proofs.Ytgbkmnhdgaeejaa.Strs
open Go.Proofs.Ytgbkmnhdgaeejaa.StrsO
set_option linter.unusedVariables false

theorem own : ownKnob Try.prog.godebug = none := by kernel_rfl
theorem laidOut : laidOutB Try.prog = true := by kernel_rfl
set_option maxHeartbeats 4000000 in
set_option maxRecDepth 100000 in
theorem walk (a0 : Option Addr) (len0 cap0 : Nat) (z0 : List Sv) (a1 : Option Addr) (len1 cap1 : Nat) (z1 : List ByteArray) (w : World) (w0 : IsSrs w a0 len0 cap0 z0) (w1 : IsTxts w a1 len1 cap1 z1)  :
    Calls Try.prog 10 #[.slice a0 len0 cap0, .slice a1 len1 cap1] w fun e w' => e = .returned (.bool true) ∧ Below w.heap.size w w' := by
  obtain ⟨hl, hcap, hmax, hwf, hS⟩ := w0
  subst hl
  have hml : z0.length ≤ 9223372036854775807 := by unfold maxLen at hmax; omega
  have HW := Lib.hid hwf
  have HS := Lib.hid hS
  clear hwf hS
  obtain ⟨hql, hqcap, hqmax, hqwf, hqS⟩ := w1
  subst hql
  have hqml : z1.length ≤ 9223372036854775807 := by unfold maxLen at hqmax; omega
  have HQW := Lib.hid hqwf
  have HQS := Lib.hid hqS
  clear hqwf hqS
  obtain ⟨bb, hbb⟩ : ∃ bb, keepB z1 (z0.map Sv.s) = bb := ⟨_, rfl⟩
  have HBB := Lib.hid hbb
  have hbn : (bb != bb) = false := by cases bb <;> rfl
  clear hbb
  go_enter Try.func10, Try.ntmps10
  go_wp2_with fail
  refine (sz_total z0 HW.out _ _ hml _ HS.out).mono ?_
  rintro e u1 ⟨r, rfl, hb1, hr⟩
  have HB1 := Lib.hid hb1
  clear hb1
  rcases hr with hr | ⟨hr, hr2, hn, hp, hrem⟩
  · go_wp2
    go_ret
    exact ⟨rfl, HB1.out⟩
  · have HP := Lib.hid hp
    have HREM := Lib.hid hrem
    clear hp hrem
    go_wp2_with fail
    refine (sz_strs z1 HQW.out _ _ r hr hr2 hqml _ (HQS.out.kept HB1.out)).mono ?_
    rintro e u1a ⟨rq, rfl, hb, hrq⟩
    have HB1a := Lib.hid (HB1.out.trans (hb.mono HB1.out.size))
    clear hb
    rcases hrq with hrq | ⟨hrq, hqn⟩
    · go_wp2
      go_ret
      exact ⟨rfl, HB1a.out⟩
    go_wp2_with fail
    refine (to_series z0 _ _ _ (HS.out.kept HB1a.out) hn HP.out).mono ?_
    rintro e u2 ⟨g2, m2, rfl, hm2, ho2, hg2, hb⟩
    have HM2 := Lib.hid hm2
    have HI2 := Lib.hid (srs_of ho2 hg2)
    have HB2 := Lib.hid (HB1a.out.trans (hb.mono HB1a.out.size))
    clear ho2 hg2 hb hm2
    go_wp2_with fail
    refine (to_strs z1 _ _ _ (HQS.out.kept HB2.out) hqn).mono ?_
    rintro e u2a ⟨gq2, rfl, hmq2, hb⟩
    have HB2a := Lib.hid (HB2.out.trans (hb.mono HB2.out.size))
    have HI2a := Lib.hid (HI2.out.kept hb)
    have HQ2 := Lib.hid (MineT.txts hmq2)
    clear hb hmq2
    go_wp2_with fail
    refine (spec_keep2 z0 m2 HM2.out _ _ z1 _ _ _ HW.out HP.out HI2a.out HQ2.out hn hqn bb HBB.out).mono ?_
    rintro e u3 ⟨⟨aw, cw, ns, rfl, hns, how⟩, hb⟩
    have HNS := Lib.hid hns
    have hfair := fair_keep hns
    have hnl : ns.length ≤ 1048576 := Nat.le_trans hfair.most hn
    have HNP := Lib.hid (hfair.pts HP.out)
    have hnr : rem ns 0 ≤ 4194304 := Nat.le_trans hfair.rem HREM.out
    have HB3 := Lib.hid (HB2a.out.trans (hb.mono HB2a.out.size))
    have HPW := Lib.hid (Has.srs how)
    obtain ⟨q, hq⟩ : ∃ q : Nat, 1 + rem ns 0 = q := ⟨_, rfl⟩
    have hqb : q ≤ 100000000 := by omega
    have HQ := Lib.hid hq
    clear hb how hns hfair hnr hq
    go_wp2_with fail
    refine (to_series z0 _ _ _ (HS.out.kept HB3.out) hn HP.out).mono ?_
    rintro e u4 ⟨g4, m4, rfl, hm4, ho4, hg4, hb⟩
    have HM4 := Lib.hid hm4
    have HO4 := Lib.hid ho4
    have HG4 := Lib.hid hg4
    have HB4 := Lib.hid (HB3.out.trans (hb.mono HB3.out.size))
    have HD4 := Lib.hid hb
    have HC4 : Hid (g4 < u4.heap.size ∧ ∀ l ∈ m4, ∀ b o s, l.a = some ⟨b, o, s⟩ → b < u4.heap.size) := ⟨ho4.lt.2, fun l hl b o s e => by have := hg4.own l hl; rw [e] at this; exact this.lt.2⟩
    clear ho4 hg4 hb hm4
    go_wp2_with fail
    refine (to_strs z1 _ _ _ (HQS.out.kept HB4.out) hqn).mono ?_
    rintro e u4a ⟨gq, rfl, hmq, hb⟩
    have HB4a := Lib.hid (HB4.out.trans (hb.mono HB4.out.size))
    have HD4a := Lib.hid (HD4.out.trans (hb.mono HD4.out.size))
    have HO4a := Lib.hid (HO4.out.kept hb)
    have HG4a := Lib.hid (HG4.out.kept hb)
    have HX4 := Lib.hid hmq
    have HZ4 : Hid (u4.heap.size ≤ u4a.heap.size ∧ gq < u4a.heap.size) := ⟨hb.size, hmq.2.1⟩
    clear hb hmq
    go_wp2_with fail
    refine (impl_keep2 z0 m4 ns HM4.out z1 HNS.out _ _ _ _ _ _ HW.out HP.out HO4a.out HG4a.out (MineT.txts HX4.out) hn hqn bb HBB.out).mono ?_
    rintro e u5 ⟨⟨ag, cg, mg, rfl, hmg, hog⟩, hb⟩
    have HMG := Lib.hid hmg
    have HB5 := Lib.hid (HB4a.out.trans (hb.mono HB4a.out.size))
    have HD5 := Lib.hid (HD4a.out.trans (hb.mono HD4a.out.size))
    have HE5 := Lib.hid hb
    have HX5 := Lib.hid (HX4.out.kept hb)
    have HGG5 := Lib.hid hog
    have HO5 := Lib.hid (HO4a.out.kept hb)
    have HG5 := Lib.hid (HG4a.out.kept hb)
    clear hb hog hmg
    go_wp2_with fail
    refine (eq_series2 ns mg ns HMG.out rfl ag aw _ _ _ (Has.srs HGG5.out) (HPW.out.kept HD5.out) hnl HNP.out).mono ?_
    rintro e u6 ⟨rfl, hb⟩
    have HB6 := Lib.hid (HB5.out.trans (hb.mono HB5.out.size))
    have HD6 := Lib.hid (HD5.out.trans (hb.mono HD5.out.size))
    have HE6 := Lib.hid (HE5.out.trans (hb.mono HE5.out.size))
    have HGG6 := Lib.hid (HGG5.out.kept hb)
    have HX6 := Lib.hid (HX5.out.kept hb)
    have HO6 := Lib.hid (HO5.out.kept hb)
    have HG6 := Lib.hid (HG5.out.kept hb)
    clear hb
    go_wp2_with fail
    refine (to_series z0 _ _ _ (HS.out.kept HB6.out) hn HP.out).mono ?_
    rintro e u7 ⟨g7, m7, rfl, hm7, ho7, hg7, hb⟩
    have HM7 := Lib.hid hm7
    have HI7 := Lib.hid (srs_of ho7 hg7)
    have HB7 := Lib.hid (HB6.out.trans (hb.mono HB6.out.size))
    have HD7 := Lib.hid (HD6.out.trans (hb.mono HD6.out.size))
    have HE7 := Lib.hid (HE6.out.trans (hb.mono HE6.out.size))
    have HGG7 := Lib.hid (HGG6.out.kept hb)
    have HX7 := Lib.hid (HX6.out.kept hb)
    have HO7 := Lib.hid (HO6.out.kept hb)
    have HG7 := Lib.hid (HG6.out.kept hb)
    clear ho7 hg7 hb hm7
    go_wp2_with fail
    refine (eq_series2 z0 m4 m7 HM4.out HM7.out _ _ _ _ _ (srs_of HO7.out HG7.out) HI7.out hn HP.out).mono ?_
    rintro e u8 ⟨rfl, hb⟩
    have HB8 := Lib.hid (HB7.out.trans (hb.mono HB7.out.size))
    have HD8 := Lib.hid (HD7.out.trans (hb.mono HD7.out.size))
    have HE8 := Lib.hid (HE7.out.trans (hb.mono HE7.out.size))
    have HGG8 := Lib.hid (HGG7.out.kept hb)
    have HX8 := Lib.hid (HX7.out.kept hb)
    have HO8 := Lib.hid (HO7.out.kept hb)
    have HG8 := Lib.hid (HG7.out.kept hb)
    clear hb
    go_wp2_with fail
    refine (to_strs z1 _ _ _ (HQS.out.kept HB8.out) hqn).mono ?_
    rintro e u8a ⟨gq8, rfl, hmq8, hb⟩
    have HB8a := Lib.hid (HB8.out.trans (hb.mono HB8.out.size))
    have HD8a := Lib.hid (HD8.out.trans (hb.mono HD8.out.size))
    have HE8a := Lib.hid (HE8.out.trans (hb.mono HE8.out.size))
    have HGG8a := Lib.hid (HGG8.out.kept hb)
    have HX8a := Lib.hid (HX8.out.kept hb)
    have HO8a := Lib.hid (HO8.out.kept hb)
    have HG8a := Lib.hid (HG8.out.kept hb)
    have HQ8 := Lib.hid (MineT.txts hmq8)
    clear hb hmq8
    go_wp2_with fail
    refine (eq_strs z1 _ _ _ _ _ (MineT.txts HX8a.out) HQ8.out hqn).mono ?_
    rintro e u8b ⟨rfl, hb⟩
    have HB8b := Lib.hid (HB8a.out.trans (hb.mono HB8a.out.size))
    have HD8b := Lib.hid (HD8a.out.trans (hb.mono HD8a.out.size))
    have HE8b := Lib.hid (HE8a.out.trans (hb.mono HE8a.out.size))
    have HGG8b := Lib.hid (HGG8a.out.kept hb)
    have HX8b := Lib.hid (HX8a.out.kept hb)
    have HO8b := Lib.hid (HO8a.out.kept hb)
    have HG8b := Lib.hid (HG8a.out.kept hb)
    clear hb
    go_wp2_with fail
    refine (mark_arg z0 m4 HM4.out g4 u3.heap.size u4.heap.size HREM.out hn _ HO8b.out HG8b.out HC4.out.1 HC4.out.2 HD8b.out.size).mono ?_
    rintro e u9a ⟨mk, rfl, hmk1, hmk2, hwi⟩
    have HB9a := Lib.hid (hwi.below HB8b.out HB3.out.size HB8b.out.size)
    have HD9a := Lib.hid (hwi.below HD8b.out (Nat.le_refl _) HD8b.out.size)
    have HGG9a := Lib.hid (Has.within HGG8b.out (within_up hwi HZ4.out.1))
    have HX9a := Lib.hid (MineT.within HX8b.out hwi)
    have HZ9a : Hid (u4a.heap.size ≤ u9a.heap.size) := Nat.le_trans HE8b.out.size hwi.size
    clear hwi
    go_wp2_with fail
    refine (mark_pods z1 gq u4.heap.size mk hmk1 hmk2 hqn _ HX9a.out).mono ?_
    rintro e u9 ⟨mk2, rfl, hwi⟩
    have hmk0 : decide ((mk2 : Int) < 0) = false := decide_eq_false (by omega)
    have HB9 := Lib.hid (hwi.below HB9a.out HB4.out.size HB9a.out.size)
    have HD9 := Lib.hid (hwi.below HD9a.out HD4.out.size HD9a.out.size)
    have HGG9 := Lib.hid (Has.within HGG9a.out (within_up hwi HZ4.out.2))
    have HZ9 : Hid (u4a.heap.size ≤ u9.heap.size) := Nat.le_trans HZ9a.out hwi.size
    clear hwi
    go_wp2_with fail
    refine (eq_series2 ns mg ns HMG.out rfl ag aw _ _ _ (Has.srs HGG9.out) (HPW.out.kept HD9.out) hnl HNP.out).mono ?_
    rintro e u10 ⟨rfl, hb⟩
    have HB10 := Lib.hid (HB9.out.trans (hb.mono HB9.out.size))
    have HD10 := Lib.hid (HD9.out.trans (hb.mono HD9.out.size))
    have HGG10 := Lib.hid (HGG9.out.kept hb)
    have HZ10 : Hid (u4a.heap.size ≤ u10.heap.size) := Nat.le_trans HZ9.out hb.size
    clear hb
    go_wp2_with fail
    refine (mark_has ns mg HMG.out ag cg u4a.heap.size q HQ.out hqb hnl _ HZ10.out HGG10.out).mono ?_
    rintro e u11 ⟨rfl, ho, ha⟩
    have HB11 := Lib.hid (ha.below HB10.out HB4a.out.size HB10.out.size)
    have HD11 := Lib.hid (ha.below HD10.out HD4a.out.size HD10.out.size)
    have HGG11 := Lib.hid ho
    clear ho ha
    go_wp2_with fail
    refine (held_has ns mg HMG.out ag cg u4a.heap.size q HQ.out hqb hnl _ HGG11.out).mono ?_
    rintro e u12 ⟨rfl, hb⟩
    have HB12 := Lib.hid (HB11.out.trans (hb.mono HB11.out.size))
    have HD12 := Lib.hid (HD11.out.trans (hb.mono HD11.out.size))
    have HGG12 := Lib.hid (HGG11.out.kept hb)
    clear hb
    have hq0 : decide ((q : Int) < 0) = false := decide_eq_false (by omega)
    have hqq : ((q : Int) != (q : Int)) = false := by simp
    go_wp2_with fail
    refine (to_series z0 _ _ _ (HS.out.kept HB12.out) hn HP.out).mono ?_
    rintro e u13 ⟨g13, m13, rfl, hm13, ho13, hg13, hb⟩
    have HM13 := Lib.hid hm13
    have HO13 := Lib.hid ho13
    have HG13 := Lib.hid hg13
    have HB13 := Lib.hid (HB12.out.trans (hb.mono HB12.out.size))
    have HD13 := Lib.hid (HD12.out.trans (hb.mono HD12.out.size))
    have HGG13 := Lib.hid (HGG12.out.kept hb)
    clear ho13 hg13 hb hm13
    go_wp2_with fail
    refine (to_strs z1 _ _ _ (HQS.out.kept HB13.out) hqn).mono ?_
    rintro e u13a ⟨gq13, rfl, hmq13, hb⟩
    have HB13a := Lib.hid (HB13.out.trans (hb.mono HB13.out.size))
    have HD13a := Lib.hid (HD13.out.trans (hb.mono HD13.out.size))
    have HGG13a := Lib.hid (HGG13.out.kept hb)
    have HO13a := Lib.hid (HO13.out.kept hb)
    have HG13a := Lib.hid (HG13.out.kept hb)
    have HQ13 := Lib.hid (MineT.txts hmq13)
    clear hb hmq13
    go_wp2_with fail
    refine (impl_keep2 z0 m13 ns HM13.out z1 HNS.out _ _ _ _ _ _ HW.out HP.out HO13a.out HG13a.out HQ13.out hn hqn bb HBB.out).mono ?_
    rintro e u14 ⟨⟨ah, ch, mh, rfl, hmh, hoh⟩, hb⟩
    have HMH := Lib.hid hmh
    have HB14 := Lib.hid (HB13a.out.trans (hb.mono HB13a.out.size))
    have HD14 := Lib.hid (HD13a.out.trans (hb.mono HD13a.out.size))
    have HGG14 := Lib.hid (HGG13a.out.kept hb)
    have HH14 := Lib.hid (Has.srs hoh)
    clear hb hoh hmh
    go_wp2_with fail
    refine (eq_series2 ns mh ns HMH.out rfl ah aw _ _ _ HH14.out (HPW.out.kept HD14.out) hnl HNP.out).mono ?_
    rintro e u15 ⟨rfl, hb⟩
    have HB15 := Lib.hid (HB14.out.trans (hb.mono HB14.out.size))
    have HGG15 := Lib.hid (HGG14.out.kept hb)
    clear hb
    go_wp2_with fail
    refine (held_has ns mg HMG.out ag cg u4a.heap.size q HQ.out hqb hnl _ HGG15.out).mono ?_
    rintro e u16 ⟨rfl, hb⟩
    have HB16 := Lib.hid (HB15.out.trans (hb.mono HB15.out.size))
    clear hb
    go_wp2
    go_ret
    exact ⟨rfl, HB16.out⟩

set_option maxRecDepth 100000 in
theorem lifted (os : Os) (started : os.Started) (H : Type) (enc : TypeId × Value → H) :
    ReturnsInHanded {} Try.checked os 10 .any (Rows.fnExactKeepPodsSpec.pre6 enc Try.prog Try.f10 Rows.fnExactKeepPodsRow.domain false) (Rows.fnExactKeepPodsSpec.post enc Try.prog Try.f10 false true false false) := by
  refine returnsInHanded_of_change (C := Try.checked) own started (by kernel_rfl) Try.func10
    (ChangeSpec.witness6 (enc := enc) (C := Try.checked) false ⟨#[], #[.slice none 0 0, .slice none 0 0], []⟩ 8 (by kernel_rfl) (by kernel_rfl) (by kernel_rfl) (by kernel_rfl)) ?_
  intro W base args ds gs before hval0 hW hcnd _
  have hval : ∀ (j : Nat) t v, Try.f10.params[j]? = some t → args[j]? = some v → Value.okWide Try.prog W .any base t v := hval0
  clear hval0
  have hW' := hW
  obtain ⟨p, q, hA0, hV, rfl, hfz, hnd⟩ := hW
  have hA : DataW.TrodAll enc Try.prog W 0 (fun _ => true) true Try.f10.params.toList args.toList ds p := hA0
  rw [Try.params10] at hA hval
  obtain ⟨v0, vs0, d0, ds0, p0, q0, hargs, rfl, rfl, h0, r0⟩ := trodAll_cons hA
  obtain ⟨v1, vs1, d1, ds1, p1, q1, rfl, rfl, rfl, h1, r1⟩ := trodAll_cons r0
  obtain ⟨rfl, rfl, rfl⟩ := trodAll_nil r1
  obtain rfl : args = #[v0, v1] := by cases args; simp_all
  obtain ⟨rfl, rfl⟩ := trodVars_none hV
  have k0 := h0
  have lt0 : ∀ x ∈ p0, x.block < W.heap.size := by obtain ⟨m, hm⟩ := k0; exact DataW.trod_lt m _ _ _ hm
  have k1 := h1
  have lt1 : ∀ x ∈ p1, x.block < W.heap.size := by obtain ⟨m, hm⟩ := k1; exact DataW.trod_lt m _ _ _ hm
  obtain ⟨a0, len0, cap0, rfl⟩ := okWide_slice Try.underlying22 (hval 0 22 v0 rfl rfl)
  obtain ⟨z0, w0⟩ : ∃ zs, IsSrs W a0 len0 cap0 zs := by
    obtain ⟨fuel, hf⟩ := h0
    exact open_srs Try.underlying22 Try.underlying77 (by kernel_rfl) (by kernel_rfl) ⟨rfl, rfl, rfl⟩ Try.underlying9 Try.underlying75 Try.underlying113 (by kernel_rfl) (by kernel_rfl) ⟨rfl, rfl⟩ Try.underlying3 hf
  obtain ⟨a1, len1, cap1, rfl⟩ := okWide_slice Try.underlying67 (hval 1 67 v1 rfl rfl)
  obtain ⟨z1, w1⟩ : ∃ zs, IsTxts W a1 len1 cap1 zs := by
    obtain ⟨fuel, hf⟩ := h1
    exact open_strs Try.underlying67 Try.underlying9 (by kernel_rfl) hf
  clear hA0
  refine (walk a0 len0 cap0 z0 a1 len1 cap1 z1 W w0 w1).mono fun e W' ⟨he, bel⟩ => ?_
  subst he
  exact ⟨_, rfl, _, _, _, [], _, [], hW', trodAll_mk1 (shut_bool Try.underlying4 _), (trodAll_cons_mk (Below.trod laidOut (by kernel_rfl) (of_decide_eq_true (by kernel_rfl)) k0 bel lt0) (trodAll_cons_mk (Below.trod laidOut (by kernel_rfl) (of_decide_eq_true (by kernel_rfl)) k1 bel lt1) trodAll_mk0)), rfl, bel.frame _, fun h => by cases h⟩

theorem over : Rows.fnExactKeepPodsRow.holds Try.pinned (OpenSpec.ofChange Rows.fnExactKeepPodsSpec) :=
  OpenClaim.holds_of_wide 10 Try.f10 rfl rfl rfl rfl rfl rfl rfl ⟨rfl, rfl, rfl, rfl, rfl⟩ rfl rfl rfl rfl rfl (by kernel_rfl) Try.func10 (by kernel_rfl)
    (of_decide_eq_true (by kernel_rfl)) (by unfold Func.isWrapper; first | (rw [if_pos (by decide +kernel)]; kernel_rfl) | (rw [if_neg (by decide +kernel)]; exact ⟨rfl, rfl⟩))
    (fun os started H enc _ => lifted os started H enc)

/-- THE STATEMENT. -/
theorem proved : Rows.FnExactKeepPodsSaid := over
end Go.Proofs.Ytgbkmnhdgaeejaa.fnExactKeepPods
