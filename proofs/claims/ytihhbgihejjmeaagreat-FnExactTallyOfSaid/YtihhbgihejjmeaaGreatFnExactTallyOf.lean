/- For every input that can be read, the Go function laws.FnExactTallyOf returns true and leaves its arguments as they read: the statement Rows.FnExactTallyOfSaid, without a condition of ours. -/
import Derived.Test.YtihhbgihejjmeaaGreatRows
import Derived.WalkKit
import Derived.ProofKit
import Derived.OpenShut
import Derived.ShutString
import Derived.ChangeOld
import Derived.Below
import Derived.Lib.SmallJoins
import Derived.Test.YtihhbgihejjmeaaGreatC1
import Derived.Test.YtihhbgihejjmeaaGreatC2
import Derived.Test.YtihhbgihejjmeaaGreatSmps
import Derived.Test.YtihhbgihejjmeaaGreatMem
import Derived.Test.YtihhbgihejjmeaaGreatInts
import Derived.Test.YtihhbgihejjmeaaGreatSer
import Derived.Test.YtihhbgihejjmeaaGreatSer2
import Derived.Test.YtihhbgihejjmeaaGreatKey
import Derived.Test.YtihhbgihejjmeaaGreatSto
import Derived.Test.YtihhbgihejjmeaaGreatStoL
import Derived.Test.YtihhbgihejjmeaaGreatLat
import Derived.Test.YtihhbgihejjmeaaGreatPd
import Derived.Test.YtihhbgihejjmeaaGreatPds
import Derived.Test.YtihhbgihejjmeaaGreatMarkS
import Derived.Test.YtihhbgihejjmeaaGreatSofL
import Derived.Test.YtihhbgihejjmeaaGreatMarkP
import Derived.Test.YtihhbgihejjmeaaGreatCls
import Derived.Test.YtihhbgihejjmeaaGreatClss
import Derived.Test.YtihhbgihejjmeaaGreatOwnI
import Derived.Test.YtihhbgihejjmeaaGreatSzT
import Derived.Test.YtihhbgihejjmeaaGreatTal
import Derived.Test.YtihhbgihejjmeaaGreatTalI
namespace Go.Proofs.YtihhbgihejjmeaaGreat.fnExactTallyOf
open Go.ChangeShapes Go.WideShapes Go.ChangeAt Go.RowKit Go.Joins
open Go.ChangeMaps (open_string shut_string)
open Go.Proofs.YtihhbgihejjmeaaGreat.C1
open Go.Proofs.YtihhbgihejjmeaaGreat.C2
open Go.Proofs.YtihhbgihejjmeaaGreat.Smps
open Go.Proofs.YtihhbgihejjmeaaGreat.Mem
open Go.Proofs.YtihhbgihejjmeaaGreat.Ints
open Go.Proofs.YtihhbgihejjmeaaGreat.Ser
open Go.Proofs.YtihhbgihejjmeaaGreat.Ser2
open Go.Proofs.YtihhbgihejjmeaaGreat.Key
open Go.Proofs.YtihhbgihejjmeaaGreat.Sto
open Go.Proofs.YtihhbgihejjmeaaGreat.StoL
open Go.Proofs.YtihhbgihejjmeaaGreat.Lat
open Go.Proofs.YtihhbgihejjmeaaGreat.Pd
open Go.Proofs.YtihhbgihejjmeaaGreat.Pds
open Go.Proofs.YtihhbgihejjmeaaGreat.MarkS
open Go.Proofs.YtihhbgihejjmeaaGreat.SofL
open Go.Proofs.YtihhbgihejjmeaaGreat.MarkP
open Go.Proofs.YtihhbgihejjmeaaGreat.Cls
open Go.Proofs.YtihhbgihejjmeaaGreat.Clss
open Go.Proofs.YtihhbgihejjmeaaGreat.OwnI
open Go.Proofs.YtihhbgihejjmeaaGreat.SzT
open Go.Proofs.YtihhbgihejjmeaaGreat.Tal
open Go.Proofs.YtihhbgihejjmeaaGreat.TalI
set_option linter.unusedVariables false

theorem own : ownKnob Tryz.prog.godebug = none := by kernel_rfl
theorem laidOut : laidOutB Tryz.prog = true := by kernel_rfl
set_option maxHeartbeats 4000000 in
set_option maxRecDepth 100000 in
theorem walk (a0 : Option Addr) (len0 cap0 : Nat) (z0 : List Pd) (a1 : Option Addr) (len1 cap1 : Nat) (z1 : List Sv) (s2 : ByteArray) (a3 : Int) (x4 : Rl) (w : World) (w0 : IsPds w a0 len0 cap0 z0) (w1 : IsSrs w a1 len1 cap1 z1) (w2 : s2.size ≤ maxLen) (w3 : (Lit.int .i64 a3).wf = true) (w4 : x4.wf)  :
    Calls Tryz.prog 4 #[.slice a0 len0 cap0, .slice a1 len1 cap1, .string s2, .int .i64 a3, rlV x4] w fun e w' => e = .returned (.bool true) ∧ Below w.heap.size w w' := by
  obtain ⟨hl0, hcap0, hmax0, hwf0, hP⟩ := w0
  subst hl0
  have hml0 : z0.length ≤ 9223372036854775807 := by unfold maxLen at hmax0; omega
  obtain ⟨hl, hcap, hmax, hwf, hS⟩ := w1
  subst hl
  have hml : z1.length ≤ 9223372036854775807 := by unfold maxLen at hmax; omega
  have HWP := Lib.hid hwf0
  have HW := Lib.hid hwf
  have HPA := Lib.hid hP
  have HSA := Lib.hid hS
  clear hwf hS hwf0 hP
  obtain ⟨T, hT⟩ : ∃ T, tallyV z0 (z1.map Sv.s) s2 a3 x4 = T := ⟨_, rfl⟩
  obtain ⟨bo, hbo⟩ : ∃ bo, tallyOk z0 (z1.map Sv.s) s2 a3 x4 = bo := ⟨_, rfl⟩
  have HTV := Lib.hid hT
  have HBV := Lib.hid hbo
  have hbn : (bo != bo) = false := by cases bo <;> rfl
  clear hT hbo
  by_cases hb1 : 1048576 < s2.size
  · go_enter Tryz.func4, Tryz.ntmps4
    go_wp2
    go_ret
    exact ⟨rfl, box_below _ _ _⟩
  · unfold rlV
    have HR := Lib.hid (cells_new w #[.int .i64 x4.dl, .int .i64 x4.fr, .int .i64 x4.wi] 25)
    have H0 := Lib.hid (box_below w #[.int .i64 x4.dl, .int .i64 x4.fr, .int .i64 x4.wi] 25)
    obtain ⟨W0, hW0⟩ : ∃ W0, w.alloc (.cells #[.int .i64 x4.dl, .int .i64 x4.fr, .int .i64 x4.wi] 25) = W0 := ⟨_, rfl⟩
    have HE : Hid (W0.heap.size = w.heap.size + 1) := by rw [← hW0]; exact Lib.hid (by simp)
    rw [hW0] at HR H0
    have HWE := Lib.hid hW0
    clear hW0
    have HPK : Hid (∀ W, Hid (Below (w.heap.size + 1) W0 W) → Pds W a0 z0) := fun W h => (HPA.out.kept H0.out).kept (by rw [HE.out]; exact h.out)
    have HSK : Hid (∀ W, Hid (Below (w.heap.size + 1) W0 W) → Srs W a1 z1) := fun W h => (HSA.out.kept H0.out).kept (by rw [HE.out]; exact h.out)
    have HT : Hid (∀ W, Hid (Below (w.heap.size + 1) W0 W) → (W.cell? ⟨w.heap.size, 0, none⟩ = some (.int .i64 x4.dl) ∧ W.cell? ⟨w.heap.size, 1, none⟩ = some (.int .i64 x4.fr) ∧ W.cell? ⟨w.heap.size, 2, none⟩ = some (.int .i64 x4.wi))) := fun W h => cells3 (HR.out.kept (by rw [HE.out]; exact h.out))
    have HB0 : Hid (Below (w.heap.size + 1) W0 W0) := Below.refl _ _
    have HRC : Hid (∀ W, Hid (Below (w.heap.size + 1) W0 W) → CellsW W w.heap.size [.int .i64 x4.dl, .int .i64 x4.fr, .int .i64 x4.wi]) := fun W h => HR.out.kept (by rw [HE.out]; exact h.out)
    clear HR HPA HSA
    go_enter Tryz.func4, Tryz.ntmps4
    go_wp2_with fail
    rw [HWE.out]
    refine (sz_pods z0 HWP.out _ _ hml0 _ (HPK.out _ HB0)).mono ?_
    rintro e v1 ⟨r1, rfl, hb, hr⟩
    have HB1 := Lib.hid (HB0.out.trans (hb.mono (bsz HE HB0.out)))
    clear hb
    rcases hr with hr | ⟨hr, hr2, hn0, -⟩
    · have HBF := Lib.hid (H0.out.trans (HB1.out.mono (Nat.le_succ _)))
      go_wp2
      go_ret
      exact ⟨rfl, HBF.out⟩
    · go_wp2_with fail
      refine (sz_totalL r1 hr hr2 z1 HW.out _ _ hml _ (HSK.out _ HB1)).mono ?_
      rintro e v2 ⟨r2, rfl, hb, hr⟩
      have HB2 := Lib.hid (HB1.out.trans (hb.mono (bsz HE HB1.out)))
      clear hb
      rcases hr with hr | ⟨hr, hr3, hn, hp, hrem⟩
      · have HBF := Lib.hid (H0.out.trans (HB2.out.mono (Nat.le_succ _)))
        go_wp2
        go_ret
        exact ⟨rfl, HBF.out⟩
      · have HP := Lib.hid hp
        have HREM := Lib.hid hrem
        clear hp hrem
        have HBc : Hid (Below (w.heap.size + 1) W0 v2.drew) := HB2.out.drew
        have HDS : Hid (v2.drew.heap.size = v2.heap.size) := Lib.hid rfl
        go_wp2_with fail
        go_region_held3 (fun w' => w'.cell? ⟨w.heap.size, 0, none⟩ = some (.int .i64 x4.dl) ∧ w'.cell? ⟨w.heap.size, 1, none⟩ = some (.int .i64 x4.fr) ∧ w'.cell? ⟨w.heap.size, 2, none⟩ = some (.int .i64 x4.wi))
          (first | exact HT.out _ HBc | exact HT.out _ (Lib.hid (HBc.out.alloc (bsz HE HBc.out) _)) | exact cells3 (off4 (HRC.out _ HBc) (by have := HLc.out; omega) _ _ _ _))
          (first
            | (go_at_call 8; (first | (have HVw := HVc; have HLw := HLc; have HBw := HBc; refine (to_pods z0 _ _ _ (HPK.out _ HBw) hn0).mono ?_; rintro e v3 ⟨g3, rfl, ho, hb⟩; have HIc := Lib.hid (pds_of ho); clear ho; have HBc := Lib.hid (HBw.out.trans (hb.mono (bsz HE HBw.out))); have HVc := Lib.hid (HVw.out.kept hb); have HLc := HLw; clear hb) | (have HBw := HBc; refine (to_pods z0 _ _ _ (HPK.out _ HBw) hn0).mono ?_; rintro e v3 ⟨g3, rfl, ho, hb⟩; have HIc := Lib.hid (pds_of ho); clear ho; have HBc := Lib.hid (HBw.out.trans (hb.mono (bsz HE HBw.out))); clear hb) | (have HVw := Lib.hid ((fun {v : World} (_ : Below (w.heap.size + 1) W0 v) => cells_new v #[.int .i64 0, .int .i64 0, .int .i64 0, .int .i64 0] 44) HBc.out); have HLw := Lib.hid (bsz HE HBc.out); have HBw := Lib.hid (HBc.out.alloc (bsz HE HBc.out) (.cells #[.int .i64 0, .int .i64 0, .int .i64 0, .int .i64 0] 44)); refine (to_pods z0 _ _ _ (HPK.out _ HBw) hn0).mono ?_; rintro e v3 ⟨g3, rfl, ho, hb⟩; have HIc := Lib.hid (pds_of ho); clear ho; have HBc := Lib.hid (HBw.out.trans (hb.mono (bsz HE HBw.out))); have HVc := Lib.hid (HVw.out.kept hb); have HLc := HLw; clear hb)))
            | (go_at_call 9; (first | (have HVw := HVc; have HLw := HLc; have HBw := HBc; have HIw := HIc; refine (to_series z1 _ _ _ (HSK.out _ HBw) hn HP.out).mono ?_; rintro e v4 ⟨g4, m4, rfl, hm4, ho4, hg4, hb⟩; have HM4 := Lib.hid hm4; have HJc := Lib.hid (srs_of ho4 hg4); clear ho4 hg4 hm4; have HBc := Lib.hid (HBw.out.trans (hb.mono (bsz HE HBw.out))); have HIc := Lib.hid (HIw.out.kept hb); have HVc := Lib.hid (HVw.out.kept hb); have HLc := HLw; clear hb) | (have HBw := HBc; have HIw := HIc; refine (to_series z1 _ _ _ (HSK.out _ HBw) hn HP.out).mono ?_; rintro e v4 ⟨g4, m4, rfl, hm4, ho4, hg4, hb⟩; have HM4 := Lib.hid hm4; have HJc := Lib.hid (srs_of ho4 hg4); clear ho4 hg4 hm4; have HBc := Lib.hid (HBw.out.trans (hb.mono (bsz HE HBw.out))); have HIc := Lib.hid (HIw.out.kept hb); clear hb) | (have HVw := Lib.hid ((fun {v : World} (_ : Below (w.heap.size + 1) W0 v) => cells_new v #[.int .i64 0, .int .i64 0, .int .i64 0, .int .i64 0] 44) HBc.out); have HLw := Lib.hid (bsz HE HBc.out); have HBw := Lib.hid (HBc.out.alloc (bsz HE HBc.out) (.cells #[.int .i64 0, .int .i64 0, .int .i64 0, .int .i64 0] 44)); have HIw := Lib.hid (HIc.out.kept (box_below _ #[.int .i64 0, .int .i64 0, .int .i64 0, .int .i64 0] 44)); refine (to_series z1 _ _ _ (HSK.out _ HBw) hn HP.out).mono ?_; rintro e v4 ⟨g4, m4, rfl, hm4, ho4, hg4, hb⟩; have HM4 := Lib.hid hm4; have HJc := Lib.hid (srs_of ho4 hg4); clear ho4 hg4 hm4; have HBc := Lib.hid (HBw.out.trans (hb.mono (bsz HE HBw.out))); have HIc := Lib.hid (HIw.out.kept hb); have HVc := Lib.hid (HVw.out.kept hb); have HLc := HLw; clear hb)))
            | (go_at_call 10; (first | (have HVw := HVc; have HLw := HLc; have HBw := HBc; have HIw := HIc; have HJw := HJc; refine (to_rules x4 _).mono ?_; rintro e v5 ⟨rfl, hb⟩; have HBc := Lib.hid (HBw.out.trans (hb.mono (bsz HE HBw.out))); have HIc := Lib.hid (HIw.out.kept hb); have HJc := Lib.hid (HJw.out.kept hb); have HVc := Lib.hid (HVw.out.kept hb); have HLc := HLw; clear hb) | (have HBw := HBc; have HIw := HIc; have HJw := HJc; refine (to_rules x4 _).mono ?_; rintro e v5 ⟨rfl, hb⟩; have HBc := Lib.hid (HBw.out.trans (hb.mono (bsz HE HBw.out))); have HIc := Lib.hid (HIw.out.kept hb); have HJc := Lib.hid (HJw.out.kept hb); clear hb) | (have HVw := Lib.hid ((fun {v : World} (_ : Below (w.heap.size + 1) W0 v) => cells_new v #[.int .i64 0, .int .i64 0, .int .i64 0, .int .i64 0] 44) HBc.out); have HLw := Lib.hid (bsz HE HBc.out); have HBw := Lib.hid (HBc.out.alloc (bsz HE HBc.out) (.cells #[.int .i64 0, .int .i64 0, .int .i64 0, .int .i64 0] 44)); have HIw := Lib.hid (HIc.out.kept (box_below _ #[.int .i64 0, .int .i64 0, .int .i64 0, .int .i64 0] 44)); have HJw := Lib.hid (HJc.out.kept (box_below _ #[.int .i64 0, .int .i64 0, .int .i64 0, .int .i64 0] 44)); refine (to_rules x4 _).mono ?_; rintro e v5 ⟨rfl, hb⟩; have HBc := Lib.hid (HBw.out.trans (hb.mono (bsz HE HBw.out))); have HIc := Lib.hid (HIw.out.kept hb); have HJc := Lib.hid (HJw.out.kept hb); have HVc := Lib.hid (HVw.out.kept hb); have HLc := HLw; clear hb)))
            | (go_at_call 19; (first | (have HVw := HVc; have HLw := HLc; have HBw := HBc; have HIw := HIc; have HJw := HJc; refine (spec_tally2 z0 HWP.out _ _ z1 m4 HM4.out _ _ _ _ _ _ HIw.out hn0 HW.out HP.out HJw.out hn HTV.out HBV.out).mono ?_; rintro e v6 ⟨rfl, hb⟩; have HBc := Lib.hid (HBw.out.trans (hb.mono (bsz HE HBw.out))); have HIc := Lib.hid (HIw.out.kept hb); have HJc := Lib.hid (HJw.out.kept hb); have HVc := Lib.hid (HVw.out.kept hb); have HLc := HLw; (try rw [HDS.out] at HVc HLc); obtain ⟨q0, q1, q2, q3⟩ := cells4 HVc.out; obtain ⟨f0, f1, f2, f3⟩ := cellsF4 HVc.out; clear hb) | (have HBw := HBc; have HIw := HIc; have HJw := HJc; refine (spec_tally2 z0 HWP.out _ _ z1 m4 HM4.out _ _ _ _ _ _ HIw.out hn0 HW.out HP.out HJw.out hn HTV.out HBV.out).mono ?_; rintro e v6 ⟨rfl, hb⟩; have HBc := Lib.hid (HBw.out.trans (hb.mono (bsz HE HBw.out))); have HIc := Lib.hid (HIw.out.kept hb); have HJc := Lib.hid (HJw.out.kept hb); clear hb) | (have HVw := Lib.hid ((fun {v : World} (_ : Below (w.heap.size + 1) W0 v) => cells_new v #[.int .i64 0, .int .i64 0, .int .i64 0, .int .i64 0] 44) HBc.out); have HLw := Lib.hid (bsz HE HBc.out); have HBw := Lib.hid (HBc.out.alloc (bsz HE HBc.out) (.cells #[.int .i64 0, .int .i64 0, .int .i64 0, .int .i64 0] 44)); have HIw := Lib.hid (HIc.out.kept (box_below _ #[.int .i64 0, .int .i64 0, .int .i64 0, .int .i64 0] 44)); have HJw := Lib.hid (HJc.out.kept (box_below _ #[.int .i64 0, .int .i64 0, .int .i64 0, .int .i64 0] 44)); refine (spec_tally2 z0 HWP.out _ _ z1 m4 HM4.out _ _ _ _ _ _ HIw.out hn0 HW.out HP.out HJw.out hn HTV.out HBV.out).mono ?_; rintro e v6 ⟨rfl, hb⟩; have HBc := Lib.hid (HBw.out.trans (hb.mono (bsz HE HBw.out))); have HIc := Lib.hid (HIw.out.kept hb); have HJc := Lib.hid (HJw.out.kept hb); have HVc := Lib.hid (HVw.out.kept hb); have HLc := HLw; (try rw [HDS.out] at HVc HLc); obtain ⟨q0, q1, q2, q3⟩ := cells4 HVc.out; obtain ⟨f0, f1, f2, f3⟩ := cellsF4 HVc.out; clear hb))))
        all_goals (
          first
            | (obtain ⟨hv, hb⟩ := tl_set (B := w.heap.size + 1) HVc.out T HLc.out HBc.out; have HBt := Lib.hid hb; have HVt := Lib.hid hv; have HLt := HLc; clear hv hb q0 q1 q2 q3 f0 f1 f2 f3)
            | (have HVt := Lib.hid (cells_new v6 #[.int .i64 T.rdy, .int .i64 T.unr, .int .i64 T.mis, .int .i64 T.sum] 44); have HLt := Lib.hid (bsz HE HBc.out); have HBt := Lib.hid (HBc.out.alloc (bsz HE HBc.out) (.cells #[.int .i64 T.rdy, .int .i64 T.unr, .int .i64 T.mis, .int .i64 T.sum] 44)))
          have HEQ : Hid (∀ W, Calls Tryz.prog 21 #[.agg #[.int .i64 T.rdy, .int .i64 T.unr, .int .i64 T.mis, .int .i64 T.sum], .agg #[.int .i64 T.rdy, .int .i64 T.unr, .int .i64 T.mis, .int .i64 T.sum]] W fun e w' => e = .returned (.bool true) ∧ Below W.heap.size W w') := fun W => eq_tally T W
          go_wp2_with fail
          refine (to_pods z0 _ _ _ (HPK.out _ HBt) hn0).mono ?_
          rintro e u1 ⟨g5, rfl, ho, hb⟩
          have HI1 := Lib.hid (pds_of ho)
          have HB3 := Lib.hid (HBt.out.trans (hb.mono (bsz HE HBt.out)))
          have HV3 := Lib.hid (HVt.out.kept hb)
          clear ho hb HBt HVt
          go_wp2_with fail
          refine (to_series z1 _ _ _ (HSK.out _ HB3) hn HP.out).mono ?_
          rintro e u2 ⟨g6, m6, rfl, hm6, ho6, hg6, hb⟩
          have HM6 := Lib.hid hm6
          have HJ2 := Lib.hid (srs_of ho6 hg6)
          have HI2 := Lib.hid (HI1.out.kept hb)
          have HB4 := Lib.hid (HB3.out.trans (hb.mono (bsz HE HB3.out)))
          have HV4 := Lib.hid (HV3.out.kept hb)
          clear ho6 hg6 hb hm6 HI1 HB3 HV3
          obtain ⟨c0, c1, c2⟩ := HT.out _ HB4
          go_wp2_with fail
          refine (to_rules x4 _).mono ?_
          rintro e u3 ⟨rfl, hb⟩
          have HI3 := Lib.hid (HI2.out.kept hb)
          have HJ3 := Lib.hid (HJ2.out.kept hb)
          have HB5 := Lib.hid (HB4.out.trans (hb.mono (bsz HE HB4.out)))
          have HV5 := Lib.hid (HV4.out.kept hb)
          clear hb c0 c1 c2 HI2 HJ2 HB4 HV4
          go_wp2_with fail
          refine (impl_tally2 z0 HWP.out _ _ z1 m6 HM6.out _ _ _ _ _ _ HI3.out hn0 HW.out HP.out HJ3.out hn HTV.out HBV.out).mono ?_
          rintro e u4 ⟨rfl, hb⟩
          have HI4 := Lib.hid (HI3.out.kept hb)
          have HJ4 := Lib.hid (HJ3.out.kept hb)
          have HB6 := Lib.hid (HB5.out.trans (hb.mono (bsz HE HB5.out)))
          have HV6 := Lib.hid (HV5.out.kept hb)
          clear hb HI3 HJ3 HB5 HV5
          have HB7 := Lib.hid (HB6.out.alloc (bsz HE HB6.out) (.cells #[.int .i64 T.rdy, .int .i64 T.unr, .int .i64 T.mis, .int .i64 T.sum] 44))
          have HV7 := Lib.hid (HV6.out.kept (box_below _ #[.int .i64 T.rdy, .int .i64 T.unr, .int .i64 T.mis, .int .i64 T.sum] 44))
          have HI7 := Lib.hid (HI4.out.kept (box_below _ #[.int .i64 T.rdy, .int .i64 T.unr, .int .i64 T.mis, .int .i64 T.sum] 44))
          have HJ7 := Lib.hid (HJ4.out.kept (box_below _ #[.int .i64 T.rdy, .int .i64 T.unr, .int .i64 T.mis, .int .i64 T.sum] 44))
          obtain ⟨d0, d1, d2, d3⟩ := cells4 HV7.out
          go_wp2_with fail
          refine (HEQ.out _).mono ?_
          rintro e u5 ⟨rfl, hb⟩
          have HI8 := Lib.hid (HI7.out.kept hb)
          have HJ8 := Lib.hid (HJ7.out.kept hb)
          have HB8 := Lib.hid (HB7.out.trans (hb.mono (bsz HE HB7.out)))
          clear hb d0 d1 d2 d3 HI4 HJ4 HB6 HV6 HI7 HJ7 HB7 HV7
          go_wp2_with fail
          refine (to_pods z0 _ _ _ (HPK.out _ HB8) hn0).mono ?_
          rintro e u6 ⟨g7, rfl, ho, hb⟩
          have HK1 := Lib.hid (pds_of ho)
          have HI9 := Lib.hid (HI8.out.kept hb)
          have HJ9 := Lib.hid (HJ8.out.kept hb)
          have HB9 := Lib.hid (HB8.out.trans (hb.mono (bsz HE HB8.out)))
          clear ho hb HI8 HJ8 HB8
          go_wp2_with fail
          refine (eq_pods z0 _ _ _ _ _ HI9.out HK1.out hn0).mono ?_
          rintro e u7 ⟨rfl, hb⟩
          have HJ10 := Lib.hid (HJ9.out.kept hb)
          have HB10 := Lib.hid (HB9.out.trans (hb.mono (bsz HE HB9.out)))
          clear hb HI9 HJ9 HB9
          go_wp2_with fail
          refine (to_series z1 _ _ _ (HSK.out _ HB10) hn HP.out).mono ?_
          rintro e u8 ⟨g8, m8, rfl, hm8, ho8, hg8, hb⟩
          have HM8 := Lib.hid hm8
          have HK2 := Lib.hid (srs_of ho8 hg8)
          have HJ11 := Lib.hid (HJ10.out.kept hb)
          have HB11 := Lib.hid (HB10.out.trans (hb.mono (bsz HE HB10.out)))
          clear hb ho8 hg8 hm8 HJ10 HB10
          go_wp2_with fail
          refine (eq_series2 z1 m6 m8 HM6.out HM8.out _ _ _ _ _ HJ11.out HK2.out hn HP.out).mono ?_
          rintro e u9 ⟨rfl, hb⟩
          have HBF := Lib.hid (H0.out.trans ((HB11.out.trans (hb.mono (bsz HE HB11.out))).mono (Nat.le_succ _)))
          clear hb
          go_wp2
          go_ret
          exact ⟨rfl, HBF.out⟩)

set_option maxRecDepth 100000 in
theorem lifted (os : Os) (started : os.Started) (H : Type) (enc : TypeId × Value → H) :
    ReturnsInHanded {} Tryz.checked os 4 .any (Rows.fnExactTallyOfSpec.pre6 enc Tryz.prog Tryz.f4 Rows.fnExactTallyOfRow.domain false) (Rows.fnExactTallyOfSpec.post enc Tryz.prog Tryz.f4 false true false false) := by
  refine returnsInHanded_of_change (C := Tryz.checked) own started (by kernel_rfl) Tryz.func4
    (ChangeSpec.witness6 (enc := enc) (C := Tryz.checked) false ⟨#[], #[.slice none 0 0, .slice none 0 0, .string ⟨#[]⟩, .int .i64 0, .agg #[.int .i64 0, .int .i64 0, .int .i64 0]], []⟩ 8 (by kernel_rfl) (by kernel_rfl) (by kernel_rfl) (by kernel_rfl)) ?_
  intro W base args ds gs before hval0 hW hcnd _
  have hval : ∀ (j : Nat) t v, Tryz.f4.params[j]? = some t → args[j]? = some v → Value.okWide Tryz.prog W .any base t v := hval0
  clear hval0
  have hW' := hW
  obtain ⟨p, q, hA0, hV, rfl, hfz, hnd⟩ := hW
  have hA : DataW.TrodAll enc Tryz.prog W 0 (fun _ => true) true Tryz.f4.params.toList args.toList ds p := hA0
  rw [Tryz.params4] at hA hval
  obtain ⟨v0, vs0, d0, ds0, p0, q0, hargs, rfl, rfl, h0, r0⟩ := trodAll_cons hA
  obtain ⟨v1, vs1, d1, ds1, p1, q1, rfl, rfl, rfl, h1, r1⟩ := trodAll_cons r0
  obtain ⟨v2, vs2, d2, ds2, p2, q2, rfl, rfl, rfl, h2, r2⟩ := trodAll_cons r1
  obtain ⟨v3, vs3, d3, ds3, p3, q3, rfl, rfl, rfl, h3, r3⟩ := trodAll_cons r2
  obtain ⟨v4, vs4, d4, ds4, p4, q4, rfl, rfl, rfl, h4, r4⟩ := trodAll_cons r3
  obtain ⟨rfl, rfl, rfl⟩ := trodAll_nil r4
  obtain rfl : args = #[v0, v1, v2, v3, v4] := by cases args; simp_all
  obtain ⟨rfl, rfl⟩ := trodVars_none hV
  have k0 := h0
  have lt0 : ∀ x ∈ p0, x.block < W.heap.size := by obtain ⟨m, hm⟩ := k0; exact DataW.trod_lt m _ _ _ hm
  have k1 := h1
  have lt1 : ∀ x ∈ p1, x.block < W.heap.size := by obtain ⟨m, hm⟩ := k1; exact DataW.trod_lt m _ _ _ hm
  have k2 := h2
  have lt2 : ∀ x ∈ p2, x.block < W.heap.size := by obtain ⟨m, hm⟩ := k2; exact DataW.trod_lt m _ _ _ hm
  have k3 := h3
  have lt3 : ∀ x ∈ p3, x.block < W.heap.size := by obtain ⟨m, hm⟩ := k3; exact DataW.trod_lt m _ _ _ hm
  have k4 := h4
  have lt4 : ∀ x ∈ p4, x.block < W.heap.size := by obtain ⟨m, hm⟩ := k4; exact DataW.trod_lt m _ _ _ hm
  obtain ⟨a0, len0, cap0, rfl⟩ := okWide_slice Tryz.underlying22 (hval 0 22 v0 rfl rfl)
  obtain ⟨z0, w0⟩ : ∃ zs, IsPds W a0 len0 cap0 zs := by
    obtain ⟨fuel, hf⟩ := h0
    exact open_pds Tryz.underlying22 Tryz.underlying50 (by kernel_rfl) (by kernel_rfl) ⟨rfl, rfl, rfl, rfl⟩ Tryz.underlying9 Tryz.underlying3 Tryz.underlying4 hf
  obtain ⟨a1, len1, cap1, rfl⟩ := okWide_slice Tryz.underlying23 (hval 1 23 v1 rfl rfl)
  obtain ⟨z1, w1⟩ : ∃ zs, IsSrs W a1 len1 cap1 zs := by
    obtain ⟨fuel, hf⟩ := h1
    exact open_srs Tryz.underlying23 Tryz.underlying54 (by kernel_rfl) (by kernel_rfl) ⟨rfl, rfl, rfl⟩ Tryz.underlying9 Tryz.underlying52 Tryz.underlying111 (by kernel_rfl) (by kernel_rfl) ⟨rfl, rfl⟩ Tryz.underlying3 hf
  obtain ⟨s2, rfl, rfl, rfl, w2⟩ := open_string Tryz.underlying9 (hval 2 9 v2 rfl rfl) h2
  obtain ⟨a3, rfl, rfl, rfl, w3⟩ := open_int Tryz.underlying3 (hval 3 3 v3 rfl rfl) h3
  obtain ⟨c0_4, c1_4, c2_4, y0_4, y1_4, y2_4, m_4, rfl, rfl, rfl, g0_4, g1_4, g2_4⟩ := open_agg3 Tryz.underlying25 (by kernel_rfl) (by kernel_rfl) (hval 4 25 v4 rfl rfl) h4
  obtain ⟨p4, e0_4, rfl, u0_4⟩ := DataW.trod_int Tryz.underlying3 g0_4
  obtain ⟨q4, e1_4, rfl, u1_4⟩ := DataW.trod_int Tryz.underlying3 g1_4
  obtain ⟨v4, e2_4, rfl, u2_4⟩ := DataW.trod_int Tryz.underlying3 g2_4
  simp at e0_4 e1_4 e2_4
  subst e0_4 e1_4 e2_4
  have w4 : Rl.wf ⟨p4, q4, v4⟩ := ⟨bounds_i64 u0_4, bounds_i64 u1_4, bounds_i64 u2_4⟩
  clear hA0
  refine (walk a0 len0 cap0 z0 a1 len1 cap1 z1 s2 a3 ⟨p4, q4, v4⟩ W w0 w1 w2 w3 w4).mono fun e W' ⟨he, bel⟩ => ?_
  subst he
  exact ⟨_, rfl, _, _, _, [], _, [], hW', trodAll_mk1 (shut_bool Tryz.underlying4 _), (trodAll_cons_mk (Below.trod laidOut (by kernel_rfl) (of_decide_eq_true (by kernel_rfl)) k0 bel lt0) (trodAll_cons_mk (Below.trod laidOut (by kernel_rfl) (of_decide_eq_true (by kernel_rfl)) k1 bel lt1) (trodAll_cons_mk (shut_string Tryz.underlying9 w2) (trodAll_cons_mk (shut_int Tryz.underlying3 w3) (trodAll_cons_mk (Below.trod laidOut (by kernel_rfl) (of_decide_eq_true (by kernel_rfl)) k4 bel lt4) trodAll_mk0))))), rfl, bel.frame _, fun h => by cases h⟩

theorem over : Rows.fnExactTallyOfRow.holds Tryz.pinned (OpenSpec.ofChange Rows.fnExactTallyOfSpec) :=
  OpenClaim.holds_of_wide 4 Tryz.f4 rfl rfl rfl rfl rfl rfl rfl ⟨rfl, rfl, rfl, rfl, rfl⟩ rfl rfl rfl rfl rfl (by kernel_rfl) Tryz.func4 (by kernel_rfl)
    (of_decide_eq_true (by kernel_rfl)) (by unfold Func.isWrapper; first | (rw [if_pos (by decide +kernel)]; kernel_rfl) | (rw [if_neg (by decide +kernel)]; exact ⟨rfl, rfl⟩))
    (fun os started H enc _ => lifted os started H enc)

/-- THE STATEMENT. -/
theorem proved : Rows.FnExactTallyOfSaid := over
end Go.Proofs.YtihhbgihejjmeaaGreat.fnExactTallyOf
