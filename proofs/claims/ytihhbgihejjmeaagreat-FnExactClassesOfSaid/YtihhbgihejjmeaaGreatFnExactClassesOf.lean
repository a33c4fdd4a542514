/- For every input that can be read, the Go function laws.FnExactClassesOf returns true and leaves its arguments as they read: the statement Rows.FnExactClassesOfSaid, without a condition of ours. -/
import Derived.Test.YtihhbgihejjmeaaGreatRows
import Derived.WalkKit
import Derived.ProofKit
import Derived.OpenShut
import Derived.ShutString
import Derived.ChangeOld
import Derived.Below
import Derived.Lib.SmallJoins
import Derived.Test.YtihhbgihejjmeaaGreatC1
import Derived.Test.YtihhbgihejjmeaaGreatC2
import Derived.Test.YtihhbgihejjmeaaGreatSmps
import Derived.Test.YtihhbgihejjmeaaGreatMem
import Derived.Test.YtihhbgihejjmeaaGreatInts
import Derived.Test.YtihhbgihejjmeaaGreatSer
import Derived.Test.YtihhbgihejjmeaaGreatSer2
import Derived.Test.YtihhbgihejjmeaaGreatKey
import Derived.Test.YtihhbgihejjmeaaGreatSto
import Derived.Test.YtihhbgihejjmeaaGreatStoL
import Derived.Test.YtihhbgihejjmeaaGreatLat
import Derived.Test.YtihhbgihejjmeaaGreatPd
import Derived.Test.YtihhbgihejjmeaaGreatPds
import Derived.Test.YtihhbgihejjmeaaGreatMarkS
import Derived.Test.YtihhbgihejjmeaaGreatSofL
import Derived.Test.YtihhbgihejjmeaaGreatMarkP
import Derived.Test.YtihhbgihejjmeaaGreatCls
import Derived.Test.YtihhbgihejjmeaaGreatClss
import Derived.Test.YtihhbgihejjmeaaGreatOwnI
import Derived.Test.YtihhbgihejjmeaaGreatSzT
namespace Go.Proofs.YtihhbgihejjmeaaGreat.fnExactClassesOf
open Go.ChangeShapes Go.WideShapes Go.ChangeAt Go.RowKit Go.Joins
open Go.ChangeMaps (open_string shut_string)
open Go.Proofs.YtihhbgihejjmeaaGreat.C1
open Go.Proofs.YtihhbgihejjmeaaGreat.C2
open Go.Proofs.YtihhbgihejjmeaaGreat.Smps
open Go.Proofs.YtihhbgihejjmeaaGreat.Mem
open Go.Proofs.YtihhbgihejjmeaaGreat.Ints
open Go.Proofs.YtihhbgihejjmeaaGreat.Ser
open Go.Proofs.YtihhbgihejjmeaaGreat.Ser2
open Go.Proofs.YtihhbgihejjmeaaGreat.Key
open Go.Proofs.YtihhbgihejjmeaaGreat.Sto
open Go.Proofs.YtihhbgihejjmeaaGreat.StoL
open Go.Proofs.YtihhbgihejjmeaaGreat.Lat
open Go.Proofs.YtihhbgihejjmeaaGreat.Pd
open Go.Proofs.YtihhbgihejjmeaaGreat.Pds
open Go.Proofs.YtihhbgihejjmeaaGreat.MarkS
open Go.Proofs.YtihhbgihejjmeaaGreat.SofL
open Go.Proofs.YtihhbgihejjmeaaGreat.MarkP
open Go.Proofs.YtihhbgihejjmeaaGreat.Cls
open Go.Proofs.YtihhbgihejjmeaaGreat.Clss
open Go.Proofs.YtihhbgihejjmeaaGreat.OwnI
open Go.Proofs.YtihhbgihejjmeaaGreat.SzT
set_option linter.unusedVariables false

theorem own : ownKnob Tryz.prog.godebug = none := by kernel_rfl
theorem laidOut : laidOutB Tryz.prog = true := by kernel_rfl
set_option maxHeartbeats 4000000 in
set_option maxRecDepth 100000 in
theorem walk (a0 : Option Addr) (len0 cap0 : Nat) (z0 : List Pd) (a1 : Option Addr) (len1 cap1 : Nat) (z1 : List Sv) (s2 : ByteArray) (a3 : Int) (x4 : Rl) (w : World) (w0 : IsPds w a0 len0 cap0 z0) (w1 : IsSrs w a1 len1 cap1 z1) (w2 : s2.size ≤ maxLen) (w3 : (Lit.int .i64 a3).wf = true) (w4 : x4.wf)  :
    Calls Tryz.prog 3 #[.slice a0 len0 cap0, .slice a1 len1 cap1, .string s2, .int .i64 a3, rlV x4] w fun e w' => e = .returned (.bool true) ∧ Below w.heap.size w w' := by
  obtain ⟨hl0, hcap0, hmax0, hwf0, hP⟩ := w0
  subst hl0
  have hml0 : z0.length ≤ 9223372036854775807 := by unfold maxLen at hmax0; omega
  obtain ⟨hl, hcap, hmax, hwf, hS⟩ := w1
  subst hl
  have hml : z1.length ≤ 9223372036854775807 := by unfold maxLen at hmax; omega
  have HWP := Lib.hid hwf0
  have HW := Lib.hid hwf
  have HPA := Lib.hid hP
  have HSA := Lib.hid hS
  clear hwf hS hwf0 hP
  obtain ⟨cs, hcs⟩ : ∃ cs, classesV z0 (z1.map Sv.s) s2 a3 x4 = cs := ⟨_, rfl⟩
  have HCS := Lib.hid hcs
  have hcl : cs.length ≤ 12 := by
    rw [← hcs]
    unfold classesV
    split
    · rename_i h
      rw [List.length_map]
      simp only [Bool.and_eq_true] at h
      exact ((Ros.podsV_iff z0).1 h.1).1
    · simp
  clear hcs
  by_cases hb1 : 1048576 < s2.size
  · go_enter Tryz.func3, Tryz.ntmps3
    go_wp2
    go_ret
    exact ⟨rfl, box_below _ _ _⟩
  · unfold rlV
    have HR := Lib.hid (cells_new w #[.int .i64 x4.dl, .int .i64 x4.fr, .int .i64 x4.wi] 25)
    have H0 := Lib.hid (box_below w #[.int .i64 x4.dl, .int .i64 x4.fr, .int .i64 x4.wi] 25)
    obtain ⟨W0, hW0⟩ : ∃ W0, w.alloc (.cells #[.int .i64 x4.dl, .int .i64 x4.fr, .int .i64 x4.wi] 25) = W0 := ⟨_, rfl⟩
    have HE : Hid (W0.heap.size = w.heap.size + 1) := by rw [← hW0]; exact Lib.hid (by simp)
    rw [hW0] at HR H0
    have HWE := Lib.hid hW0
    clear hW0
    have HPK : Hid (∀ W, Hid (Below (w.heap.size + 1) W0 W) → Pds W a0 z0) := fun W h => (HPA.out.kept H0.out).kept (by rw [HE.out]; exact h.out)
    have HSK : Hid (∀ W, Hid (Below (w.heap.size + 1) W0 W) → Srs W a1 z1) := fun W h => (HSA.out.kept H0.out).kept (by rw [HE.out]; exact h.out)
    have HT : Hid (∀ W, Hid (Below (w.heap.size + 1) W0 W) → (W.cell? ⟨w.heap.size, 0, none⟩ = some (.int .i64 x4.dl) ∧ W.cell? ⟨w.heap.size, 1, none⟩ = some (.int .i64 x4.fr) ∧ W.cell? ⟨w.heap.size, 2, none⟩ = some (.int .i64 x4.wi))) := fun W h => cells3 (HR.out.kept (by rw [HE.out]; exact h.out))
    have HB0 : Hid (Below (w.heap.size + 1) W0 W0) := Below.refl _ _
    clear HR HPA HSA
    go_enter Tryz.func3, Tryz.ntmps3
    go_wp2_with fail
    rw [HWE.out]
    refine (sz_pods z0 HWP.out _ _ hml0 _ (HPK.out _ HB0)).mono ?_
    rintro e v1 ⟨r1, rfl, hb, hr⟩
    have HB1 := Lib.hid (HB0.out.trans (hb.mono (bsz HE HB0.out)))
    clear hb
    rcases hr with hr | ⟨hr, hr2, hn0, -⟩
    · have HBF := Lib.hid (H0.out.trans (HB1.out.mono (Nat.le_succ _)))
      go_wp2
      go_ret
      exact ⟨rfl, HBF.out⟩
    · go_wp2_with fail
      refine (sz_totalL r1 hr hr2 z1 HW.out _ _ hml _ (HSK.out _ HB1)).mono ?_
      rintro e v2 ⟨r2, rfl, hb, hr⟩
      have HB2 := Lib.hid (HB1.out.trans (hb.mono (bsz HE HB1.out)))
      clear hb
      rcases hr with hr | ⟨hr, hr3, hn, hp, hrem⟩
      · have HBF := Lib.hid (H0.out.trans (HB2.out.mono (Nat.le_succ _)))
        go_wp2
        go_ret
        exact ⟨rfl, HBF.out⟩
      · have HP := Lib.hid hp
        have HREM := Lib.hid hrem
        clear hp hrem
        have HBD : Hid (Below (w.heap.size + 1) W0 v2.drew) := HB2.out.drew
        go_wp2_with fail
        go_region_held3 (fun w' => w'.cell? ⟨w.heap.size, 0, none⟩ = some (.int .i64 x4.dl) ∧ w'.cell? ⟨w.heap.size, 1, none⟩ = some (.int .i64 x4.fr) ∧ w'.cell? ⟨w.heap.size, 2, none⟩ = some (.int .i64 x4.wi))
          (first | exact HT.out _ HB6 | exact HT.out _ HB5 | exact HT.out _ HB4 | exact HT.out _ HB3 | exact HT.out _ HBD)
          (first
            | (go_at_call 8; refine (to_pods z0 _ _ _ (HPK.out _ HBD) hn0).mono ?_; rintro e v3 ⟨g3, rfl, ho, hb⟩; have HI3 := Lib.hid (pds_of ho); have HB3 := Lib.hid (HBD.out.trans (hb.mono (bsz HE HBD.out))); clear hb ho)
            | (go_at_call 9; refine (to_series z1 _ _ _ (HSK.out _ HB3) hn HP.out).mono ?_; rintro e v4 ⟨g4, m4, rfl, hm4, ho4, hg4, hb⟩; have HM4 := Lib.hid hm4; have HJ4 := Lib.hid (srs_of ho4 hg4); have HI4 := Lib.hid (HI3.out.kept hb); have HB4 := Lib.hid (HB3.out.trans (hb.mono (bsz HE HB3.out))); clear ho4 hg4 hb hm4)
            | (go_at_call 10; refine (to_rules x4 _).mono ?_; rintro e v5 ⟨rfl, hb⟩; have HI5 := Lib.hid (HI4.out.kept hb); have HJ5 := Lib.hid (HJ4.out.kept hb); have HB5 := Lib.hid (HB4.out.trans (hb.mono (bsz HE HB4.out))); clear hb)
            | (go_at_call 7; refine (spec_classes2 z0 HWP.out _ _ z1 m4 HM4.out _ _ _ _ _ _ HI5.out hn0 HW.out HP.out HJ5.out hn HCS.out).mono ?_; rintro e v6 ⟨⟨aw, cw, rfl, how⟩, hb⟩; have HOW := Lib.hid (ints_of how); have HB6 := Lib.hid (HB5.out.trans (hb.mono (bsz HE HB5.out))); clear hb how))
        clear HBD HB3 HB4 HB5 HI3 HI4 HI5 HJ4 HJ5 HM4
        go_wp2_with fail
        refine (to_pods z0 _ _ _ (HPK.out _ HB6) hn0).mono ?_
        rintro e v7 ⟨g7, rfl, ho, hb⟩
        have HX7 := Lib.hid ho
        have HD7 := Lib.hid hb
        have HB7 := Lib.hid (HB6.out.trans (hb.mono (bsz HE HB6.out)))
        clear ho hb
        go_wp2_with fail
        refine (to_series z1 _ _ _ (HSK.out _ HB7) hn HP.out).mono ?_
        rintro e v8 ⟨g8, m8, rfl, hm8, ho8, hg8, hb⟩
        have HM8 := Lib.hid hm8
        have HO8 := Lib.hid ho8
        have HG8 := Lib.hid hg8
        have HX8 := Lib.hid (HX7.out.kept hb)
        have HB8 := Lib.hid (HB7.out.trans (hb.mono (bsz HE HB7.out)))
        have HD8 := Lib.hid (HD7.out.trans (hb.mono HD7.out.size))
        have HC8 : Hid (g8 < v8.heap.size ∧ ∀ l ∈ m8, ∀ b o s, l.a = some ⟨b, o, s⟩ → b < v8.heap.size) := ⟨ho8.lt.2, fun l hl b o s e => by have := hg8.own l hl; rw [e] at this; exact this.lt.2⟩
        have HC8' : Hid (v7.heap.size ≤ v8.heap.size) := hb.size
        have HG7 : Hid (g7 < v7.heap.size ∧ v6.heap.size ≤ g7) := ⟨HX7.out.new.2, HX7.out.new.1⟩
        clear hm8 ho8 hg8 hb
        obtain ⟨r0, r1', r2'⟩ := HT.out v8 HB8
        go_wp2_with fail
        clear r0 r1' r2'
        refine (to_rules x4 _).mono ?_
        rintro e v9 ⟨rfl, hb⟩
        have HB9 := Lib.hid (HB8.out.trans (hb.mono (bsz HE HB8.out)))
        have HD9 := Lib.hid (HD8.out.trans (hb.mono HD8.out.size))
        have HX9 := Lib.hid (HX8.out.kept hb)
        have HO9 := Lib.hid (HO8.out.kept hb)
        have HG9 := Lib.hid (HG8.out.kept hb)
        have HE9 : Hid (v8.heap.size ≤ v9.heap.size) := hb.size
        clear hb
        go_wp2_with fail
        refine (impl_classes2 z0 HWP.out _ _ z1 m8 HM8.out _ _ _ _ _ _ (pds_of HX9.out) hn0 HW.out HP.out (srs_of HO9.out HG9.out) hn HCS.out).mono ?_
        rintro e v10 ⟨⟨ag, cg, rfl, hog⟩, hb⟩
        have HGG10 := Lib.hid (hog.mono HE9.out)
        have HB10 := Lib.hid (HB9.out.trans (hb.mono (bsz HE HB9.out)))
        have HD10 := Lib.hid (HD9.out.trans (hb.mono HD9.out.size))
        have HX10 := Lib.hid (HX9.out.kept hb)
        have HO10 := Lib.hid (HO9.out.kept hb)
        have HG10 := Lib.hid (HG9.out.kept hb)
        have HZ10 : Hid (v8.heap.size ≤ v10.heap.size) := Nat.le_trans HE9.out hb.size
        clear hb hog
        go_wp2_with fail
        refine (eq_ints cs _ _ _ _ _ (ints_of HGG10.out) (HOW.out.kept HD10.out) (by omega)).mono ?_
        rintro e v11 ⟨rfl, hb⟩
        have HB11 := Lib.hid (HB10.out.trans (hb.mono (bsz HE HB10.out)))
        have HD11 := Lib.hid (HD10.out.trans (hb.mono HD10.out.size))
        have HX11 := Lib.hid (HX10.out.kept hb)
        have HO11 := Lib.hid (HO10.out.kept hb)
        have HG11 := Lib.hid (HG10.out.kept hb)
        have HGG11 := Lib.hid (HGG10.out.kept hb)
        have HZ11 : Hid (v8.heap.size ≤ v11.heap.size) := Nat.le_trans HZ10.out hb.size
        clear hb
        go_wp2_with fail
        refine (to_pods z0 _ _ _ (HPK.out _ HB11) hn0).mono ?_
        rintro e v12 ⟨g12, rfl, ho, hb⟩
        have HB12 := Lib.hid (HB11.out.trans (hb.mono (bsz HE HB11.out)))
        have HD12 := Lib.hid (HD11.out.trans (hb.mono HD11.out.size))
        have HX12 := Lib.hid (HX11.out.kept hb)
        have HO12 := Lib.hid (HO11.out.kept hb)
        have HG12 := Lib.hid (HG11.out.kept hb)
        have HGG12 := Lib.hid (HGG11.out.kept hb)
        have HZ12 : Hid (v8.heap.size ≤ v12.heap.size) := Nat.le_trans HZ11.out hb.size
        have HI12 := Lib.hid (pds_of ho)
        clear ho
        clear hb
        go_wp2_with fail
        refine (eq_pods z0 _ _ _ _ _ (pds_of HX12.out) HI12.out hn0).mono ?_
        rintro e v13 ⟨rfl, hb⟩
        have HB13 := Lib.hid (HB12.out.trans (hb.mono (bsz HE HB12.out)))
        have HD13 := Lib.hid (HD12.out.trans (hb.mono HD12.out.size))
        have HX13 := Lib.hid (HX12.out.kept hb)
        have HO13 := Lib.hid (HO12.out.kept hb)
        have HG13 := Lib.hid (HG12.out.kept hb)
        have HGG13 := Lib.hid (HGG12.out.kept hb)
        have HZ13 : Hid (v8.heap.size ≤ v13.heap.size) := Nat.le_trans HZ12.out hb.size
        clear hb
        go_wp2_with fail
        refine (to_series z1 _ _ _ (HSK.out _ HB13) hn HP.out).mono ?_
        rintro e v14 ⟨g14, m14, rfl, hm, ho, hg, hb⟩
        have HB14 := Lib.hid (HB13.out.trans (hb.mono (bsz HE HB13.out)))
        have HD14 := Lib.hid (HD13.out.trans (hb.mono HD13.out.size))
        have HX14 := Lib.hid (HX13.out.kept hb)
        have HO14 := Lib.hid (HO13.out.kept hb)
        have HG14 := Lib.hid (HG13.out.kept hb)
        have HGG14 := Lib.hid (HGG13.out.kept hb)
        have HZ14 : Hid (v8.heap.size ≤ v14.heap.size) := Nat.le_trans HZ13.out hb.size
        have HM14 := Lib.hid hm
        have HJ14 := Lib.hid (srs_of ho hg)
        clear hm ho hg
        clear hb
        go_wp2_with fail
        refine (eq_series2 z1 m8 m14 HM8.out HM14.out _ _ _ _ _ (srs_of HO14.out HG14.out) HJ14.out hn HP.out).mono ?_
        rintro e v15 ⟨rfl, hb⟩
        have HB15 := Lib.hid (HB14.out.trans (hb.mono (bsz HE HB14.out)))
        have HD15 := Lib.hid (HD14.out.trans (hb.mono HD14.out.size))
        have HX15 := Lib.hid (HX14.out.kept hb)
        have HO15 := Lib.hid (HO14.out.kept hb)
        have HG15 := Lib.hid (HG14.out.kept hb)
        have HGG15 := Lib.hid (HGG14.out.kept hb)
        have HZ15 : Hid (v8.heap.size ≤ v15.heap.size) := Nat.le_trans HZ14.out hb.size
        clear hb
        go_wp2_with fail
        refine (mark_pods z0.length g7 _ 1 (by omega) (by omega) _ (by rw [flatP_len]; omega) _ (cells_own HX15.out rfl)).mono ?_
        rintro e u1 ⟨rfl, ho1⟩
        have hwi := Within.of_only ho1 HG7.out.2 HG7.out.1
        have HBm := Lib.hid (hwi.below HB15.out (by have := bsz HE HB6.out; omega) (bsz HE HB15.out))
        have HDm := Lib.hid (hwi.below HD15.out (Nat.le_refl _) HD15.out.size)
        have HOm := Lib.hid (OwnR_within HO15.out hwi)
        have HGm := Lib.hid (Good_within HG15.out hwi)
        have hw2 : Within v6.heap.size v8.heap.size v15 u1 := Within.of_only ho1 HG7.out.2 (Nat.lt_of_lt_of_le HG7.out.1 HC8'.out)
        have HGGm := Lib.hid (OwnI_within HGG15.out hw2)
        have HZm : Hid (v8.heap.size ≤ u1.heap.size) := Nat.le_trans HZ15.out ho1.size
        clear ho1 hwi hw2
        obtain ⟨k1, hk1⟩ : ∃ k1 : Nat, 1 + 4 * z0.length = k1 := ⟨_, rfl⟩
        rw [hk1]
        have hk0 : 0 < k1 := by omega
        have hk5 : k1 ≤ 50000000 := by omega
        clear hk1
        go_wp2_with fail
        refine (mark_series4 z1 m8 HM8.out g8 v7.heap.size v8.heap.size k1 hk0 hk5 HREM.out hn _ HOm.out HGm.out HC8.out.1 HC8.out.2 (Nat.le_trans HC8'.out HZm.out)).mono ?_
        rintro e u2 ⟨mk, rfl, hwi⟩
        have hmk0 : decide ((mk : Int) < 0) = false := decide_eq_false (by omega)
        have HBn := Lib.hid (hwi.below HBm.out (by have := bsz HE HB7.out; omega) (bsz HE HBm.out))
        have HDn := Lib.hid (hwi.below HDm.out HD7.out.size HDm.out.size)
        have HGGn := Lib.hid (OwnI_within HGGm.out hwi)
        clear hwi HBm HDm HOm HGm HGGm HZm
        go_wp2_with fail
        refine (eq_ints cs _ _ _ _ _ (ints_of HGGn.out) (HOW.out.kept HDn.out) (by omega)).mono ?_
        rintro e u3 ⟨rfl, hb⟩
        have HB21 := Lib.hid (HBn.out.trans (hb.mono (bsz HE HBn.out)))
        have HD21 := Lib.hid (HDn.out.trans (hb.mono HDn.out.size))
        have HGG21 := Lib.hid (HGGn.out.kept hb)
        clear hb HBn HDn HGGn
        go_wp2_with fail
        refine (mark_ints cs ag cg v8.heap.size 1 (by omega) _ HGG21.out).mono ?_
        rintro e u4 ⟨rfl, ho, ha⟩
        have HB22 := Lib.hid (onlyI_below ha HB21.out (fun c o s e => Nat.le_trans (bsz HE HB8.out) (base_of HGG21.out c o s e)) (bsz HE HB21.out))
        have HD22 := Lib.hid (onlyI_below ha HD21.out (fun c o s e => Nat.le_trans HD8.out.size (base_of HGG21.out c o s e)) HD21.out.size)
        have HGG22 := Lib.hid ho
        clear ho ha
        obtain ⟨q, hq⟩ : ∃ q : Nat, 1 + cs.length = q := ⟨_, rfl⟩
        have HQ := Lib.hid hq
        rw [hq]
        have hq0 : decide ((q : Int) < 0) = false := decide_eq_false (by omega)
        have hqn : ((q : Int) != (q : Int)) = false := by simp
        clear hq
        go_wp2_with fail
        refine (held_ints cs.length ag cg v8.heap.size 1 (by omega) _ HGG22.out).mono ?_
        rw [HQ.out]
        rintro e u5 ⟨rfl, hb⟩
        have HB23 := Lib.hid (HB22.out.trans (hb.mono (bsz HE HB22.out)))
        have HD23 := Lib.hid (HD22.out.trans (hb.mono HD22.out.size))
        have HGG23 := Lib.hid (HGG22.out.kept hb)
        clear hb
        have HBD : Hid (Below (w.heap.size + 1) W0 u5.drew) := HB23.out.drew
        have HDD : Hid (Below v6.heap.size v6 u5.drew) := HD23.out.drew
        have HGD : Hid (OwnI u5.drew v8.heap.size (.slice ag cs.length cg) (mkI 1 cs.length)) := HGG23
        go_wp2_with fail
        go_region_held3 (fun w' => w'.cell? ⟨w.heap.size, 0, none⟩ = some (.int .i64 x4.dl) ∧ w'.cell? ⟨w.heap.size, 1, none⟩ = some (.int .i64 x4.fr) ∧ w'.cell? ⟨w.heap.size, 2, none⟩ = some (.int .i64 x4.wi))
          (first | exact HT.out _ HB27 | exact HT.out _ HB26 | exact HT.out _ HB25 | exact HT.out _ HB24 | exact HT.out _ HBD)
          (first
            | (go_at_call 8; refine (to_pods z0 _ _ _ (HPK.out _ HBD) hn0).mono ?_; rintro e y3 ⟨g24, rfl, ho, hb⟩; have HI3 := Lib.hid (pds_of ho); have HB24 := Lib.hid (HBD.out.trans (hb.mono (bsz HE HBD.out))); have HD24 := Lib.hid (HDD.out.trans (hb.mono HDD.out.size)); have HGG24 := Lib.hid (HGD.out.kept hb); clear hb ho)
            | (go_at_call 9; refine (to_series z1 _ _ _ (HSK.out _ HB24) hn HP.out).mono ?_; rintro e y4 ⟨g25, m25, rfl, hm4, ho4, hg4, hb⟩; have HM25 := Lib.hid hm4; have HJ4 := Lib.hid (srs_of ho4 hg4); have HI4 := Lib.hid (HI3.out.kept hb); have HB25 := Lib.hid (HB24.out.trans (hb.mono (bsz HE HB24.out))); have HD25 := Lib.hid (HD24.out.trans (hb.mono HD24.out.size)); have HGG25 := Lib.hid (HGG24.out.kept hb); clear ho4 hg4 hb hm4)
            | (go_at_call 10; refine (to_rules x4 _).mono ?_; rintro e y5 ⟨rfl, hb⟩; have HI5 := Lib.hid (HI4.out.kept hb); have HJ5 := Lib.hid (HJ4.out.kept hb); have HB26 := Lib.hid (HB25.out.trans (hb.mono (bsz HE HB25.out))); have HD26 := Lib.hid (HD25.out.trans (hb.mono HD25.out.size)); have HGG26 := Lib.hid (HGG25.out.kept hb); clear hb)
            | (go_at_call 11; refine (impl_classes2 z0 HWP.out _ _ z1 m25 HM25.out _ _ _ _ _ _ HI5.out hn0 HW.out HP.out HJ5.out hn HCS.out).mono ?_; rintro e y6 ⟨⟨ah, ch, rfl, hoh⟩, hb⟩; have HOH := Lib.hid (ints_of hoh); have HB27 := Lib.hid (HB26.out.trans (hb.mono (bsz HE HB26.out))); have HD27 := Lib.hid (HD26.out.trans (hb.mono HD26.out.size)); have HGG27 := Lib.hid (HGG26.out.kept hb); clear hb hoh))
        go_wp2_with fail
        refine (eq_ints cs _ _ _ _ _ HOH.out (HOW.out.kept HD27.out) (by omega)).mono ?_
        rintro e y7 ⟨rfl, hb⟩
        have HB28 := Lib.hid (HB27.out.trans (hb.mono (bsz HE HB27.out)))
        have HGG28 := Lib.hid (HGG27.out.kept hb)
        clear hb
        go_wp2_with fail
        refine (held_ints cs.length ag cg v8.heap.size 1 (by omega) _ HGG28.out).mono ?_
        rw [HQ.out]
        rintro e y8 ⟨rfl, hb⟩
        have HB29 := Lib.hid (HB28.out.trans (hb.mono (bsz HE HB28.out)))
        have HBF := Lib.hid (H0.out.trans (HB29.out.mono (Nat.le_succ _)))
        clear hb
        go_wp2
        go_ret
        exact ⟨rfl, HBF.out⟩

set_option maxRecDepth 100000 in
theorem lifted (os : Os) (started : os.Started) (H : Type) (enc : TypeId × Value → H) :
    ReturnsInHanded {} Tryz.checked os 3 .any (Rows.fnExactClassesOfSpec.pre6 enc Tryz.prog Tryz.f3 Rows.fnExactClassesOfRow.domain false) (Rows.fnExactClassesOfSpec.post enc Tryz.prog Tryz.f3 false true false false) := by
  refine returnsInHanded_of_change (C := Tryz.checked) own started (by kernel_rfl) Tryz.func3
    (ChangeSpec.witness6 (enc := enc) (C := Tryz.checked) false ⟨#[], #[.slice none 0 0, .slice none 0 0, .string ⟨#[]⟩, .int .i64 0, .agg #[.int .i64 0, .int .i64 0, .int .i64 0]], []⟩ 8 (by kernel_rfl) (by kernel_rfl) (by kernel_rfl) (by kernel_rfl)) ?_
  intro W base args ds gs before hval0 hW hcnd _
  have hval : ∀ (j : Nat) t v, Tryz.f3.params[j]? = some t → args[j]? = some v → Value.okWide Tryz.prog W .any base t v := hval0
  clear hval0
  have hW' := hW
  obtain ⟨p, q, hA0, hV, rfl, hfz, hnd⟩ := hW
  have hA : DataW.TrodAll enc Tryz.prog W 0 (fun _ => true) true Tryz.f3.params.toList args.toList ds p := hA0
  rw [Tryz.params3] at hA hval
  obtain ⟨v0, vs0, d0, ds0, p0, q0, hargs, rfl, rfl, h0, r0⟩ := trodAll_cons hA
  obtain ⟨v1, vs1, d1, ds1, p1, q1, rfl, rfl, rfl, h1, r1⟩ := trodAll_cons r0
  obtain ⟨v2, vs2, d2, ds2, p2, q2, rfl, rfl, rfl, h2, r2⟩ := trodAll_cons r1
  obtain ⟨v3, vs3, d3, ds3, p3, q3, rfl, rfl, rfl, h3, r3⟩ := trodAll_cons r2
  obtain ⟨v4, vs4, d4, ds4, p4, q4, rfl, rfl, rfl, h4, r4⟩ := trodAll_cons r3
  obtain ⟨rfl, rfl, rfl⟩ := trodAll_nil r4
  obtain rfl : args = #[v0, v1, v2, v3, v4] := by cases args; simp_all
  obtain ⟨rfl, rfl⟩ := trodVars_none hV
  have k0 := h0
  have lt0 : ∀ x ∈ p0, x.block < W.heap.size := by obtain ⟨m, hm⟩ := k0; exact DataW.trod_lt m _ _ _ hm
  have k1 := h1
  have lt1 : ∀ x ∈ p1, x.block < W.heap.size := by obtain ⟨m, hm⟩ := k1; exact DataW.trod_lt m _ _ _ hm
  have k2 := h2
  have lt2 : ∀ x ∈ p2, x.block < W.heap.size := by obtain ⟨m, hm⟩ := k2; exact DataW.trod_lt m _ _ _ hm
  have k3 := h3
  have lt3 : ∀ x ∈ p3, x.block < W.heap.size := by obtain ⟨m, hm⟩ := k3; exact DataW.trod_lt m _ _ _ hm
  have k4 := h4
  have lt4 : ∀ x ∈ p4, x.block < W.heap.size := by obtain ⟨m, hm⟩ := k4; exact DataW.trod_lt m _ _ _ hm
  obtain ⟨a0, len0, cap0, rfl⟩ := okWide_slice Tryz.underlying22 (hval 0 22 v0 rfl rfl)
  obtain ⟨z0, w0⟩ : ∃ zs, IsPds W a0 len0 cap0 zs := by
    obtain ⟨fuel, hf⟩ := h0
    exact open_pds Tryz.underlying22 Tryz.underlying50 (by kernel_rfl) (by kernel_rfl) ⟨rfl, rfl, rfl, rfl⟩ Tryz.underlying9 Tryz.underlying3 Tryz.underlying4 hf
  obtain ⟨a1, len1, cap1, rfl⟩ := okWide_slice Tryz.underlying23 (hval 1 23 v1 rfl rfl)
  obtain ⟨z1, w1⟩ : ∃ zs, IsSrs W a1 len1 cap1 zs := by
    obtain ⟨fuel, hf⟩ := h1
    exact open_srs Tryz.underlying23 Tryz.underlying54 (by kernel_rfl) (by kernel_rfl) ⟨rfl, rfl, rfl⟩ Tryz.underlying9 Tryz.underlying52 Tryz.underlying111 (by kernel_rfl) (by kernel_rfl) ⟨rfl, rfl⟩ Tryz.underlying3 hf
  obtain ⟨s2, rfl, rfl, rfl, w2⟩ := open_string Tryz.underlying9 (hval 2 9 v2 rfl rfl) h2
  obtain ⟨a3, rfl, rfl, rfl, w3⟩ := open_int Tryz.underlying3 (hval 3 3 v3 rfl rfl) h3
  obtain ⟨c0_4, c1_4, c2_4, y0_4, y1_4, y2_4, m_4, rfl, rfl, rfl, g0_4, g1_4, g2_4⟩ := open_agg3 Tryz.underlying25 (by kernel_rfl) (by kernel_rfl) (hval 4 25 v4 rfl rfl) h4
  obtain ⟨p4, e0_4, rfl, u0_4⟩ := DataW.trod_int Tryz.underlying3 g0_4
  obtain ⟨q4, e1_4, rfl, u1_4⟩ := DataW.trod_int Tryz.underlying3 g1_4
  obtain ⟨v4, e2_4, rfl, u2_4⟩ := DataW.trod_int Tryz.underlying3 g2_4
  simp at e0_4 e1_4 e2_4
  subst e0_4 e1_4 e2_4
  have w4 : Rl.wf ⟨p4, q4, v4⟩ := ⟨bounds_i64 u0_4, bounds_i64 u1_4, bounds_i64 u2_4⟩
  clear hA0
  refine (walk a0 len0 cap0 z0 a1 len1 cap1 z1 s2 a3 ⟨p4, q4, v4⟩ W w0 w1 w2 w3 w4).mono fun e W' ⟨he, bel⟩ => ?_
  subst he
  exact ⟨_, rfl, _, _, _, [], _, [], hW', trodAll_mk1 (shut_bool Tryz.underlying4 _), (trodAll_cons_mk (Below.trod laidOut (by kernel_rfl) (of_decide_eq_true (by kernel_rfl)) k0 bel lt0) (trodAll_cons_mk (Below.trod laidOut (by kernel_rfl) (of_decide_eq_true (by kernel_rfl)) k1 bel lt1) (trodAll_cons_mk (shut_string Tryz.underlying9 w2) (trodAll_cons_mk (shut_int Tryz.underlying3 w3) (trodAll_cons_mk (Below.trod laidOut (by kernel_rfl) (of_decide_eq_true (by kernel_rfl)) k4 bel lt4) trodAll_mk0))))), rfl, bel.frame _, fun h => by cases h⟩

theorem over : Rows.fnExactClassesOfRow.holds Tryz.pinned (OpenSpec.ofChange Rows.fnExactClassesOfSpec) :=
  OpenClaim.holds_of_wide 3 Tryz.f3 rfl rfl rfl rfl rfl rfl rfl ⟨rfl, rfl, rfl, rfl, rfl⟩ rfl rfl rfl rfl rfl (by kernel_rfl) Tryz.func3 (by kernel_rfl)
    (of_decide_eq_true (by kernel_rfl)) (by unfold Func.isWrapper; first | (rw [if_pos (by decide +kernel)]; kernel_rfl) | (rw [if_neg (by decide +kernel)]; exact ⟨rfl, rfl⟩))
    (fun os started H enc _ => lifted os started H enc)

/-- THE STATEMENT. -/
theorem proved : Rows.FnExactClassesOfSaid := over
end Go.Proofs.YtihhbgihejjmeaaGreat.fnExactClassesOf
