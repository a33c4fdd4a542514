/- For every input that can be read, the Go function laws.FnExactPutSample returns true and leaves its arguments as they read: the statement Rows.FnExactPutSampleSaid, without a condition of ours. -/
import Derived.Test.YtimpajhgplkpmaaRows
import Derived.WalkKit
import Derived.ProofKit
import Derived.OpenShut
import Derived.ShutString
import Derived.ChangeOld
import Derived.Below
import Derived.Lib.SmallJoins
import Derived.Test.YtimpajhgplkpmaaC1
import Derived.Test.YtimpajhgplkpmaaC2
import Derived.Test.YtimpajhgplkpmaaSmps
import Derived.Test.YtimpajhgplkpmaaMem
import Derived.Test.YtimpajhgplkpmaaSer
import Derived.Test.YtimpajhgplkpmaaSer2
import Derived.Test.YtimpajhgplkpmaaKey
import Derived.Test.YtimpajhgplkpmaaSto
import Derived.Test.YtimpajhgplkpmaaStoL
import Derived.Test.YtimpajhgplkpmaaFind
import Derived.Test.YtimpajhgplkpmaaSof
import Derived.Test.YtimpajhgplkpmaaMarkS
import Derived.Test.YtimpajhgplkpmaaSofL
import Derived.Test.YtimpajhgplkpmaaMarkT
import Derived.Test.YtimpajhgplkpmaaHeld
import Derived.Test.YtimpajhgplkpmaaCopyI
import Derived.Test.YtimpajhgplkpmaaCopyS
import Derived.Test.YtimpajhgplkpmaaItems
import Derived.Test.YtimpajhgplkpmaaPutD
import Derived.Test.YtimpajhgplkpmaaPutM
import Derived.Test.YtimpajhgplkpmaaPutS
import Derived.Test.YtimpajhgplkpmaaPutI
import Derived.Test.YtimpajhgplkpmaaPutL
namespace Go.Proofs.Ytimpajhgplkpmaa.fnExactPutSample
open Go.ChangeShapes Go.WideShapes Go.ChangeAt Go.RowKit Go.Joins
open Go.ChangeMaps (open_string shut_string)
open Go.Proofs.Ytimpajhgplkpmaa.C1
open Go.Proofs.Ytimpajhgplkpmaa.C2
open Go.Proofs.Ytimpajhgplkpmaa.Smps
open Go.Proofs.Ytimpajhgplkpmaa.Mem
open Go.Proofs.Ytimpajhgplkpmaa.Ser
open Go.Proofs.Ytimpajhgplkpmaa.Ser2
open Go.Proofs.Ytimpajhgplkpmaa.Key
open Go.Proofs.Ytimpajhgplkpmaa.Sto
open Go.Proofs.Ytimpajhgplkpmaa.StoL
open Go.Proofs.Ytimpajhgplkpmaa.Find
open Go.Proofs.Ytimpajhgplkpmaa.Sof
open Go.Proofs.Ytimpajhgplkpmaa.MarkS
open Go.Proofs.Ytimpajhgplkpmaa.SofL
open Go.Proofs.Ytimpajhgplkpmaa.MarkT
open Go.Proofs.Ytimpajhgplkpmaa.Held
open Go.Proofs.Ytimpajhgplkpmaa.CopyI
open Go.Proofs.Ytimpajhgplkpmaa.CopyS
open Go.Proofs.Ytimpajhgplkpmaa.Items
open Go.Proofs.Ytimpajhgplkpmaa.PutD
open Go.Proofs.Ytimpajhgplkpmaa.PutM
open Go.Proofs.Ytimpajhgplkpmaa.PutS
open Go.Proofs.Ytimpajhgplkpmaa.PutI
open Go.Proofs.Ytimpajhgplkpmaa.PutL
set_option linter.unusedVariables false

theorem own : ownKnob Try.prog.godebug = none := by kernel_rfl
theorem laidOut : laidOutB Try.prog = true := by kernel_rfl
set_option maxHeartbeats 4000000 in
set_option maxRecDepth 100000 in
theorem walk (a0 : Option Addr) (len0 cap0 : Nat) (z0 : List Sv) (x1 : Smp) (w : World) (w0 : IsSrs w a0 len0 cap0 z0) (w1 : x1.wf)  :
    Calls Try.prog 6 #[.slice a0 len0 cap0, smpV x1] w fun e w' => e = .returned (.bool true) ∧ Below w.heap.size w w' := by
  obtain ⟨hl, hcap, hmax, hwf, hS⟩ := w0
  subst hl
  have hml : z0.length ≤ 9223372036854775807 := by unfold maxLen at hmax; omega
  have HW := Lib.hid hwf
  have HSA := Lib.hid hS
  have HW1 := Lib.hid w1
  clear hwf hS
  have hts := fun W => to_sample x1 W
  have HR := Lib.hid (Ser2.cells_new w #[.string x1.pod, .string x1.met, .int .i64 x1.val, .int .i64 x1.tick] 41)
  have H0 := Lib.hid (box_below w #[.string x1.pod, .string x1.met, .int .i64 x1.val, .int .i64 x1.tick] 41)
  obtain ⟨W0, hW0⟩ : ∃ W0, w.alloc (.cells #[.string x1.pod, .string x1.met, .int .i64 x1.val, .int .i64 x1.tick] 41) = W0 := ⟨_, rfl⟩
  have HE : Hid (W0.heap.size = w.heap.size + 1) := by rw [← hW0]; exact Lib.hid (by simp)
  rw [hW0] at HR H0
  have HWE := Lib.hid hW0
  clear hW0
  have HSK : Hid (∀ W, Hid (Below W0.heap.size W0 W) → Srs W a0 z0) := fun W h => (HSA.out.kept H0.out).kept h.out
  have HT : Hid (∀ W, Hid (Below W0.heap.size W0 W) → (W.cell? ⟨w.heap.size, 0, none⟩ = some (.string x1.pod) ∧ W.cell? ⟨w.heap.size, 1, none⟩ = some (.string x1.met) ∧ W.cell? ⟨w.heap.size, 2, none⟩ = some (.int .i64 x1.val) ∧ W.cell? ⟨w.heap.size, 3, none⟩ = some (.int .i64 x1.tick))) := fun W h => PutI.cells4 (HR.out.kept h.out)
  have HF0 : Hid (∀ W, Hid (Below W0.heap.size W0 W) → Hid (Below w.heap.size w W)) := fun W h => H0.out.trans (h.out.mono H0.out.size)
  have HB0 : Hid (Below W0.heap.size W0 W0) := Below.refl _ _
  have hspec := fun (ms : List Sv) (hs : ms.map Sv.s = z0.map Sv.s) a cap W h hm hp => spec_put2 z0 ms hs HW.out x1 HW1.out a cap W h hm hp
  have himpl := fun (ms : List Sv) (hs : ms.map Sv.s = z0.map Sv.s) hpl g cap B zs c hz W ho hg hm => impl_put3 z0 ms hs HW.out hpl g cap B x1 HW1.out zs c hz W ho hg hm
  have hsz := fun left h0 h1 W => sz_sample x1 HW1.out left h0 h1 W
  unfold smpV at hspec himpl hts hsz ⊢
  have HSP := Lib.hid hspec
  have HIM := Lib.hid himpl
  have HTS := Lib.hid hts
  have HSZ := Lib.hid hsz
  clear HR HSA hspec himpl hts hsz w1
  go_enter Try.func6, Try.ntmps6
  go_wp2_with fail
  rw [HWE.out]
  refine (sz_total z0 HW.out _ _ hml _ (HSK.out _ HB0)).mono ?_
  rintro e u1 ⟨r, rfl, hb1, hr⟩
  have HB1 := Lib.hid (HB0.out.trans (hb1.mono HB0.out.size))
  have HF1 := Lib.hid (HF0.out _ HB1).out
  clear hb1
  rcases hr with hr | ⟨hr, hr2, hn, hp, hrem⟩
  · go_wp2
    go_ret
    exact ⟨rfl, HF1.out⟩
  · have HP := Lib.hid hp
    have HREM := Lib.hid hrem
    have HRB := Lib.hid (And.intro hr hr2)
    clear hp hrem
    obtain ⟨t0, t1, t2, t3⟩ := HT.out _ HB1
    obtain ⟨L, hL⟩ : ∃ L : Int, (if r < x1.pod.size + x1.met.size then -1 else r - (x1.pod.size + x1.met.size) : Int) = L := ⟨_, rfl⟩
    have HLB : Hid (L < 0 ∨ 0 ≤ L) := Lib.hid (by omega)
    have hsz1 := HSZ.out r hr hr2
    rw [hL] at hsz1
    have HSZ1 := Lib.hid hsz1
    clear hsz1 hL HSZ
    go_wp2_with fail
    refine (HSZ1.out _).mono ?_
    rintro e u2 ⟨rfl, hb⟩
    have HB2 := Lib.hid (HB1.out.trans (hb.mono HB1.out.size))
    have HF2 := Lib.hid (HF0.out _ HB2).out
    clear hb t0 t1 t2 t3 hr hr2 HB1 HF1
    rcases HLB.out with hl0 | hl0
    · go_wp2
      go_ret
      exact ⟨rfl, HF2.out⟩
    · have HBD : Hid (Below W0.heap.size W0 u2.drew) := HB2.out.drew
      go_wp2_with fail
      go_region_held3 (fun w' => w'.cell? ⟨w.heap.size, 0, none⟩ = some (.string x1.pod) ∧ w'.cell? ⟨w.heap.size, 1, none⟩ = some (.string x1.met) ∧ w'.cell? ⟨w.heap.size, 2, none⟩ = some (.int .i64 x1.val) ∧ w'.cell? ⟨w.heap.size, 3, none⟩ = some (.int .i64 x1.tick))
        (with_reducible (first | exact HT.out _ HB5 | exact HT.out _ HB4 | exact HT.out _ HB3 | exact HT.out _ HBD))
        (first
          | (go_at_call 26; refine (to_series z0 _ _ _ (HSK.out _ HBD) hn HP.out).mono ?_; rintro e u3 ⟨g3, m3, rfl, hm3, ho3, hg3, hb⟩; have HM3 := Lib.hid hm3; have HI3 := Lib.hid (srs_of ho3 hg3); have HB3 := Lib.hid (HBD.out.trans (hb.mono HBD.out.size)); clear hm3 ho3 hg3 hb)
          | (go_at_call 27; refine (HTS.out _).mono ?_; rintro e u4 ⟨rfl, hb⟩; have HI4 := Lib.hid (HI3.out.kept hb); have HB4 := Lib.hid (HB3.out.trans (hb.mono HB3.out.size)); clear hb)
          | (go_at_call 25; refine (HSP.out m3 HM3.out _ _ _ HI4.out hn HP.out).mono ?_; rintro e u5 ⟨gw, cw, zs, cc, rfl, hpi, hsr, hb⟩; have HPI := Lib.hid hpi; have HSR := Lib.hid hsr; have HB5 := Lib.hid (HB4.out.trans (hb.mono HB4.out.size)); clear hpi hsr hb))
      obtain ⟨b1, b2, b3⟩ := put_bounds HPI.out (by simpa using hn) (fun x hx => by obtain ⟨l, hl, rfl⟩ := List.mem_map.1 hx; exact HP.out l hl) (by rw [← remT_eq]; exact HREM.out)
      have hnl : zs.length ≤ 1048576 := by simpa using b1
      have HNP : Hid (∀ l ∈ zs, l.s.pts.length ≤ 1048576) := fun l hl => b2 _ (List.mem_map.2 ⟨l, hl, rfl⟩)
      have hnr : rem zs 0 ≤ 4194304 := by rw [remT_eq]; exact b3
      obtain ⟨q, hq⟩ : ∃ q : Nat, 1 + rem zs 0 = q := ⟨_, rfl⟩
      have hqb : q ≤ 100000000 := by omega
      have HQ := Lib.hid hq
      have hccn : (cc != cc) = false := by simp
      clear b1 b2 b3 hnr hq HBD HB3 HB4 HI3 HI4
      go_wp2_with fail
      refine (to_series z0 _ _ _ (HSK.out _ HB5) hn HP.out).mono ?_
      rintro e u6 ⟨g4, m4, rfl, hm4, ho4, hg4, hb⟩
      have HM4 := Lib.hid hm4
      have HO6 := Lib.hid ho4
      have HG6 := Lib.hid hg4
      have HB6 := Lib.hid (HB5.out.trans (hb.mono HB5.out.size))
      have HD6 := Lib.hid hb
      have HC4 : Hid (g4 < u6.heap.size ∧ ∀ l ∈ m4, ∀ b o s, l.a = some ⟨b, o, s⟩ → b < u6.heap.size) := ⟨ho4.lt.2, fun l hl b o s e => by have := hg4.own l hl; rw [e] at this; exact this.lt.2⟩
      clear ho4 hg4 hb hm4
      obtain ⟨t0, t1, t2, t3⟩ := HT.out _ HB6
      go_wp2_with fail
      refine (HTS.out _).mono ?_
      rintro e u7 ⟨rfl, hb⟩
      have HB7 := Lib.hid (HB6.out.trans (hb.mono HB6.out.size))
      have HD7 := Lib.hid (HD6.out.trans (hb.mono HD6.out.size))
      have HE7 := Lib.hid hb
      have HO7 := Lib.hid (HO6.out.kept hb)
      have HG7 := Lib.hid (HG6.out.kept hb)
      clear hb t0 t1 t2 t3 HO6 HG6
      go_wp2_with fail
      refine (HIM.out m4 HM4.out HP.out g4 _ _ zs cc HPI.out _ HO7.out HG7.out hn).mono ?_
      rintro e u8 ⟨g5, c5, ns, rfl, hns, ho5, hg5, hb⟩
      have HNS := Lib.hid hns
      have HOO8 := Lib.hid (PutD.OwnR.low ho5 HE7.out.size)
      have HGG8 : Hid (Ser2.Good u8 u6.heap.size g5 ns) := ⟨fun l hl => Items.OwnP.low (hg5.own l hl) HE7.out.size, hg5.off, hg5.apart⟩
      have HB8 := Lib.hid (HB7.out.trans (hb.mono HB7.out.size))
      have HD8 := Lib.hid (HD7.out.trans (hb.mono HD7.out.size))
      have HE8 := Lib.hid (HE7.out.trans (hb.mono HE7.out.size))
      have HO8 := Lib.hid (HO7.out.kept hb)
      have HG8 := Lib.hid (HG7.out.kept hb)
      clear hb hns ho5 hg5 HO7 HG7
      go_wp2_with fail
      refine (eq_series2 zs ns zs HNS.out rfl _ _ _ _ _ (srs_of HOO8.out HGG8.out) (HSR.out.kept HD8.out) hnl HNP.out).mono ?_
      rintro e u9 ⟨rfl, hb⟩
      have HB9 := Lib.hid (HB8.out.trans (hb.mono HB8.out.size))
      have HD9 := Lib.hid (HD8.out.trans (hb.mono HD8.out.size))
      have HE9 := Lib.hid (HE8.out.trans (hb.mono HE8.out.size))
      have HOO9 := Lib.hid (HOO8.out.kept hb)
      have HGG9 := Lib.hid (HGG8.out.kept hb)
      have HO9 := Lib.hid (HO8.out.kept hb)
      have HG9 := Lib.hid (HG8.out.kept hb)
      clear hb HOO8 HGG8 HO8 HG8
      go_wp2_with fail
      refine (to_series z0 _ _ _ (HSK.out _ HB9) hn HP.out).mono ?_
      rintro e u10 ⟨g7, m7, rfl, hm7, ho7, hg7, hb⟩
      have HM7 := Lib.hid hm7
      have HI7 := Lib.hid (srs_of ho7 hg7)
      have HB10 := Lib.hid (HB9.out.trans (hb.mono HB9.out.size))
      have HD10 := Lib.hid (HD9.out.trans (hb.mono HD9.out.size))
      have HE10 := Lib.hid (HE9.out.trans (hb.mono HE9.out.size))
      have HOO10 := Lib.hid (HOO9.out.kept hb)
      have HGG10 := Lib.hid (HGG9.out.kept hb)
      have HO10 := Lib.hid (HO9.out.kept hb)
      have HG10 := Lib.hid (HG9.out.kept hb)
      clear ho7 hg7 hb hm7 HOO9 HGG9 HO9 HG9
      go_wp2_with fail
      refine (eq_series2 z0 m4 m7 HM4.out HM7.out _ _ _ _ _ (srs_of HO10.out HG10.out) HI7.out hn HP.out).mono ?_
      rintro e u11 ⟨rfl, hb⟩
      have HB11 := Lib.hid (HB10.out.trans (hb.mono HB10.out.size))
      have HD11 := Lib.hid (HD10.out.trans (hb.mono HD10.out.size))
      have HE11 := Lib.hid (HE10.out.trans (hb.mono HE10.out.size))
      have HOO11 := Lib.hid (HOO10.out.kept hb)
      have HGG11 := Lib.hid (HGG10.out.kept hb)
      have HO11 := Lib.hid (HO10.out.kept hb)
      have HG11 := Lib.hid (HG10.out.kept hb)
      clear hb HOO10 HGG10 HO10 HG10 HI7
      go_wp2_with fail
      refine (mark_series2 z0 m4 HM4.out g4 u5.heap.size u6.heap.size HREM.out hn _ HO11.out HG11.out HC4.out.1 HC4.out.2 HD11.out.size).mono ?_
      rintro e u12 ⟨mk, rfl, hwi⟩
      have hmk0 : decide ((mk : Int) < 0) = false := decide_eq_false (by omega)
      have HB12 := Lib.hid (hwi.below HB11.out HB5.out.size HB11.out.size)
      have HD12 := Lib.hid (hwi.below HD11.out (Nat.le_refl _) HD11.out.size)
      obtain ⟨hoo, hgg⟩ := own_within HOO11.out HGG11.out hwi
      have HOO12 := Lib.hid hoo
      have HGG12 := Lib.hid hgg
      have HZ12 : Hid (u6.heap.size ≤ u12.heap.size) := Nat.le_trans HE11.out.size hwi.size
      clear hwi hoo hgg HOO11 HGG11 HO11 HG11
      go_wp2_with fail
      refine (eq_series2 zs ns zs HNS.out rfl _ _ _ _ _ (srs_of HOO12.out HGG12.out) (HSR.out.kept HD12.out) hnl HNP.out).mono ?_
      rintro e u13 ⟨rfl, hb⟩
      have HB13 := Lib.hid (HB12.out.trans (hb.mono HB12.out.size))
      have HD13 := Lib.hid (HD12.out.trans (hb.mono HD12.out.size))
      have HOO13 := Lib.hid (HOO12.out.kept hb)
      have HGG13 := Lib.hid (HGG12.out.kept hb)
      have HZ13 : Hid (u6.heap.size ≤ u13.heap.size) := Nat.le_trans HZ12.out hb.size
      clear hb HOO12 HGG12
      go_wp2_with fail
      refine (mark_zs zs ns HNS.out g5 c5 u6.heap.size q HQ.out hqb hnl _ HZ13.out HOO13.out HGG13.out).mono ?_
      rintro e u14 ⟨rfl, ho, hg, ha⟩
      have HB14 := Lib.hid (ha.below HB13.out HB6.out.size HB13.out.size)
      have HD14 := Lib.hid (ha.below HD13.out HD6.out.size HD13.out.size)
      have HOO14 := Lib.hid ho
      have HGG14 := Lib.hid hg
      clear ho hg ha HOO13 HGG13
      go_wp2_with fail
      refine (held_zs zs ns HNS.out g5 c5 u6.heap.size q HQ.out hqb hnl _ HOO14.out HGG14.out).mono ?_
      rintro e u15 ⟨rfl, hb⟩
      have HB15 := Lib.hid (HB14.out.trans (hb.mono HB14.out.size))
      have HD15 := Lib.hid (HD14.out.trans (hb.mono HD14.out.size))
      have HOO15 := Lib.hid (HOO14.out.kept hb)
      have HGG15 := Lib.hid (HGG14.out.kept hb)
      clear hb HOO14 HGG14
      have hq0 : decide ((q : Int) < 0) = false := decide_eq_false (by omega)
      have hqn : ((q : Int) != (q : Int)) = false := by simp
      have HBE : Hid (Below W0.heap.size W0 u15.drew) := HB15.out.drew
      have HDE : Hid (Below u5.heap.size u5 u15.drew) := HD15.out.drew
      have HOE : Hid (OwnR u15.drew u6.heap.size (.slice (some ⟨g5, 0, none⟩) zs.length c5) (marksS 1 ns)) := HOO15.out
      have HGE : Hid (Ser2.Good u15.drew u6.heap.size g5 (marksS 1 ns)) := ⟨HGG15.out.own, HGG15.out.off, HGG15.out.apart⟩
      go_wp2_with fail
      go_region_held3 (fun w' => w'.cell? ⟨w.heap.size, 0, none⟩ = some (.string x1.pod) ∧ w'.cell? ⟨w.heap.size, 1, none⟩ = some (.string x1.met) ∧ w'.cell? ⟨w.heap.size, 2, none⟩ = some (.int .i64 x1.val) ∧ w'.cell? ⟨w.heap.size, 3, none⟩ = some (.int .i64 x1.tick))
        (with_reducible (first | exact HT.out _ HB18 | exact HT.out _ HB17 | exact HT.out _ HB16 | exact HT.out _ HBE))
        (first
          | (go_at_call 26; refine (to_series z0 _ _ _ (HSK.out _ HBE) hn HP.out).mono ?_; rintro e u16 ⟨g16, m16, rfl, hm16, ho16, hg16, hb⟩; have HM16 := Lib.hid hm16; have HO16 := Lib.hid ho16; have HG16 := Lib.hid hg16; have HB16 := Lib.hid (HBE.out.trans (hb.mono HBE.out.size)); have HD16 := Lib.hid (HDE.out.trans (hb.mono HDE.out.size)); have HOO16 := Lib.hid (HOE.out.kept hb); have HGG16 := Lib.hid (HGE.out.kept hb); clear hm16 ho16 hg16 hb)
          | (go_at_call 27; refine (HTS.out _).mono ?_; rintro e u17 ⟨rfl, hb⟩; have HO17 := Lib.hid (HO16.out.kept hb); have HG17 := Lib.hid (HG16.out.kept hb); have HB17 := Lib.hid (HB16.out.trans (hb.mono HB16.out.size)); have HD17 := Lib.hid (HD16.out.trans (hb.mono HD16.out.size)); have HOO17 := Lib.hid (HOO16.out.kept hb); have HGG17 := Lib.hid (HGG16.out.kept hb); clear hb)
          | (go_at_call 28; refine (HIM.out m16 HM16.out HP.out g16 _ _ zs cc HPI.out _ HO17.out HG17.out hn).mono ?_; rintro e u18 ⟨g18, c18, n18, rfl, hn18, ho18, hg18, hb⟩; have HN18 := Lib.hid hn18; have HS18 := Lib.hid (srs_of ho18 hg18); have HB18 := Lib.hid (HB17.out.trans (hb.mono HB17.out.size)); have HD18 := Lib.hid (HD17.out.trans (hb.mono HD17.out.size)); have HOO18 := Lib.hid (HOO17.out.kept hb); have HGG18 := Lib.hid (HGG17.out.kept hb); clear hn18 ho18 hg18 hb))
      clear HBE HDE HOE HGE HB16 HB17 HD16 HD17 HOO16 HOO17 HGG16 HGG17 HO16 HO17 HG16 HG17 HB15 HD15 HOO15 HGG15
      go_wp2_with fail
      refine (eq_series2 zs n18 zs HN18.out rfl _ _ _ _ _ HS18.out (HSR.out.kept HD18.out) hnl HNP.out).mono ?_
      rintro e u19 ⟨rfl, hb⟩
      have HB19 := Lib.hid (HB18.out.trans (hb.mono HB18.out.size))
      have HOO19 := Lib.hid (HOO18.out.kept hb)
      have HGG19 := Lib.hid (HGG18.out.kept hb)
      clear hb
      go_wp2_with fail
      refine (held_zs zs ns HNS.out g5 c5 u6.heap.size q HQ.out hqb hnl _ HOO19.out HGG19.out).mono ?_
      rintro e u20 ⟨rfl, hb⟩
      have HB20 := Lib.hid (HB19.out.trans (hb.mono HB19.out.size))
      have HF20 := Lib.hid (HF0.out _ HB20).out
      clear hb
      go_wp2
      go_ret
      exact ⟨rfl, HF20.out⟩

set_option maxRecDepth 100000 in
theorem lifted (os : Os) (started : os.Started) (H : Type) (enc : TypeId × Value → H) :
    ReturnsInHanded {} Try.checked os 6 .any (Rows.fnExactPutSampleSpec.pre6 enc Try.prog Try.f6 Rows.fnExactPutSampleRow.domain false) (Rows.fnExactPutSampleSpec.post enc Try.prog Try.f6 false true false false) := by
  refine returnsInHanded_of_change (C := Try.checked) own started (by kernel_rfl) Try.func6
    (ChangeSpec.witness6 (enc := enc) (C := Try.checked) false ⟨#[], #[.slice none 0 0, .agg #[.string ⟨#[]⟩, .string ⟨#[]⟩, .int .i64 0, .int .i64 0]], []⟩ 8 (by kernel_rfl) (by kernel_rfl) (by kernel_rfl) (by kernel_rfl)) ?_
  intro W base args ds gs before hval0 hW hcnd _
  have hval : ∀ (j : Nat) t v, Try.f6.params[j]? = some t → args[j]? = some v → Value.okWide Try.prog W .any base t v := hval0
  clear hval0
  have hW' := hW
  obtain ⟨p, q, hA0, hV, rfl, hfz, hnd⟩ := hW
  have hA : DataW.TrodAll enc Try.prog W 0 (fun _ => true) true Try.f6.params.toList args.toList ds p := hA0
  rw [Try.params6] at hA hval
  obtain ⟨v0, vs0, d0, ds0, p0, q0, hargs, rfl, rfl, h0, r0⟩ := trodAll_cons hA
  obtain ⟨v1, vs1, d1, ds1, p1, q1, rfl, rfl, rfl, h1, r1⟩ := trodAll_cons r0
  obtain ⟨rfl, rfl, rfl⟩ := trodAll_nil r1
  obtain rfl : args = #[v0, v1] := by cases args; simp_all
  obtain ⟨rfl, rfl⟩ := trodVars_none hV
  have k0 := h0
  have lt0 : ∀ x ∈ p0, x.block < W.heap.size := by obtain ⟨m, hm⟩ := k0; exact DataW.trod_lt m _ _ _ hm
  have k1 := h1
  have lt1 : ∀ x ∈ p1, x.block < W.heap.size := by obtain ⟨m, hm⟩ := k1; exact DataW.trod_lt m _ _ _ hm
  obtain ⟨a0, len0, cap0, rfl⟩ := okWide_slice Try.underlying39 (hval 0 39 v0 rfl rfl)
  obtain ⟨z0, w0⟩ : ∃ zs, IsSrs W a0 len0 cap0 zs := by
    obtain ⟨fuel, hf⟩ := h0
    exact open_srs Try.underlying39 Try.underlying111 (by kernel_rfl) (by kernel_rfl) ⟨rfl, rfl, rfl⟩ Try.underlying9 Try.underlying109 Try.underlying158 (by kernel_rfl) (by kernel_rfl) ⟨rfl, rfl⟩ Try.underlying3 hf
  obtain ⟨c0_1, c1_1, c2_1, c3_1, y0_1, y1_1, y2_1, y3_1, m_1, rfl, rfl, rfl, g0_1, g1_1, g2_1, g3_1⟩ := open_agg4 Try.underlying41 (by kernel_rfl) (by kernel_rfl) (hval 1 41 v1 rfl rfl) h1
  obtain ⟨p1, e0_1, rfl, u0_1⟩ := DataW.trod_string Try.underlying9 g0_1
  obtain ⟨q1, e1_1, rfl, u1_1⟩ := DataW.trod_string Try.underlying9 g1_1
  obtain ⟨v1, e2_1, rfl, u2_1⟩ := DataW.trod_int Try.underlying3 g2_1
  obtain ⟨t1, e3_1, rfl, u3_1⟩ := DataW.trod_int Try.underlying3 g3_1
  simp at e0_1 e1_1 e2_1 e3_1
  subst e0_1 e1_1 e2_1 e3_1
  have w1 : Smp.wf ⟨p1, q1, v1, t1⟩ := ⟨u0_1, u1_1, bounds_i64 u2_1, bounds_i64 u3_1⟩
  clear hA0
  refine (walk a0 len0 cap0 z0 ⟨p1, q1, v1, t1⟩ W w0 w1).mono fun e W' ⟨he, bel⟩ => ?_
  subst he
  exact ⟨_, rfl, _, _, _, [], _, [], hW', trodAll_mk1 (shut_bool Try.underlying4 _), (trodAll_cons_mk (Below.trod laidOut (by kernel_rfl) (of_decide_eq_true (by kernel_rfl)) k0 bel lt0) (trodAll_cons_mk (Below.trod laidOut (by kernel_rfl) (of_decide_eq_true (by kernel_rfl)) k1 bel lt1) trodAll_mk0)), rfl, bel.frame _, fun h => by cases h⟩

theorem over : Rows.fnExactPutSampleRow.holds Try.pinned (OpenSpec.ofChange Rows.fnExactPutSampleSpec) :=
  OpenClaim.holds_of_wide 6 Try.f6 rfl rfl rfl rfl rfl rfl rfl ⟨rfl, rfl, rfl, rfl, rfl⟩ rfl rfl rfl rfl rfl (by kernel_rfl) Try.func6 (by kernel_rfl)
    (of_decide_eq_true (by kernel_rfl)) (by unfold Func.isWrapper; first | (rw [if_pos (by decide +kernel)]; kernel_rfl) | (rw [if_neg (by decide +kernel)]; exact ⟨rfl, rfl⟩))
    (fun os started H enc _ => lifted os started H enc)

/-- THE STATEMENT. -/
theorem proved : Rows.FnExactPutSampleSaid := over
end Go.Proofs.Ytimpajhgplkpmaa.fnExactPutSample
