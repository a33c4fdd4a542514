/- For every input that can be read, the Go function laws.FnExactDecide returns true and leaves its arguments as they read: the statement Rows.FnExactDecideSaid, without a condition of ours. -/
import Derived.Test.YtkehidjdlefojabRows
import Derived.WalkKit
import Derived.ProofKit
import Derived.OpenShut
import Derived.ShutString
import Derived.ChangeOld
import Derived.Below
import Derived.Test.YtkehidjdlefojabC1
import Derived.Test.YtkehidjdlefojabC2
import Derived.Test.YtkehidjdlefojabSmps
import Derived.Test.YtkehidjdlefojabMem
import Derived.Test.YtkehidjdlefojabSer
import Derived.Test.YtkehidjdlefojabSer2
import Derived.Test.YtkehidjdlefojabNt
import Derived.Test.YtkehidjdlefojabMv
import Derived.Test.YtkehidjdlefojabPl
import Derived.Test.YtkehidjdlefojabBhM
import Derived.Test.YtkehidjdlefojabLogS
import Derived.Test.YtkehidjdlefojabBhI
import Derived.Test.YtkehidjdlefojabLogI
import Derived.Test.YtkehidjdlefojabSdS
import Derived.Test.YtkehidjdlefojabSdI
import Derived.Test.YtkehidjdlefojabSdT
import Derived.Test.YtkehidjdlefojabRH
import Derived.Test.YtkehidjdlefojabItr
import Derived.Test.YtkehidjdlefojabTail
import Derived.Test.YtkehidjdlefojabWin
import Derived.Test.YtkehidjdlefojabExt
import Derived.Test.YtkehidjdlefojabCons
import Derived.Test.YtkehidjdlefojabMvd
import Derived.Test.YtkehidjdlefojabStd
import Derived.Test.YtkehidjdlefojabBndS
import Derived.Test.YtkehidjdlefojabBndD
import Derived.Test.YtkehidjdlefojabBndI
import Derived.Test.YtkehidjdlefojabBndJ
import Derived.Test.YtkehidjdlefojabBndU
import Derived.Test.YtkehidjdlefojabLimS
import Derived.Test.YtkehidjdlefojabLimI
import Derived.Test.YtkehidjdlefojabDec
namespace Go.Proofs.Ytkehidjdlefojab.fnExactDecide
open Go.ChangeShapes Go.WideShapes Go.ChangeAt Go.RowKit
open Go.ChangeMaps (open_string shut_string)
open Go.Proofs.Ytkehidjdlefojab.C1
open Go.Proofs.Ytkehidjdlefojab.C2
open Go.Proofs.Ytkehidjdlefojab.Smps
open Go.Proofs.Ytkehidjdlefojab.Mem
open Go.Proofs.Ytkehidjdlefojab.Ser
open Go.Proofs.Ytkehidjdlefojab.Ser2
open Go.Proofs.Ytkehidjdlefojab.Nt
open Go.Proofs.Ytkehidjdlefojab.Mv
open Go.Proofs.Ytkehidjdlefojab.Pl
open Go.Proofs.Ytkehidjdlefojab.BhM
open Go.Proofs.Ytkehidjdlefojab.LogS
open Go.Proofs.Ytkehidjdlefojab.BhI
open Go.Proofs.Ytkehidjdlefojab.LogI
open Go.Proofs.Ytkehidjdlefojab.SdS
open Go.Proofs.Ytkehidjdlefojab.SdI
open Go.Proofs.Ytkehidjdlefojab.SdT
open Go.Proofs.Ytkehidjdlefojab.RH
open Go.Proofs.Ytkehidjdlefojab.Itr
open Go.Proofs.Ytkehidjdlefojab.Tail
open Go.Proofs.Ytkehidjdlefojab.Win
open Go.Proofs.Ytkehidjdlefojab.Ext
open Go.Proofs.Ytkehidjdlefojab.Cons
open Go.Proofs.Ytkehidjdlefojab.Mvd
open Go.Proofs.Ytkehidjdlefojab.Std
open Go.Proofs.Ytkehidjdlefojab.BndS
open Go.Proofs.Ytkehidjdlefojab.BndD
open Go.Proofs.Ytkehidjdlefojab.BndI
open Go.Proofs.Ytkehidjdlefojab.BndJ
open Go.Proofs.Ytkehidjdlefojab.BndU
open Go.Proofs.Ytkehidjdlefojab.LimS
open Go.Proofs.Ytkehidjdlefojab.LimI
open Go.Proofs.Ytkehidjdlefojab.Dec
set_option linter.unusedVariables false

theorem own : ownKnob Try.prog.godebug = none := by kernel_rfl
theorem laidOut : laidOutB Try.prog = true := by kernel_rfl
set_option maxHeartbeats 4000000 in
set_option maxRecDepth 100000 in
theorem walk (x0 : Pl.Bh) (a0 : Option Addr) (cap0 : Nat) (aa0 : Option Addr) (capp0 : Nat) (a1 : Option Addr) (len1 cap1 : Nat) (z1 : List Ser.Pt) (a2 : Option Addr) (len2 cap2 : Nat) (z2 : List Ser.Pt) (a3 : Int) (a4 : Int) (a5 : Int) (w : World) (w0 : x0.wf ∧ Pl.Pls w a0 x0.up.ps ∧ Pl.Pls w aa0 x0.dn.ps) (w1 : Pl.IsPts w a1 len1 cap1 z1) (w2 : Pl.IsPts w a2 len2 cap2 z2) (w3 : (Lit.int .i64 a3).wf = true) (w4 : (Lit.int .i64 a4).wf = true) (w5 : (Lit.int .i64 a5).wf = true)  :
    Calls Try.prog 6 #[Pl.bhV x0 a0 cap0 aa0 capp0, .slice a1 len1 cap1, .slice a2 len2 cap2, .int .i64 a3, .int .i64 a4, .int .i64 a5] w fun e w' => e = .returned (.bool true) ∧ Below w.heap.size w w' := by
  obtain ⟨wf0, hp0, hq0⟩ := w0
  have HP0 := Lib.hid hp0
  have HQ0 := Lib.hid hq0
  have HW0 := Lib.hid wf0
  clear wf0 hp0 hq0
  obtain ⟨hl1, hmax1, hwf1, hp1⟩ := w1
  subst hl1
  have hml1 : z1.length ≤ 9223372036854775807 := by unfold maxLen at hmax1; omega
  have HP1 := Lib.hid hp1
  clear hwf1 hp1 hmax1
  obtain ⟨hl2, hmax2, hwf2, hp2⟩ := w2
  subst hl2
  have hml2 : z2.length ≤ 9223372036854775807 := by unfold maxLen at hmax2; omega
  have HP2 := Lib.hid hp2
  clear hwf2 hp2 hmax2
  have hsz0 := fun w => sz_behave x0 HW0.out a0 cap0 aa0 capp0 1048576 (by omega) (by omega) w
  by_cases hs0 : (1048576 : Int) < x0.len
  · simp only [if_pos hs0] at hsz0
    have HSZ0 := Lib.hid hsz0
    clear hsz0
    unfold Pl.bhV
    go_enter Try.func6, Try.ntmps6
    go_wp2_with fail
    refine (HSZ0.out _).mono ?_
    rintro e u1 ⟨rfl, hb⟩
    obtain ⟨k0, hB, hz⟩ := one_read hb
    have K_1 : Hid (SdT.CW8 u1 w.heap.size (.slice a0 x0.up.ps.length cap0) (.int .i64 x0.up.sel) (.int .i64 x0.up.win) (.slice aa0 x0.dn.ps.length capp0) (.int .i64 x0.dn.sel) (.int .i64 x0.dn.win) (.int .i64 x0.mn) (.int .i64 x0.mx)) := k0
    have B_1 := Lib.hid hB
    clear k0 hB hz hb
    obtain ⟨⟨ck0, ck1, ck2, ck3, ck4, ck5, ck6, ck7⟩, -⟩ := K_1.out.get
    go_wp2
    go_ret
    exact ⟨rfl, B_1.out⟩
  · obtain ⟨l0, hl0, hl0a, hl0b⟩ : ∃ l : Int, (1048576 : Int) - x0.len = l ∧ 0 ≤ l ∧ l ≤ 1048576 := ⟨_, rfl, by omega, by unfold Bh.len; omega⟩
    simp only [if_neg hs0, hl0] at hsz0
    have HSZ0 := Lib.hid hsz0
    clear hsz0
    have hsz1 := fun w => Nt.sz_points z1.length a1 cap1 hml1 (l0) (by omega) (by omega) w
    by_cases hs1 : (l0 : Int) < z1.length
    · simp only [if_pos hs1] at hsz1
      have HSZ1 := Lib.hid hsz1
      clear hsz1
      unfold Pl.bhV
      go_enter Try.func6, Try.ntmps6
      go_wp2_with fail
      refine (HSZ0.out _).mono ?_
      rintro e u1 ⟨rfl, hb⟩
      obtain ⟨k0, hB, hz⟩ := one_read hb
      have K_1 : Hid (SdT.CW8 u1 w.heap.size (.slice a0 x0.up.ps.length cap0) (.int .i64 x0.up.sel) (.int .i64 x0.up.win) (.slice aa0 x0.dn.ps.length capp0) (.int .i64 x0.dn.sel) (.int .i64 x0.dn.win) (.int .i64 x0.mn) (.int .i64 x0.mx)) := k0
      have B_1 := Lib.hid hB
      clear k0 hB hz hb
      obtain ⟨⟨ck0, ck1, ck2, ck3, ck4, ck5, ck6, ck7⟩, -⟩ := K_1.out.get
      go_wp2_with fail
      refine (HSZ1.out _).mono ?_
      rintro e wz ⟨rfl, hww⟩
      obtain rfl := hww.symm
      clear hww
      clear ck0 ck1 ck2 ck3 ck4 ck5 ck6 ck7 
      obtain ⟨⟨ck0, ck1, ck2, ck3, ck4, ck5, ck6, ck7⟩, -⟩ := K_1.out.get
      go_wp2
      go_ret
      exact ⟨rfl, B_1.out⟩
    · obtain ⟨l1, hl1, hl1a, hl1b⟩ : ∃ l : Int, (l0 : Int) - z1.length = l ∧ 0 ≤ l ∧ l ≤ 1048576 := ⟨_, rfl, by omega, by omega⟩
      simp only [if_neg hs1, hl1] at hsz1
      have HSZ1 := Lib.hid hsz1
      clear hsz1
      have hsz2 := fun w => Mv.sz_points z2.length a2 cap2 hml2 (l1) (by omega) (by omega) w
      by_cases hs2 : (l1 : Int) < z2.length
      · simp only [if_pos hs2] at hsz2
        have HSZ2 := Lib.hid hsz2
        clear hsz2
        unfold Pl.bhV
        go_enter Try.func6, Try.ntmps6
        go_wp2_with fail
        refine (HSZ0.out _).mono ?_
        rintro e u1 ⟨rfl, hb⟩
        obtain ⟨k0, hB, hz⟩ := one_read hb
        have K_1 : Hid (SdT.CW8 u1 w.heap.size (.slice a0 x0.up.ps.length cap0) (.int .i64 x0.up.sel) (.int .i64 x0.up.win) (.slice aa0 x0.dn.ps.length capp0) (.int .i64 x0.dn.sel) (.int .i64 x0.dn.win) (.int .i64 x0.mn) (.int .i64 x0.mx)) := k0
        have B_1 := Lib.hid hB
        clear k0 hB hz hb
        obtain ⟨⟨ck0, ck1, ck2, ck3, ck4, ck5, ck6, ck7⟩, -⟩ := K_1.out.get
        go_wp2_with fail
        refine (HSZ1.out _).mono ?_
        rintro e wz ⟨rfl, hww⟩
        obtain rfl := hww.symm
        clear hww
        clear ck0 ck1 ck2 ck3 ck4 ck5 ck6 ck7 
        obtain ⟨⟨ck0, ck1, ck2, ck3, ck4, ck5, ck6, ck7⟩, -⟩ := K_1.out.get
        go_wp2_with fail
        refine (HSZ2.out _).mono ?_
        rintro e wz ⟨rfl, hww⟩
        obtain rfl := hww.symm
        clear hww
        clear ck0 ck1 ck2 ck3 ck4 ck5 ck6 ck7 
        obtain ⟨⟨ck0, ck1, ck2, ck3, ck4, ck5, ck6, ck7⟩, -⟩ := K_1.out.get
        go_wp2
        go_ret
        exact ⟨rfl, B_1.out⟩
      · obtain ⟨l2, hl2, hl2a, hl2b⟩ : ∃ l : Int, (l1 : Int) - z2.length = l ∧ 0 ≤ l ∧ l ≤ 1048576 := ⟨_, rfl, by omega, by omega⟩
        simp only [if_neg hs2, hl2] at hsz2
        have HSZ2 := Lib.hid hsz2
        clear hsz2
        have hn0 : x0.up.ps.length ≤ 1048576 := by unfold Bh.len at hs0; omega
        have hm0 : x0.dn.ps.length ≤ 1048576 := by unfold Bh.len at hs0; omega
        have hn1 : z1.length ≤ 1048576 := by omega
        have hn2 : z2.length ≤ 1048576 := by omega
        have hsp := fun a c a1 c1 an cn am cm w h h1 h2 h3 => spec_decide x0 a c a1 c1 z1 an cn z2 am cm a3 a4 a5 w h h1 h2 h3 hn0 hm0 hn1 hn2
        have him := fun a c a1 c1 an cn am cm w h h1 h2 h3 => impl_decide x0 a c a1 c1 z1 an cn z2 am cm a3 a4 a5 w h h1 h2 h3 hn0 hm0 hn1 hn2
        obtain ⟨v, hv⟩ : ∃ v, decideV x0 z1 z2 a3 a4 a5 = v := ⟨_, rfl⟩
        simp only [hv] at hsp him
        clear hv
        have hvv : (v != v) = false := by simp
        have HSP := Lib.hid hsp
        have HIM := Lib.hid him
        clear hsp him
        clear hl0 hs0
        clear hl1 hs1
        clear hl2 hs2
        unfold Pl.bhV
        go_enter Try.func6, Try.ntmps6
        go_wp2_with fail
        refine (HSZ0.out _).mono ?_
        rintro e u1 ⟨rfl, hb⟩
        obtain ⟨k0, hB, hz⟩ := one_read hb
        have K_1 : Hid (SdT.CW8 u1 w.heap.size (.slice a0 x0.up.ps.length cap0) (.int .i64 x0.up.sel) (.int .i64 x0.up.win) (.slice aa0 x0.dn.ps.length capp0) (.int .i64 x0.dn.sel) (.int .i64 x0.dn.win) (.int .i64 x0.mn) (.int .i64 x0.mx)) := k0
        have B_1 := Lib.hid hB
        clear k0 hB hz hb
        obtain ⟨⟨ck0, ck1, ck2, ck3, ck4, ck5, ck6, ck7⟩, -⟩ := K_1.out.get
        go_wp2_with fail
        refine (HSZ1.out _).mono ?_
        rintro e wz ⟨rfl, hww⟩
        obtain rfl := hww.symm
        clear hww
        clear ck0 ck1 ck2 ck3 ck4 ck5 ck6 ck7 
        obtain ⟨⟨ck0, ck1, ck2, ck3, ck4, ck5, ck6, ck7⟩, -⟩ := K_1.out.get
        go_wp2_with fail
        refine (HSZ2.out _).mono ?_
        rintro e wz ⟨rfl, hww⟩
        obtain rfl := hww.symm
        clear hww
        clear ck0 ck1 ck2 ck3 ck4 ck5 ck6 ck7 
        obtain ⟨⟨ck0, ck1, ck2, ck3, ck4, ck5, ck6, ck7⟩, -⟩ := K_1.out.get
        go_wp2_with fail
        refine (SdT.to_behave x0 hn0 hm0 _ _ _ _ _ (HP0.out.kept B_1.out) (HQ0.out.kept B_1.out)).mono ?_
        rintro e u2 ⟨gq0, hq0, rfl, hq, hr, hb⟩
        have B_2 := Lib.hid (B_1.out.trans (hb.mono B_1.out.size))
        have K_2 := Lib.hid (K_1.out.kept hb)
        clear B_1 K_1 ck0 ck1 ck2 ck3 ck4 ck5 ck6 ck7 hb
        have Q0_2 := Lib.hid hq
        clear hq
        have R0_2 := Lib.hid hr
        clear hr
        obtain ⟨⟨ck0, ck1, ck2, ck3, ck4, ck5, ck6, ck7⟩, -⟩ := K_2.out.get
        go_wp2_with fail
        refine (Nt.to_points z1 _ _ _ (HP1.out.kept B_2.out) hn1).mono ?_
        rintro e u3 ⟨gq1, rfl, hq, hb⟩
        have B_3 := Lib.hid (B_2.out.trans (hb.mono B_2.out.size))
        have K_3 := Lib.hid (K_2.out.kept hb)
        have Q0_3 := Lib.hid (Q0_2.out.kept hb)
        have R0_3 := Lib.hid (R0_2.out.kept hb)
        clear B_2 K_2 Q0_2 R0_2 ck0 ck1 ck2 ck3 ck4 ck5 ck6 ck7 hb
        have Q1_3 := Lib.hid (Nt.OwnP.pts hq)
        clear hq
        obtain ⟨⟨ck0, ck1, ck2, ck3, ck4, ck5, ck6, ck7⟩, -⟩ := K_3.out.get
        go_wp2_with fail
        refine (Mv.to_points z2 _ _ _ (HP2.out.kept B_3.out) hn2).mono ?_
        rintro e u4 ⟨gq2, rfl, hq, hb⟩
        have B_4 := Lib.hid (B_3.out.trans (hb.mono B_3.out.size))
        have K_4 := Lib.hid (K_3.out.kept hb)
        have Q0_4 := Lib.hid (Q0_3.out.kept hb)
        have R0_4 := Lib.hid (R0_3.out.kept hb)
        have Q1_4 := Lib.hid (Q1_3.out.kept hb)
        clear B_3 K_3 Q0_3 R0_3 Q1_3 ck0 ck1 ck2 ck3 ck4 ck5 ck6 ck7 hb
        have Q2_4 := Lib.hid (Mv.OwnP.pts hq)
        clear hq
        obtain ⟨⟨ck0, ck1, ck2, ck3, ck4, ck5, ck6, ck7⟩, -⟩ := K_4.out.get
        go_wp2_with fail
        refine (HSP.out _ _ _ _ _ _ _ _ _ Q0_4.out R0_4.out Q1_4.out Q2_4.out).mono ?_
        rintro e u5 ⟨rfl, hb⟩
        have B_5 := Lib.hid (B_4.out.trans (hb.mono B_4.out.size))
        have K_5 := Lib.hid (K_4.out.kept hb)
        have Q0_5 := Lib.hid (Q0_4.out.kept hb)
        have R0_5 := Lib.hid (R0_4.out.kept hb)
        have Q1_5 := Lib.hid (Q1_4.out.kept hb)
        have Q2_5 := Lib.hid (Q2_4.out.kept hb)
        clear B_4 K_4 Q0_4 R0_4 Q1_4 Q2_4 ck0 ck1 ck2 ck3 ck4 ck5 ck6 ck7 hb
        clear Q0_5
        clear R0_5
        clear Q1_5
        clear Q2_5
        obtain ⟨⟨ck0, ck1, ck2, ck3, ck4, ck5, ck6, ck7⟩, -⟩ := K_5.out.get
        go_wp2_with fail
        refine (SdT.to_behave x0 hn0 hm0 _ _ _ _ _ (HP0.out.kept B_5.out) (HQ0.out.kept B_5.out)).mono ?_
        rintro e u6 ⟨gq0, hq0, rfl, hq, hr, hb⟩
        have B_6 := Lib.hid (B_5.out.trans (hb.mono B_5.out.size))
        have K_6 := Lib.hid (K_5.out.kept hb)
        clear B_5 K_5 ck0 ck1 ck2 ck3 ck4 ck5 ck6 ck7 hb
        have Q0_6 := Lib.hid hq
        clear hq
        have R0_6 := Lib.hid hr
        clear hr
        have hb := box_below u6 #[.slice (some ⟨gq0, 0, none⟩) x0.up.ps.length x0.up.ps.length, .int .i64 x0.up.sel, .int .i64 x0.up.win, .slice (some ⟨hq0, 0, none⟩) x0.dn.ps.length x0.dn.ps.length, .int .i64 x0.dn.sel, .int .i64 x0.dn.win, .int .i64 x0.mn, .int .i64 x0.mx] 43
        have B_7 := Lib.hid (B_6.out.trans (hb.mono B_6.out.size))
        have K_7 := Lib.hid (K_6.out.kept hb)
        have Q0_7 := Lib.hid (Q0_6.out.kept hb)
        have R0_7 := Lib.hid (R0_6.out.kept hb)
        clear B_6 K_6 Q0_6 R0_6 hb
        have KX_7 : Hid (SdT.CW8 (u6.alloc (.cells #[.slice (some ⟨gq0, 0, none⟩) x0.up.ps.length x0.up.ps.length, .int .i64 x0.up.sel, .int .i64 x0.up.win, .slice (some ⟨hq0, 0, none⟩) x0.dn.ps.length x0.dn.ps.length, .int .i64 x0.dn.sel, .int .i64 x0.dn.win, .int .i64 x0.mn, .int .i64 x0.mx] 43)) u6.heap.size (.slice (some ⟨gq0, 0, none⟩) x0.up.ps.length x0.up.ps.length) (.int .i64 x0.up.sel) (.int .i64 x0.up.win) (.slice (some ⟨hq0, 0, none⟩) x0.dn.ps.length x0.dn.ps.length) (.int .i64 x0.dn.sel) (.int .i64 x0.dn.win) (.int .i64 x0.mn) (.int .i64 x0.mx)) := Ser2.cells_new u6 #[.slice (some ⟨gq0, 0, none⟩) x0.up.ps.length x0.up.ps.length, .int .i64 x0.up.sel, .int .i64 x0.up.win, .slice (some ⟨hq0, 0, none⟩) x0.dn.ps.length x0.dn.ps.length, .int .i64 x0.dn.sel, .int .i64 x0.dn.win, .int .i64 x0.mn, .int .i64 x0.mx] 43
        go_wp2_with fail
        obtain ⟨u7, hu7⟩ : ∃ y, u6.alloc (.cells #[.slice (some ⟨gq0, 0, none⟩) x0.up.ps.length x0.up.ps.length, .int .i64 x0.up.sel, .int .i64 x0.up.win, .slice (some ⟨hq0, 0, none⟩) x0.dn.ps.length x0.dn.ps.length, .int .i64 x0.dn.sel, .int .i64 x0.dn.win, .int .i64 x0.mn, .int .i64 x0.mx] 43) = y := ⟨_, rfl⟩
        rw [hu7] at B_7 K_7 Q0_7 R0_7 KX_7 ⊢
        clear hu7
        refine (Nt.to_points z1 _ _ _ (HP1.out.kept B_7.out) hn1).mono ?_
        rintro e u8 ⟨gq1, rfl, hq, hb⟩
        have B_8 := Lib.hid (B_7.out.trans (hb.mono B_7.out.size))
        have K_8 := Lib.hid (K_7.out.kept hb)
        have Q0_8 := Lib.hid (Q0_7.out.kept hb)
        have R0_8 := Lib.hid (R0_7.out.kept hb)
        have KX_8 := Lib.hid (KX_7.out.kept hb)
        clear B_7 K_7 Q0_7 R0_7 KX_7 hb
        have Q1_8 := Lib.hid (Nt.OwnP.pts hq)
        clear hq
        obtain ⟨⟨ck0, ck1, ck2, ck3, ck4, ck5, ck6, ck7⟩, -⟩ := K_8.out.get
        obtain ⟨⟨cx0, cx1, cx2, cx3, cx4, cx5, cx6, cx7⟩, -⟩ := KX_8.out.get
        go_wp2_with fail
        refine (Mv.to_points z2 _ _ _ (HP2.out.kept B_8.out) hn2).mono ?_
        rintro e u9 ⟨gq2, rfl, hq, hb⟩
        have B_9 := Lib.hid (B_8.out.trans (hb.mono B_8.out.size))
        have K_9 := Lib.hid (K_8.out.kept hb)
        have Q0_9 := Lib.hid (Q0_8.out.kept hb)
        have R0_9 := Lib.hid (R0_8.out.kept hb)
        have KX_9 := Lib.hid (KX_8.out.kept hb)
        have Q1_9 := Lib.hid (Q1_8.out.kept hb)
        clear B_8 K_8 Q0_8 R0_8 KX_8 Q1_8 ck0 ck1 ck2 ck3 ck4 ck5 ck6 ck7 cx0 cx1 cx2 cx3 cx4 cx5 cx6 cx7 hb
        have Q2_9 := Lib.hid (Mv.OwnP.pts hq)
        clear hq
        obtain ⟨⟨ck0, ck1, ck2, ck3, ck4, ck5, ck6, ck7⟩, -⟩ := K_9.out.get
        obtain ⟨⟨cx0, cx1, cx2, cx3, cx4, cx5, cx6, cx7⟩, -⟩ := KX_9.out.get
        go_wp2_with fail
        refine (HIM.out _ _ _ _ _ _ _ _ _ Q0_9.out R0_9.out Q1_9.out Q2_9.out).mono ?_
        rintro e u10 ⟨rfl, hb⟩
        have B_10 := Lib.hid (B_9.out.trans (hb.mono B_9.out.size))
        have K_10 := Lib.hid (K_9.out.kept hb)
        have Q0_10 := Lib.hid (Q0_9.out.kept hb)
        have R0_10 := Lib.hid (R0_9.out.kept hb)
        have KX_10 := Lib.hid (KX_9.out.kept hb)
        have Q1_10 := Lib.hid (Q1_9.out.kept hb)
        have Q2_10 := Lib.hid (Q2_9.out.kept hb)
        clear B_9 K_9 Q0_9 R0_9 KX_9 Q1_9 Q2_9 ck0 ck1 ck2 ck3 ck4 ck5 ck6 ck7 cx0 cx1 cx2 cx3 cx4 cx5 cx6 cx7 hb
        have HJ : ∀ W, Hid (SdT.CW8 W w.heap.size (.slice a0 x0.up.ps.length cap0) (.int .i64 x0.up.sel) (.int .i64 x0.up.win) (.slice aa0 x0.dn.ps.length capp0) (.int .i64 x0.dn.sel) (.int .i64 x0.dn.win) (.int .i64 x0.mn) (.int .i64 x0.mx)) → Hid (SdT.CW8 W u6.heap.size (.slice (some ⟨gq0, 0, none⟩) x0.up.ps.length x0.up.ps.length) (.int .i64 x0.up.sel) (.int .i64 x0.up.win) (.slice (some ⟨hq0, 0, none⟩) x0.dn.ps.length x0.dn.ps.length) (.int .i64 x0.dn.sel) (.int .i64 x0.dn.win) (.int .i64 x0.mn) (.int .i64 x0.mx)) → (W.cell? ⟨w.heap.size, 0, none⟩ = some (.slice a0 x0.up.ps.length cap0) ∧ W.cell? ⟨w.heap.size, 1, none⟩ = some (.int .i64 x0.up.sel) ∧ W.cell? ⟨w.heap.size, 2, none⟩ = some (.int .i64 x0.up.win) ∧ W.cell? ⟨w.heap.size, 3, none⟩ = some (.slice aa0 x0.dn.ps.length capp0) ∧ W.cell? ⟨w.heap.size, 4, none⟩ = some (.int .i64 x0.dn.sel) ∧ W.cell? ⟨w.heap.size, 5, none⟩ = some (.int .i64 x0.dn.win) ∧ W.cell? ⟨w.heap.size, 6, none⟩ = some (.int .i64 x0.mn) ∧ W.cell? ⟨w.heap.size, 7, none⟩ = some (.int .i64 x0.mx) ∧ W.cell? ⟨u6.heap.size, 0, none⟩ = some (.slice (some ⟨gq0, 0, none⟩) x0.up.ps.length x0.up.ps.length) ∧ W.cell? ⟨u6.heap.size, 1, none⟩ = some (.int .i64 x0.up.sel) ∧ W.cell? ⟨u6.heap.size, 2, none⟩ = some (.int .i64 x0.up.win) ∧ W.cell? ⟨u6.heap.size, 3, none⟩ = some (.slice (some ⟨hq0, 0, none⟩) x0.dn.ps.length x0.dn.ps.length) ∧ W.cell? ⟨u6.heap.size, 4, none⟩ = some (.int .i64 x0.dn.sel) ∧ W.cell? ⟨u6.heap.size, 5, none⟩ = some (.int .i64 x0.dn.win) ∧ W.cell? ⟨u6.heap.size, 6, none⟩ = some (.int .i64 x0.mn) ∧ W.cell? ⟨u6.heap.size, 7, none⟩ = some (.int .i64 x0.mx)) := fun W h1 h2 => by
          obtain ⟨⟨y0, y1, y2, y3, y4, y5, y6, y7⟩, -⟩ := h1.out.get
          obtain ⟨⟨z0, z1, z2, z3, z4, z5, z6, z7⟩, -⟩ := h2.out.get
          exact ⟨y0, y1, y2, y3, y4, y5, y6, y7, z0, z1, z2, z3, z4, z5, z6, z7⟩
        have HJJ := Lib.hid HJ
        clear HJ
        go_wp2_with fail
        have hb : Below u10.heap.size u10 u10.drew := (Below.refl _ _).drew
        have B_11 := Lib.hid (B_10.out.trans (hb.mono B_10.out.size))
        have K_11 := Lib.hid (K_10.out.kept hb)
        have Q0_11 := Lib.hid (Q0_10.out.kept hb)
        have R0_11 := Lib.hid (R0_10.out.kept hb)
        have KX_11 := Lib.hid (KX_10.out.kept hb)
        have Q1_11 := Lib.hid (Q1_10.out.kept hb)
        have Q2_11 := Lib.hid (Q2_10.out.kept hb)
        clear B_10 K_10 Q0_10 R0_10 KX_10 Q1_10 Q2_10 hb
        go_region_held3 (fun w' => w'.cell? ⟨w.heap.size, 0, none⟩ = some (.slice a0 x0.up.ps.length cap0) ∧ w'.cell? ⟨w.heap.size, 1, none⟩ = some (.int .i64 x0.up.sel) ∧ w'.cell? ⟨w.heap.size, 2, none⟩ = some (.int .i64 x0.up.win) ∧ w'.cell? ⟨w.heap.size, 3, none⟩ = some (.slice aa0 x0.dn.ps.length capp0) ∧ w'.cell? ⟨w.heap.size, 4, none⟩ = some (.int .i64 x0.dn.sel) ∧ w'.cell? ⟨w.heap.size, 5, none⟩ = some (.int .i64 x0.dn.win) ∧ w'.cell? ⟨w.heap.size, 6, none⟩ = some (.int .i64 x0.mn) ∧ w'.cell? ⟨w.heap.size, 7, none⟩ = some (.int .i64 x0.mx) ∧ w'.cell? ⟨u6.heap.size, 0, none⟩ = some (.slice (some ⟨gq0, 0, none⟩) x0.up.ps.length x0.up.ps.length) ∧ w'.cell? ⟨u6.heap.size, 1, none⟩ = some (.int .i64 x0.up.sel) ∧ w'.cell? ⟨u6.heap.size, 2, none⟩ = some (.int .i64 x0.up.win) ∧ w'.cell? ⟨u6.heap.size, 3, none⟩ = some (.slice (some ⟨hq0, 0, none⟩) x0.dn.ps.length x0.dn.ps.length) ∧ w'.cell? ⟨u6.heap.size, 4, none⟩ = some (.int .i64 x0.dn.sel) ∧ w'.cell? ⟨u6.heap.size, 5, none⟩ = some (.int .i64 x0.dn.win) ∧ w'.cell? ⟨u6.heap.size, 6, none⟩ = some (.int .i64 x0.mn) ∧ w'.cell? ⟨u6.heap.size, 7, none⟩ = some (.int .i64 x0.mx))
          (with_reducible (first | exact HJJ.out _ K_13 KX_13 | exact HJJ.out _ K_12 KX_12 | exact HJJ.out _ K_11 KX_11))
          (first
            | (go_at_call 20; refine (SdT.to_behave x0 hn0 hm0 _ _ _ _ _ (HP0.out.kept B_11.out) (HQ0.out.kept B_11.out)).mono ?_; rintro e u12 ⟨gz, hz, rfl, hqz, hrz, hb⟩; have B_12 := Lib.hid (B_11.out.trans (hb.mono B_11.out.size)); have K_12 := Lib.hid (K_11.out.kept hb); have Q0_12 := Lib.hid (Q0_11.out.kept hb); have R0_12 := Lib.hid (R0_11.out.kept hb); have KX_12 := Lib.hid (KX_11.out.kept hb); have Q1_12 := Lib.hid (Q1_11.out.kept hb); have Q2_12 := Lib.hid (Q2_11.out.kept hb); have QZ := Lib.hid hqz; have RZ := Lib.hid hrz; clear hrz; clear hqz hb)
            | (go_at_call 22; refine (SdT.eq_behave x0 _ _ _ _ _ _ _ _ _ Q0_12.out R0_12.out QZ.out RZ.out hn0 hm0).mono ?_; rintro e u13 ⟨rfl, hb⟩; have B_13 := Lib.hid (B_12.out.trans (hb.mono B_12.out.size)); have K_13 := Lib.hid (K_12.out.kept hb); have Q0_13 := Lib.hid (Q0_12.out.kept hb); have R0_13 := Lib.hid (R0_12.out.kept hb); have KX_13 := Lib.hid (KX_12.out.kept hb); have Q1_13 := Lib.hid (Q1_12.out.kept hb); have Q2_13 := Lib.hid (Q2_12.out.kept hb); clear hb))
        go_wp2_with fail
        refine (Nt.to_points z1 _ _ _ (HP1.out.kept B_13.out) hn1).mono ?_
        rintro e u14 ⟨gz1, rfl, hqz, hb⟩
        have B_14 := Lib.hid (B_13.out.trans (hb.mono B_13.out.size))
        have K_14 := Lib.hid (K_13.out.kept hb)
        have Q0_14 := Lib.hid (Q0_13.out.kept hb)
        have R0_14 := Lib.hid (R0_13.out.kept hb)
        have KX_14 := Lib.hid (KX_13.out.kept hb)
        have Q1_14 := Lib.hid (Q1_13.out.kept hb)
        have Q2_14 := Lib.hid (Q2_13.out.kept hb)
        clear B_13 K_13 Q0_13 R0_13 KX_13 Q1_13 Q2_13 hb
        have QZ1 := Lib.hid (Nt.OwnP.pts hqz)
        clear hqz
        go_wp2_with fail
        refine (Nt.eq_points z1 _ _ _ _ _ Q1_14.out QZ1.out hn1).mono ?_
        rintro e u15 ⟨rfl, hb⟩
        have B_15 := Lib.hid (B_14.out.trans (hb.mono B_14.out.size))
        have K_15 := Lib.hid (K_14.out.kept hb)
        have Q0_15 := Lib.hid (Q0_14.out.kept hb)
        have R0_15 := Lib.hid (R0_14.out.kept hb)
        have KX_15 := Lib.hid (KX_14.out.kept hb)
        have Q1_15 := Lib.hid (Q1_14.out.kept hb)
        have Q2_15 := Lib.hid (Q2_14.out.kept hb)
        clear B_14 K_14 Q0_14 R0_14 KX_14 Q1_14 Q2_14 hb
        go_wp2_with fail
        refine (Mv.to_points z2 _ _ _ (HP2.out.kept B_15.out) hn2).mono ?_
        rintro e u16 ⟨gz2, rfl, hqz, hb⟩
        have B_16 := Lib.hid (B_15.out.trans (hb.mono B_15.out.size))
        have K_16 := Lib.hid (K_15.out.kept hb)
        have Q0_16 := Lib.hid (Q0_15.out.kept hb)
        have R0_16 := Lib.hid (R0_15.out.kept hb)
        have KX_16 := Lib.hid (KX_15.out.kept hb)
        have Q1_16 := Lib.hid (Q1_15.out.kept hb)
        have Q2_16 := Lib.hid (Q2_15.out.kept hb)
        clear B_15 K_15 Q0_15 R0_15 KX_15 Q1_15 Q2_15 hb
        have QZ2 := Lib.hid (Mv.OwnP.pts hqz)
        clear hqz
        go_wp2_with fail
        refine (Mv.eq_points z2 _ _ _ _ _ Q2_16.out QZ2.out hn2).mono ?_
        rintro e u17 ⟨rfl, hb⟩
        have B_17 := Lib.hid (B_16.out.trans (hb.mono B_16.out.size))
        have K_17 := Lib.hid (K_16.out.kept hb)
        have Q0_17 := Lib.hid (Q0_16.out.kept hb)
        have R0_17 := Lib.hid (R0_16.out.kept hb)
        have KX_17 := Lib.hid (KX_16.out.kept hb)
        have Q1_17 := Lib.hid (Q1_16.out.kept hb)
        have Q2_17 := Lib.hid (Q2_16.out.kept hb)
        clear B_16 K_16 Q0_16 R0_16 KX_16 Q1_16 Q2_16 hb
        go_wp2
        go_ret
        exact ⟨rfl, B_17.out⟩

set_option maxRecDepth 100000 in
theorem lifted (os : Os) (started : os.Started) (H : Type) (enc : TypeId × Value → H) :
    ReturnsInHanded {} Try.checked os 6 .any (Rows.fnExactDecideSpec.pre6 enc Try.prog Try.f6 Rows.fnExactDecideRow.domain false) (Rows.fnExactDecideSpec.post enc Try.prog Try.f6 false true false false) := by
  refine returnsInHanded_of_change (C := Try.checked) own started (by kernel_rfl) Try.func6
    (ChangeSpec.witness6 (enc := enc) (C := Try.checked) false ⟨#[], #[.agg #[.slice none 0 0, .int .i64 0, .int .i64 0, .slice none 0 0, .int .i64 0, .int .i64 0, .int .i64 0, .int .i64 0], .slice none 0 0, .slice none 0 0, .int .i64 0, .int .i64 0, .int .i64 0], []⟩ 8 (by kernel_rfl) (by kernel_rfl) (by kernel_rfl) (by kernel_rfl)) ?_
  intro W base args ds gs before hval0 hW hcnd _
  have hval : ∀ (j : Nat) t v, Try.f6.params[j]? = some t → args[j]? = some v → Value.okWide Try.prog W .any base t v := hval0
  clear hval0
  have hW' := hW
  obtain ⟨p, q, hA0, hV, rfl, hfz, hnd⟩ := hW
  have hA : DataW.TrodAll enc Try.prog W 0 (fun _ => true) true Try.f6.params.toList args.toList ds p := hA0
  rw [Try.params6] at hA hval
  obtain ⟨v0, vs0, d0, ds0, p0, q0, hargs, rfl, rfl, h0, r0⟩ := trodAll_cons hA
  obtain ⟨v1, vs1, d1, ds1, p1, q1, rfl, rfl, rfl, h1, r1⟩ := trodAll_cons r0
  obtain ⟨v2, vs2, d2, ds2, p2, q2, rfl, rfl, rfl, h2, r2⟩ := trodAll_cons r1
  obtain ⟨v3, vs3, d3, ds3, p3, q3, rfl, rfl, rfl, h3, r3⟩ := trodAll_cons r2
  obtain ⟨v4, vs4, d4, ds4, p4, q4, rfl, rfl, rfl, h4, r4⟩ := trodAll_cons r3
  obtain ⟨v5, vs5, d5, ds5, p5, q5, rfl, rfl, rfl, h5, r5⟩ := trodAll_cons r4
  obtain ⟨rfl, rfl, rfl⟩ := trodAll_nil r5
  obtain rfl : args = #[v0, v1, v2, v3, v4, v5] := by cases args; simp_all
  obtain ⟨rfl, rfl⟩ := trodVars_none hV
  have k0 := h0
  have lt0 : ∀ x ∈ p0, x.block < W.heap.size := by obtain ⟨m, hm⟩ := k0; exact DataW.trod_lt m _ _ _ hm
  have k1 := h1
  have lt1 : ∀ x ∈ p1, x.block < W.heap.size := by obtain ⟨m, hm⟩ := k1; exact DataW.trod_lt m _ _ _ hm
  have k2 := h2
  have lt2 : ∀ x ∈ p2, x.block < W.heap.size := by obtain ⟨m, hm⟩ := k2; exact DataW.trod_lt m _ _ _ hm
  have k3 := h3
  have lt3 : ∀ x ∈ p3, x.block < W.heap.size := by obtain ⟨m, hm⟩ := k3; exact DataW.trod_lt m _ _ _ hm
  have k4 := h4
  have lt4 : ∀ x ∈ p4, x.block < W.heap.size := by obtain ⟨m, hm⟩ := k4; exact DataW.trod_lt m _ _ _ hm
  have k5 := h5
  have lt5 : ∀ x ∈ p5, x.block < W.heap.size := by obtain ⟨m, hm⟩ := k5; exact DataW.trod_lt m _ _ _ hm
  obtain ⟨x0, a0, cap0, aa0, capp0, rfl, wf0, ws0, wt0⟩ := Pl.open_behave Try.underlying39 (by kernel_rfl) ⟨rfl, rfl, rfl, rfl⟩ ⟨rfl, rfl, rfl, rfl⟩ (by kernel_rfl) Try.underlying24 (by kernel_rfl) (by kernel_rfl) ⟨rfl, rfl, rfl⟩ Try.underlying22 Try.underlying99 (by kernel_rfl) (by kernel_rfl) ⟨rfl, rfl, rfl⟩ Try.underlying3 (hval 0 39 v0 rfl rfl) h0
  have w0 := And.intro wf0 (And.intro ws0 wt0)
  obtain ⟨a1, len1, cap1, rfl⟩ := okWide_slice Try.underlying47 (hval 1 47 v1 rfl rfl)
  obtain ⟨z1, w1⟩ : ∃ zs, Pl.IsPts W a1 len1 cap1 zs := by
    obtain ⟨fuel, hf⟩ := h1
    exact Pl.open_row2 Try.underlying47 Try.underlying92 (by kernel_rfl) (by kernel_rfl) ⟨rfl, rfl⟩ Try.underlying3 hf
  obtain ⟨a2, len2, cap2, rfl⟩ := okWide_slice Try.underlying25 (hval 2 25 v2 rfl rfl)
  obtain ⟨z2, w2⟩ : ∃ zs, Pl.IsPts W a2 len2 cap2 zs := by
    obtain ⟨fuel, hf⟩ := h2
    exact Pl.open_row2 Try.underlying25 Try.underlying67 (by kernel_rfl) (by kernel_rfl) ⟨rfl, rfl⟩ Try.underlying3 hf
  obtain ⟨a3, rfl, rfl, rfl, w3⟩ := open_int Try.underlying3 (hval 3 3 v3 rfl rfl) h3
  obtain ⟨a4, rfl, rfl, rfl, w4⟩ := open_int Try.underlying3 (hval 4 3 v4 rfl rfl) h4
  obtain ⟨a5, rfl, rfl, rfl, w5⟩ := open_int Try.underlying3 (hval 5 3 v5 rfl rfl) h5
  clear hA0
  refine (walk x0 a0 cap0 aa0 capp0 a1 len1 cap1 z1 a2 len2 cap2 z2 a3 a4 a5 W w0 w1 w2 w3 w4 w5).mono fun e W' ⟨he, bel⟩ => ?_
  subst he
  exact ⟨_, rfl, _, _, _, [], _, [], hW', trodAll_mk1 (shut_bool Try.underlying4 _), (trodAll_cons_mk (Below.trod laidOut (by kernel_rfl) (of_decide_eq_true (by kernel_rfl)) k0 bel lt0) (trodAll_cons_mk (Below.trod laidOut (by kernel_rfl) (of_decide_eq_true (by kernel_rfl)) k1 bel lt1) (trodAll_cons_mk (Below.trod laidOut (by kernel_rfl) (of_decide_eq_true (by kernel_rfl)) k2 bel lt2) (trodAll_cons_mk (shut_int Try.underlying3 w3) (trodAll_cons_mk (shut_int Try.underlying3 w4) (trodAll_cons_mk (shut_int Try.underlying3 w5) trodAll_mk0)))))), rfl, bel.frame _, fun h => by cases h⟩

theorem over : Rows.fnExactDecideRow.holds Try.pinned (OpenSpec.ofChange Rows.fnExactDecideSpec) :=
  OpenClaim.holds_of_wide 6 Try.f6 rfl rfl rfl rfl rfl rfl rfl ⟨rfl, rfl, rfl, rfl, rfl⟩ rfl rfl rfl rfl rfl (by kernel_rfl) Try.func6 (by kernel_rfl)
    (of_decide_eq_true (by kernel_rfl)) (by unfold Func.isWrapper; first | (rw [if_pos (by decide +kernel)]; kernel_rfl) | (rw [if_neg (by decide +kernel)]; exact ⟨rfl, rfl⟩))
    (fun os started H enc _ => lifted os started H enc)

/-- THE STATEMENT. -/
theorem proved : Rows.FnExactDecideSaid := over
end Go.Proofs.Ytkehidjdlefojab.fnExactDecide
