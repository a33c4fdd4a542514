/- For every input that can be read, the Go function laws.FnExactDownBound returns true and leaves its arguments as they read: the statement Rows.FnExactDownBoundSaid, without a condition of ours. -/
import Derived.Test.YtkehidjdlefojabRows
import Derived.WalkKit
import Derived.ProofKit
import Derived.OpenShut
import Derived.ShutString
import Derived.ChangeOld
import Derived.Below
import Derived.Test.YtkehidjdlefojabC1
import Derived.Test.YtkehidjdlefojabC2
import Derived.Test.YtkehidjdlefojabSmps
import Derived.Test.YtkehidjdlefojabMem
import Derived.Test.YtkehidjdlefojabSer
import Derived.Test.YtkehidjdlefojabSer2
import Derived.Test.YtkehidjdlefojabNt
import Derived.Test.YtkehidjdlefojabMv
import Derived.Test.YtkehidjdlefojabPl
import Derived.Test.YtkehidjdlefojabBhM
import Derived.Test.YtkehidjdlefojabLogS
import Derived.Test.YtkehidjdlefojabBhI
import Derived.Test.YtkehidjdlefojabLogI
import Derived.Test.YtkehidjdlefojabSdS
import Derived.Test.YtkehidjdlefojabSdI
import Derived.Test.YtkehidjdlefojabSdT
import Derived.Test.YtkehidjdlefojabRH
import Derived.Test.YtkehidjdlefojabItr
import Derived.Test.YtkehidjdlefojabTail
import Derived.Test.YtkehidjdlefojabWin
import Derived.Test.YtkehidjdlefojabExt
import Derived.Test.YtkehidjdlefojabCons
import Derived.Test.YtkehidjdlefojabMvd
import Derived.Test.YtkehidjdlefojabStd
import Derived.Test.YtkehidjdlefojabBndS
import Derived.Test.YtkehidjdlefojabBndD
import Derived.Test.YtkehidjdlefojabBndI
import Derived.Test.YtkehidjdlefojabBndJ
import Derived.Test.YtkehidjdlefojabBndU
namespace Go.Proofs.Ytkehidjdlefojab.fnExactDownBound
open Go.ChangeShapes Go.WideShapes Go.ChangeAt Go.RowKit
open Go.ChangeMaps (open_string shut_string)
open Go.Proofs.Ytkehidjdlefojab.C1
open Go.Proofs.Ytkehidjdlefojab.C2
open Go.Proofs.Ytkehidjdlefojab.Smps
open Go.Proofs.Ytkehidjdlefojab.Mem
open Go.Proofs.Ytkehidjdlefojab.Ser
open Go.Proofs.Ytkehidjdlefojab.Ser2
open Go.Proofs.Ytkehidjdlefojab.Nt
open Go.Proofs.Ytkehidjdlefojab.Mv
open Go.Proofs.Ytkehidjdlefojab.Pl
open Go.Proofs.Ytkehidjdlefojab.BhM
open Go.Proofs.Ytkehidjdlefojab.LogS
open Go.Proofs.Ytkehidjdlefojab.BhI
open Go.Proofs.Ytkehidjdlefojab.LogI
open Go.Proofs.Ytkehidjdlefojab.SdS
open Go.Proofs.Ytkehidjdlefojab.SdI
open Go.Proofs.Ytkehidjdlefojab.SdT
open Go.Proofs.Ytkehidjdlefojab.RH
open Go.Proofs.Ytkehidjdlefojab.Itr
open Go.Proofs.Ytkehidjdlefojab.Tail
open Go.Proofs.Ytkehidjdlefojab.Win
open Go.Proofs.Ytkehidjdlefojab.Ext
open Go.Proofs.Ytkehidjdlefojab.Cons
open Go.Proofs.Ytkehidjdlefojab.Mvd
open Go.Proofs.Ytkehidjdlefojab.Std
open Go.Proofs.Ytkehidjdlefojab.BndS
open Go.Proofs.Ytkehidjdlefojab.BndD
open Go.Proofs.Ytkehidjdlefojab.BndI
open Go.Proofs.Ytkehidjdlefojab.BndJ
open Go.Proofs.Ytkehidjdlefojab.BndU
set_option linter.unusedVariables false

theorem own : ownKnob Try.prog.godebug = none := by kernel_rfl
theorem laidOut : laidOutB Try.prog = true := by kernel_rfl
set_option maxHeartbeats 4000000 in
set_option maxRecDepth 100000 in
theorem walk (x0 : Pl.Sd) (a0 : Option Addr) (cap0 : Nat) (a1 : Option Addr) (len1 cap1 : Nat) (z1 : List Ser.Pt) (a2 : Int) (a3 : Int) (w : World) (w0 : x0.wf ∧ Pl.Pls w a0 x0.ps) (w1 : Pl.IsPts w a1 len1 cap1 z1) (w2 : (Lit.int .i64 a2).wf = true) (w3 : (Lit.int .i64 a3).wf = true)  :
    Calls Try.prog 4 #[Pl.sdV x0 a0 cap0, .slice a1 len1 cap1, .int .i64 a2, .int .i64 a3] w fun e w' => e = .returned (.bool true) ∧ Below w.heap.size w w' := by
  obtain ⟨wf0, hp0⟩ := w0
  have hml0 : x0.ps.length ≤ 9223372036854775807 := by have := wf0.len; unfold maxLen at this; omega
  have HP0 := Lib.hid hp0
  have HW0 := Lib.hid wf0
  clear wf0 hp0
  obtain ⟨hl1, hmax1, hwf1, hp1⟩ := w1
  subst hl1
  have hml1 : z1.length ≤ 9223372036854775807 := by unfold maxLen at hmax1; omega
  have HP1 := Lib.hid hp1
  clear hwf1 hp1 hmax1
  have hsz0 := fun w => sz_side x0 HW0.out a0 cap0 1048576 (by omega) (by omega) w
  by_cases hs0 : (1048576 : Int) < x0.ps.length
  · simp only [if_pos hs0] at hsz0
    have HSZ0 := Lib.hid hsz0
    clear hsz0
    unfold Pl.sdV
    go_enter Try.func4, Try.ntmps4
    go_wp2_with fail
    refine (HSZ0.out _).mono ?_
    rintro e u1 ⟨rfl, hb⟩
    obtain ⟨k0, hB, hz⟩ := one_read hb
    have K_1 : Hid (SdT.CW3 u1 w.heap.size (.slice a0 x0.ps.length cap0) (.int .i64 x0.sel) (.int .i64 x0.win)) := k0
    have B_1 := Lib.hid hB
    clear k0 hB hz hb
    obtain ⟨⟨ck0, ck1, ck2⟩, -⟩ := K_1.out.get
    go_wp2
    go_ret
    exact ⟨rfl, B_1.out⟩
  · obtain ⟨l0, hl0, hl0a, hl0b⟩ : ∃ l : Int, (1048576 : Int) - x0.ps.length = l ∧ 0 ≤ l ∧ l ≤ 1048576 := ⟨_, rfl, by omega, by omega⟩
    simp only [if_neg hs0, hl0] at hsz0
    have HSZ0 := Lib.hid hsz0
    clear hsz0
    have hsz1 := fun w => Mv.sz_points z1.length a1 cap1 hml1 (l0) (by omega) (by omega) w
    by_cases hs1 : (l0 : Int) < z1.length
    · simp only [if_pos hs1] at hsz1
      have HSZ1 := Lib.hid hsz1
      clear hsz1
      unfold Pl.sdV
      go_enter Try.func4, Try.ntmps4
      go_wp2_with fail
      refine (HSZ0.out _).mono ?_
      rintro e u1 ⟨rfl, hb⟩
      obtain ⟨k0, hB, hz⟩ := one_read hb
      have K_1 : Hid (SdT.CW3 u1 w.heap.size (.slice a0 x0.ps.length cap0) (.int .i64 x0.sel) (.int .i64 x0.win)) := k0
      have B_1 := Lib.hid hB
      clear k0 hB hz hb
      obtain ⟨⟨ck0, ck1, ck2⟩, -⟩ := K_1.out.get
      go_wp2_with fail
      refine (HSZ1.out _).mono ?_
      rintro e wz ⟨rfl, hww⟩
      obtain rfl := hww.symm
      clear hww
      clear ck0 ck1 ck2 
      obtain ⟨⟨ck0, ck1, ck2⟩, -⟩ := K_1.out.get
      go_wp2
      go_ret
      exact ⟨rfl, B_1.out⟩
    · obtain ⟨l1, hl1, hl1a, hl1b⟩ : ∃ l : Int, (l0 : Int) - z1.length = l ∧ 0 ≤ l ∧ l ≤ 1048576 := ⟨_, rfl, by omega, by omega⟩
      simp only [if_neg hs1, hl1] at hsz1
      have HSZ1 := Lib.hid hsz1
      clear hsz1
      have hn0 : x0.ps.length ≤ 1048576 := by omega
      have hn1 : z1.length ≤ 1048576 := by omega
      have hsp := fun a c an cn w h h1 => spec_dn x0 a c z1 an cn a2 a3 w h h1 hn0 hn1
      have him := fun a c an cn w h h1 => impl_dn x0 a c z1 an cn a2 a3 w h h1 hn0 hn1
      obtain ⟨v, hv⟩ : ∃ v, dnV x0 z1 a2 a3 = v := ⟨_, rfl⟩
      simp only [hv] at hsp him
      clear hv
      have hvv : (v != v) = false := by simp
      have HSP := Lib.hid hsp
      have HIM := Lib.hid him
      clear hsp him
      clear hl0 hs0
      clear hl1 hs1
      unfold Pl.sdV
      go_enter Try.func4, Try.ntmps4
      go_wp2_with fail
      refine (HSZ0.out _).mono ?_
      rintro e u1 ⟨rfl, hb⟩
      obtain ⟨k0, hB, hz⟩ := one_read hb
      have K_1 : Hid (SdT.CW3 u1 w.heap.size (.slice a0 x0.ps.length cap0) (.int .i64 x0.sel) (.int .i64 x0.win)) := k0
      have B_1 := Lib.hid hB
      clear k0 hB hz hb
      obtain ⟨⟨ck0, ck1, ck2⟩, -⟩ := K_1.out.get
      go_wp2_with fail
      refine (HSZ1.out _).mono ?_
      rintro e wz ⟨rfl, hww⟩
      obtain rfl := hww.symm
      clear hww
      clear ck0 ck1 ck2 
      obtain ⟨⟨ck0, ck1, ck2⟩, -⟩ := K_1.out.get
      go_wp2_with fail
      refine (SdT.to_side x0 hn0 _ _ _ (HP0.out.kept B_1.out)).mono ?_
      rintro e u2 ⟨gq0, rfl, hg, hq, hb⟩
      have B_2 := Lib.hid (B_1.out.trans (hb.mono B_1.out.size))
      have K_2 := Lib.hid (K_1.out.kept hb)
      clear B_1 K_1 ck0 ck1 ck2 hb
      clear hg
      have Q0_2 := Lib.hid hq
      clear hq
      obtain ⟨⟨ck0, ck1, ck2⟩, -⟩ := K_2.out.get
      go_wp2_with fail
      refine (Mv.to_points z1 _ _ _ (HP1.out.kept B_2.out) hn1).mono ?_
      rintro e u3 ⟨gq1, rfl, hq, hb⟩
      have B_3 := Lib.hid (B_2.out.trans (hb.mono B_2.out.size))
      have K_3 := Lib.hid (K_2.out.kept hb)
      have Q0_3 := Lib.hid (Q0_2.out.kept hb)
      clear B_2 K_2 Q0_2 ck0 ck1 ck2 hb
      have Q1_3 := Lib.hid (Mv.OwnP.pts hq)
      clear hq
      obtain ⟨⟨ck0, ck1, ck2⟩, -⟩ := K_3.out.get
      go_wp2_with fail
      refine (HSP.out _ _ _ _ _ Q0_3.out Q1_3.out).mono ?_
      rintro e u4 ⟨rfl, hb⟩
      have B_4 := Lib.hid (B_3.out.trans (hb.mono B_3.out.size))
      have K_4 := Lib.hid (K_3.out.kept hb)
      have Q0_4 := Lib.hid (Q0_3.out.kept hb)
      have Q1_4 := Lib.hid (Q1_3.out.kept hb)
      clear B_3 K_3 Q0_3 Q1_3 ck0 ck1 ck2 hb
      clear Q0_4
      clear Q1_4
      obtain ⟨⟨ck0, ck1, ck2⟩, -⟩ := K_4.out.get
      go_wp2_with fail
      refine (SdT.to_side x0 hn0 _ _ _ (HP0.out.kept B_4.out)).mono ?_
      rintro e u5 ⟨gq0, rfl, hg, hq, hb⟩
      have B_5 := Lib.hid (B_4.out.trans (hb.mono B_4.out.size))
      have K_5 := Lib.hid (K_4.out.kept hb)
      clear B_4 K_4 ck0 ck1 ck2 hb
      clear hg
      have Q0_5 := Lib.hid hq
      clear hq
      have hb := box_below u5 #[.slice (some ⟨gq0, 0, none⟩) x0.ps.length x0.ps.length, .int .i64 x0.sel, .int .i64 x0.win] 31
      have B_6 := Lib.hid (B_5.out.trans (hb.mono B_5.out.size))
      have K_6 := Lib.hid (K_5.out.kept hb)
      have Q0_6 := Lib.hid (Q0_5.out.kept hb)
      clear B_5 K_5 Q0_5 hb
      have KX_6 : Hid (SdT.CW3 (u5.alloc (.cells #[.slice (some ⟨gq0, 0, none⟩) x0.ps.length x0.ps.length, .int .i64 x0.sel, .int .i64 x0.win] 31)) u5.heap.size (.slice (some ⟨gq0, 0, none⟩) x0.ps.length x0.ps.length) (.int .i64 x0.sel) (.int .i64 x0.win)) := Ser2.cells_new u5 #[.slice (some ⟨gq0, 0, none⟩) x0.ps.length x0.ps.length, .int .i64 x0.sel, .int .i64 x0.win] 31
      go_wp2_with fail
      obtain ⟨u6, hu6⟩ : ∃ y, u5.alloc (.cells #[.slice (some ⟨gq0, 0, none⟩) x0.ps.length x0.ps.length, .int .i64 x0.sel, .int .i64 x0.win] 31) = y := ⟨_, rfl⟩
      rw [hu6] at B_6 K_6 Q0_6 KX_6 ⊢
      clear hu6
      refine (Mv.to_points z1 _ _ _ (HP1.out.kept B_6.out) hn1).mono ?_
      rintro e u7 ⟨gq1, rfl, hq, hb⟩
      have B_7 := Lib.hid (B_6.out.trans (hb.mono B_6.out.size))
      have K_7 := Lib.hid (K_6.out.kept hb)
      have Q0_7 := Lib.hid (Q0_6.out.kept hb)
      have KX_7 := Lib.hid (KX_6.out.kept hb)
      clear B_6 K_6 Q0_6 KX_6 hb
      have Q1_7 := Lib.hid (Mv.OwnP.pts hq)
      clear hq
      obtain ⟨⟨ck0, ck1, ck2⟩, -⟩ := K_7.out.get
      obtain ⟨⟨cx0, cx1, cx2⟩, -⟩ := KX_7.out.get
      go_wp2_with fail
      refine (HIM.out _ _ _ _ _ Q0_7.out Q1_7.out).mono ?_
      rintro e u8 ⟨rfl, hb⟩
      have B_8 := Lib.hid (B_7.out.trans (hb.mono B_7.out.size))
      have K_8 := Lib.hid (K_7.out.kept hb)
      have Q0_8 := Lib.hid (Q0_7.out.kept hb)
      have KX_8 := Lib.hid (KX_7.out.kept hb)
      have Q1_8 := Lib.hid (Q1_7.out.kept hb)
      clear B_7 K_7 Q0_7 KX_7 Q1_7 ck0 ck1 ck2 cx0 cx1 cx2 hb
      have HJ : ∀ W, Hid (SdT.CW3 W w.heap.size (.slice a0 x0.ps.length cap0) (.int .i64 x0.sel) (.int .i64 x0.win)) → Hid (SdT.CW3 W u5.heap.size (.slice (some ⟨gq0, 0, none⟩) x0.ps.length x0.ps.length) (.int .i64 x0.sel) (.int .i64 x0.win)) → (W.cell? ⟨w.heap.size, 0, none⟩ = some (.slice a0 x0.ps.length cap0) ∧ W.cell? ⟨w.heap.size, 1, none⟩ = some (.int .i64 x0.sel) ∧ W.cell? ⟨w.heap.size, 2, none⟩ = some (.int .i64 x0.win) ∧ W.cell? ⟨u5.heap.size, 0, none⟩ = some (.slice (some ⟨gq0, 0, none⟩) x0.ps.length x0.ps.length) ∧ W.cell? ⟨u5.heap.size, 1, none⟩ = some (.int .i64 x0.sel) ∧ W.cell? ⟨u5.heap.size, 2, none⟩ = some (.int .i64 x0.win)) := fun W h1 h2 => by
        obtain ⟨⟨y0, y1, y2⟩, -⟩ := h1.out.get
        obtain ⟨⟨z0, z1, z2⟩, -⟩ := h2.out.get
        exact ⟨y0, y1, y2, z0, z1, z2⟩
      have HJJ := Lib.hid HJ
      clear HJ
      go_wp2_with fail
      have hb : Below u8.heap.size u8 u8.drew := (Below.refl _ _).drew
      have B_9 := Lib.hid (B_8.out.trans (hb.mono B_8.out.size))
      have K_9 := Lib.hid (K_8.out.kept hb)
      have Q0_9 := Lib.hid (Q0_8.out.kept hb)
      have KX_9 := Lib.hid (KX_8.out.kept hb)
      have Q1_9 := Lib.hid (Q1_8.out.kept hb)
      clear B_8 K_8 Q0_8 KX_8 Q1_8 hb
      go_region_held3 (fun w' => w'.cell? ⟨w.heap.size, 0, none⟩ = some (.slice a0 x0.ps.length cap0) ∧ w'.cell? ⟨w.heap.size, 1, none⟩ = some (.int .i64 x0.sel) ∧ w'.cell? ⟨w.heap.size, 2, none⟩ = some (.int .i64 x0.win) ∧ w'.cell? ⟨u5.heap.size, 0, none⟩ = some (.slice (some ⟨gq0, 0, none⟩) x0.ps.length x0.ps.length) ∧ w'.cell? ⟨u5.heap.size, 1, none⟩ = some (.int .i64 x0.sel) ∧ w'.cell? ⟨u5.heap.size, 2, none⟩ = some (.int .i64 x0.win))
        (with_reducible (first | exact HJJ.out _ K_11 KX_11 | exact HJJ.out _ K_10 KX_10 | exact HJJ.out _ K_9 KX_9))
        (first
          | (go_at_call 11; refine (SdT.to_side x0 hn0 _ _ _ (HP0.out.kept B_9.out)).mono ?_; rintro e u10 ⟨gz, rfl, hg, hqz, hb⟩; have B_10 := Lib.hid (B_9.out.trans (hb.mono B_9.out.size)); have K_10 := Lib.hid (K_9.out.kept hb); have Q0_10 := Lib.hid (Q0_9.out.kept hb); have KX_10 := Lib.hid (KX_9.out.kept hb); have Q1_10 := Lib.hid (Q1_9.out.kept hb); have QZ := Lib.hid hqz; clear hg; clear hqz hb)
          | (go_at_call 14; refine (SdT.eq_side x0 _ _ _ _ _ Q0_10.out QZ.out hn0).mono ?_; rintro e u11 ⟨rfl, hb⟩; have B_11 := Lib.hid (B_10.out.trans (hb.mono B_10.out.size)); have K_11 := Lib.hid (K_10.out.kept hb); have Q0_11 := Lib.hid (Q0_10.out.kept hb); have KX_11 := Lib.hid (KX_10.out.kept hb); have Q1_11 := Lib.hid (Q1_10.out.kept hb); clear hb))
      go_wp2_with fail
      refine (Mv.to_points z1 _ _ _ (HP1.out.kept B_11.out) hn1).mono ?_
      rintro e u12 ⟨gz1, rfl, hqz, hb⟩
      have B_12 := Lib.hid (B_11.out.trans (hb.mono B_11.out.size))
      have K_12 := Lib.hid (K_11.out.kept hb)
      have Q0_12 := Lib.hid (Q0_11.out.kept hb)
      have KX_12 := Lib.hid (KX_11.out.kept hb)
      have Q1_12 := Lib.hid (Q1_11.out.kept hb)
      clear B_11 K_11 Q0_11 KX_11 Q1_11 hb
      have QZ1 := Lib.hid (Mv.OwnP.pts hqz)
      clear hqz
      go_wp2_with fail
      refine (Mv.eq_points z1 _ _ _ _ _ Q1_12.out QZ1.out hn1).mono ?_
      rintro e u13 ⟨rfl, hb⟩
      have B_13 := Lib.hid (B_12.out.trans (hb.mono B_12.out.size))
      have K_13 := Lib.hid (K_12.out.kept hb)
      have Q0_13 := Lib.hid (Q0_12.out.kept hb)
      have KX_13 := Lib.hid (KX_12.out.kept hb)
      have Q1_13 := Lib.hid (Q1_12.out.kept hb)
      clear B_12 K_12 Q0_12 KX_12 Q1_12 hb
      go_wp2
      go_ret
      exact ⟨rfl, B_13.out⟩

set_option maxRecDepth 100000 in
theorem lifted (os : Os) (started : os.Started) (H : Type) (enc : TypeId × Value → H) :
    ReturnsInHanded {} Try.checked os 4 .any (Rows.fnExactDownBoundSpec.pre6 enc Try.prog Try.f4 Rows.fnExactDownBoundRow.domain false) (Rows.fnExactDownBoundSpec.post enc Try.prog Try.f4 false true false false) := by
  refine returnsInHanded_of_change (C := Try.checked) own started (by kernel_rfl) Try.func4
    (ChangeSpec.witness6 (enc := enc) (C := Try.checked) false ⟨#[], #[.agg #[.slice none 0 0, .int .i64 0, .int .i64 0], .slice none 0 0, .int .i64 0, .int .i64 0], []⟩ 8 (by kernel_rfl) (by kernel_rfl) (by kernel_rfl) (by kernel_rfl)) ?_
  intro W base args ds gs before hval0 hW hcnd _
  have hval : ∀ (j : Nat) t v, Try.f4.params[j]? = some t → args[j]? = some v → Value.okWide Try.prog W .any base t v := hval0
  clear hval0
  have hW' := hW
  obtain ⟨p, q, hA0, hV, rfl, hfz, hnd⟩ := hW
  have hA : DataW.TrodAll enc Try.prog W 0 (fun _ => true) true Try.f4.params.toList args.toList ds p := hA0
  rw [Try.params4] at hA hval
  obtain ⟨v0, vs0, d0, ds0, p0, q0, hargs, rfl, rfl, h0, r0⟩ := trodAll_cons hA
  obtain ⟨v1, vs1, d1, ds1, p1, q1, rfl, rfl, rfl, h1, r1⟩ := trodAll_cons r0
  obtain ⟨v2, vs2, d2, ds2, p2, q2, rfl, rfl, rfl, h2, r2⟩ := trodAll_cons r1
  obtain ⟨v3, vs3, d3, ds3, p3, q3, rfl, rfl, rfl, h3, r3⟩ := trodAll_cons r2
  obtain ⟨rfl, rfl, rfl⟩ := trodAll_nil r3
  obtain rfl : args = #[v0, v1, v2, v3] := by cases args; simp_all
  obtain ⟨rfl, rfl⟩ := trodVars_none hV
  have k0 := h0
  have lt0 : ∀ x ∈ p0, x.block < W.heap.size := by obtain ⟨m, hm⟩ := k0; exact DataW.trod_lt m _ _ _ hm
  have k1 := h1
  have lt1 : ∀ x ∈ p1, x.block < W.heap.size := by obtain ⟨m, hm⟩ := k1; exact DataW.trod_lt m _ _ _ hm
  have k2 := h2
  have lt2 : ∀ x ∈ p2, x.block < W.heap.size := by obtain ⟨m, hm⟩ := k2; exact DataW.trod_lt m _ _ _ hm
  have k3 := h3
  have lt3 : ∀ x ∈ p3, x.block < W.heap.size := by obtain ⟨m, hm⟩ := k3; exact DataW.trod_lt m _ _ _ hm
  obtain ⟨x0, a0, cap0, rfl, wf0, ws0⟩ := Pl.open_side Try.underlying24 (by kernel_rfl) (by kernel_rfl) ⟨rfl, rfl, rfl⟩ Try.underlying22 Try.underlying99 (by kernel_rfl) (by kernel_rfl) ⟨rfl, rfl, rfl⟩ Try.underlying3 (hval 0 24 v0 rfl rfl) h0
  have w0 := And.intro wf0 ws0
  obtain ⟨a1, len1, cap1, rfl⟩ := okWide_slice Try.underlying25 (hval 1 25 v1 rfl rfl)
  obtain ⟨z1, w1⟩ : ∃ zs, Pl.IsPts W a1 len1 cap1 zs := by
    obtain ⟨fuel, hf⟩ := h1
    exact Pl.open_row2 Try.underlying25 Try.underlying67 (by kernel_rfl) (by kernel_rfl) ⟨rfl, rfl⟩ Try.underlying3 hf
  obtain ⟨a2, rfl, rfl, rfl, w2⟩ := open_int Try.underlying3 (hval 2 3 v2 rfl rfl) h2
  obtain ⟨a3, rfl, rfl, rfl, w3⟩ := open_int Try.underlying3 (hval 3 3 v3 rfl rfl) h3
  clear hA0
  refine (walk x0 a0 cap0 a1 len1 cap1 z1 a2 a3 W w0 w1 w2 w3).mono fun e W' ⟨he, bel⟩ => ?_
  subst he
  exact ⟨_, rfl, _, _, _, [], _, [], hW', trodAll_mk1 (shut_bool Try.underlying4 _), (trodAll_cons_mk (Below.trod laidOut (by kernel_rfl) (of_decide_eq_true (by kernel_rfl)) k0 bel lt0) (trodAll_cons_mk (Below.trod laidOut (by kernel_rfl) (of_decide_eq_true (by kernel_rfl)) k1 bel lt1) (trodAll_cons_mk (shut_int Try.underlying3 w2) (trodAll_cons_mk (shut_int Try.underlying3 w3) trodAll_mk0)))), rfl, bel.frame _, fun h => by cases h⟩

theorem over : Rows.fnExactDownBoundRow.holds Try.pinned (OpenSpec.ofChange Rows.fnExactDownBoundSpec) :=
  OpenClaim.holds_of_wide 4 Try.f4 rfl rfl rfl rfl rfl rfl rfl ⟨rfl, rfl, rfl, rfl, rfl⟩ rfl rfl rfl rfl rfl (by kernel_rfl) Try.func4 (by kernel_rfl)
    (of_decide_eq_true (by kernel_rfl)) (by unfold Func.isWrapper; first | (rw [if_pos (by decide +kernel)]; kernel_rfl) | (rw [if_neg (by decide +kernel)]; exact ⟨rfl, rfl⟩))
    (fun os started H enc _ => lifted os started H enc)

/-- THE STATEMENT. -/
theorem proved : Rows.FnExactDownBoundSaid := over
end Go.Proofs.Ytkehidjdlefojab.fnExactDownBound
