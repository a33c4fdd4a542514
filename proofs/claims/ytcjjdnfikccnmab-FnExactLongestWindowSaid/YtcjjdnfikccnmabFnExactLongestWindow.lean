/- For every input that can be read, the Go function laws.FnExactLongestWindow returns true and leaves its arguments as they read: the statement Rows.FnExactLongestWindowSaid, without a condition of ours. -/
import Derived.Test.YtcjjdnfikccnmabRows
import Derived.WalkKit
import Derived.ProofKit
import Derived.OpenShut
import Derived.ShutString
import Derived.ChangeOld
import Derived.Below
import Derived.Test.YtcjjdnfikccnmabC1
import Derived.Test.YtcjjdnfikccnmabC2
import Derived.Test.YtcjjdnfikccnmabSmps
import Derived.Test.YtcjjdnfikccnmabMem
import Derived.Test.YtcjjdnfikccnmabSer
import Derived.Test.YtcjjdnfikccnmabSer2
import Derived.Test.YtcjjdnfikccnmabNt
import Derived.Test.YtcjjdnfikccnmabMv
import Derived.Test.YtcjjdnfikccnmabPl
import Derived.Test.YtcjjdnfikccnmabBhM
import Derived.Test.YtcjjdnfikccnmabLogS
import Derived.Test.YtcjjdnfikccnmabBhI
import Derived.Test.YtcjjdnfikccnmabLogI
import Derived.Test.YtcjjdnfikccnmabSdS
import Derived.Test.YtcjjdnfikccnmabSdI
import Derived.Test.YtcjjdnfikccnmabSdT
import Derived.Test.YtcjjdnfikccnmabRH
import Derived.Test.YtcjjdnfikccnmabSum
import Derived.Test.YtcjjdnfikccnmabLong
namespace Go.Proofs.Ytcjjdnfikccnmab.fnExactLongestWindow
open Go.ChangeShapes Go.WideShapes Go.ChangeAt Go.RowKit
open Go.ChangeMaps (open_string shut_string)
open Go.Proofs.Ytcjjdnfikccnmab.C1
open Go.Proofs.Ytcjjdnfikccnmab.C2
open Go.Proofs.Ytcjjdnfikccnmab.Smps
open Go.Proofs.Ytcjjdnfikccnmab.Mem
open Go.Proofs.Ytcjjdnfikccnmab.Ser
open Go.Proofs.Ytcjjdnfikccnmab.Ser2
open Go.Proofs.Ytcjjdnfikccnmab.Nt
open Go.Proofs.Ytcjjdnfikccnmab.Mv
open Go.Proofs.Ytcjjdnfikccnmab.Pl
open Go.Proofs.Ytcjjdnfikccnmab.BhM
open Go.Proofs.Ytcjjdnfikccnmab.LogS
open Go.Proofs.Ytcjjdnfikccnmab.BhI
open Go.Proofs.Ytcjjdnfikccnmab.LogI
open Go.Proofs.Ytcjjdnfikccnmab.SdS
open Go.Proofs.Ytcjjdnfikccnmab.SdI
open Go.Proofs.Ytcjjdnfikccnmab.SdT
open Go.Proofs.Ytcjjdnfikccnmab.RH
open Go.Proofs.Ytcjjdnfikccnmab.Sum
open Go.Proofs.Ytcjjdnfikccnmab.Long
set_option linter.unusedVariables false

theorem own : ownKnob Try.prog.godebug = none := by kernel_rfl
theorem laidOut : laidOutB Try.prog = true := by kernel_rfl
set_option maxHeartbeats 4000000 in
set_option maxRecDepth 100000 in
theorem walk (x0 : Pl.Bh) (a0 : Option Addr) (cap0 : Nat) (aa0 : Option Addr) (capp0 : Nat) (w : World) (w0 : x0.wf ∧ Pl.Pls w a0 x0.up.ps ∧ Pl.Pls w aa0 x0.dn.ps)  :
    Calls Try.prog 4 #[Pl.bhV x0 a0 cap0 aa0 capp0] w fun e w' => e = .returned (.bool true) ∧ Below w.heap.size w w' := by
  obtain ⟨wf0, hp0, hq0⟩ := w0
  have HP0 := Lib.hid hp0
  have HQ0 := Lib.hid hq0
  have HW0 := Lib.hid wf0
  clear wf0 hp0 hq0
  have hsz0 := fun w => sz_behave x0 HW0.out a0 cap0 aa0 capp0 1048576 (by omega) (by omega) w
  by_cases hs0 : (1048576 : Int) < x0.len
  · simp only [if_pos hs0] at hsz0
    have HSZ0 := Lib.hid hsz0
    clear hsz0
    unfold Pl.bhV
    go_enter Try.func4, Try.ntmps4
    go_wp2_with fail
    refine (HSZ0.out _).mono ?_
    rintro e u1 ⟨rfl, hb⟩
    obtain ⟨k0, hB, hz⟩ := one_read hb
    have K_1 : Hid (SdT.CW8 u1 w.heap.size (.slice a0 x0.up.ps.length cap0) (.int .i64 x0.up.sel) (.int .i64 x0.up.win) (.slice aa0 x0.dn.ps.length capp0) (.int .i64 x0.dn.sel) (.int .i64 x0.dn.win) (.int .i64 x0.mn) (.int .i64 x0.mx)) := k0
    have B_1 := Lib.hid hB
    clear k0 hB hz hb
    obtain ⟨⟨ck0, ck1, ck2, ck3, ck4, ck5, ck6, ck7⟩, -⟩ := K_1.out.get
    go_wp2
    go_ret
    exact ⟨rfl, B_1.out⟩
  · obtain ⟨l0, hl0, hl0a, hl0b⟩ : ∃ l : Int, (1048576 : Int) - x0.len = l ∧ 0 ≤ l ∧ l ≤ 1048576 := ⟨_, rfl, by omega, by unfold Bh.len; omega⟩
    simp only [if_neg hs0, hl0] at hsz0
    have HSZ0 := Lib.hid hsz0
    clear hsz0
    have hn0 : x0.up.ps.length ≤ 1048576 := by unfold Bh.len at hs0; omega
    have hm0 : x0.dn.ps.length ≤ 1048576 := by unfold Bh.len at hs0; omega
    have hsp := fun a c a1 c1 w h h1 => spec_long x0 a c a1 c1 w h h1 hn0 hm0
    have him := fun a c a1 c1 w h h1 => impl_long x0 a c a1 c1 w h h1 hn0 hm0
    obtain ⟨v, hv⟩ : ∃ v, longV x0 = v := ⟨_, rfl⟩
    simp only [hv] at hsp him
    clear hv
    have hvv : (v != v) = false := by simp
    have HSP := Lib.hid hsp
    have HIM := Lib.hid him
    clear hsp him
    clear hl0 hs0
    unfold Pl.bhV
    go_enter Try.func4, Try.ntmps4
    go_wp2_with fail
    refine (HSZ0.out _).mono ?_
    rintro e u1 ⟨rfl, hb⟩
    obtain ⟨k0, hB, hz⟩ := one_read hb
    have K_1 : Hid (SdT.CW8 u1 w.heap.size (.slice a0 x0.up.ps.length cap0) (.int .i64 x0.up.sel) (.int .i64 x0.up.win) (.slice aa0 x0.dn.ps.length capp0) (.int .i64 x0.dn.sel) (.int .i64 x0.dn.win) (.int .i64 x0.mn) (.int .i64 x0.mx)) := k0
    have B_1 := Lib.hid hB
    clear k0 hB hz hb
    obtain ⟨⟨ck0, ck1, ck2, ck3, ck4, ck5, ck6, ck7⟩, -⟩ := K_1.out.get
    go_wp2_with fail
    refine (SdT.to_behave x0 hn0 hm0 _ _ _ _ _ (HP0.out.kept B_1.out) (HQ0.out.kept B_1.out)).mono ?_
    rintro e u2 ⟨gq0, hq0, rfl, hq, hr, hb⟩
    have B_2 := Lib.hid (B_1.out.trans (hb.mono B_1.out.size))
    have K_2 := Lib.hid (K_1.out.kept hb)
    clear B_1 K_1 ck0 ck1 ck2 ck3 ck4 ck5 ck6 ck7 hb
    have Q0_2 := Lib.hid hq
    clear hq
    have R0_2 := Lib.hid hr
    clear hr
    obtain ⟨⟨ck0, ck1, ck2, ck3, ck4, ck5, ck6, ck7⟩, -⟩ := K_2.out.get
    go_wp2_with fail
    refine (HSP.out _ _ _ _ _ Q0_2.out R0_2.out).mono ?_
    rintro e u3 ⟨rfl, hb⟩
    have B_3 := Lib.hid (B_2.out.trans (hb.mono B_2.out.size))
    have K_3 := Lib.hid (K_2.out.kept hb)
    have Q0_3 := Lib.hid (Q0_2.out.kept hb)
    have R0_3 := Lib.hid (R0_2.out.kept hb)
    clear B_2 K_2 Q0_2 R0_2 ck0 ck1 ck2 ck3 ck4 ck5 ck6 ck7 hb
    clear Q0_3
    clear R0_3
    obtain ⟨⟨ck0, ck1, ck2, ck3, ck4, ck5, ck6, ck7⟩, -⟩ := K_3.out.get
    go_wp2_with fail
    refine (SdT.to_behave x0 hn0 hm0 _ _ _ _ _ (HP0.out.kept B_3.out) (HQ0.out.kept B_3.out)).mono ?_
    rintro e u4 ⟨gq0, hq0, rfl, hq, hr, hb⟩
    have B_4 := Lib.hid (B_3.out.trans (hb.mono B_3.out.size))
    have K_4 := Lib.hid (K_3.out.kept hb)
    clear B_3 K_3 ck0 ck1 ck2 ck3 ck4 ck5 ck6 ck7 hb
    have Q0_4 := Lib.hid hq
    clear hq
    have R0_4 := Lib.hid hr
    clear hr
    have hb := box_below u4 #[.slice (some ⟨gq0, 0, none⟩) x0.up.ps.length x0.up.ps.length, .int .i64 x0.up.sel, .int .i64 x0.up.win, .slice (some ⟨hq0, 0, none⟩) x0.dn.ps.length x0.dn.ps.length, .int .i64 x0.dn.sel, .int .i64 x0.dn.win, .int .i64 x0.mn, .int .i64 x0.mx] 43
    have B_5 := Lib.hid (B_4.out.trans (hb.mono B_4.out.size))
    have K_5 := Lib.hid (K_4.out.kept hb)
    have Q0_5 := Lib.hid (Q0_4.out.kept hb)
    have R0_5 := Lib.hid (R0_4.out.kept hb)
    clear B_4 K_4 Q0_4 R0_4 hb
    have KX_5 : Hid (SdT.CW8 (u4.alloc (.cells #[.slice (some ⟨gq0, 0, none⟩) x0.up.ps.length x0.up.ps.length, .int .i64 x0.up.sel, .int .i64 x0.up.win, .slice (some ⟨hq0, 0, none⟩) x0.dn.ps.length x0.dn.ps.length, .int .i64 x0.dn.sel, .int .i64 x0.dn.win, .int .i64 x0.mn, .int .i64 x0.mx] 43)) u4.heap.size (.slice (some ⟨gq0, 0, none⟩) x0.up.ps.length x0.up.ps.length) (.int .i64 x0.up.sel) (.int .i64 x0.up.win) (.slice (some ⟨hq0, 0, none⟩) x0.dn.ps.length x0.dn.ps.length) (.int .i64 x0.dn.sel) (.int .i64 x0.dn.win) (.int .i64 x0.mn) (.int .i64 x0.mx)) := Ser2.cells_new u4 #[.slice (some ⟨gq0, 0, none⟩) x0.up.ps.length x0.up.ps.length, .int .i64 x0.up.sel, .int .i64 x0.up.win, .slice (some ⟨hq0, 0, none⟩) x0.dn.ps.length x0.dn.ps.length, .int .i64 x0.dn.sel, .int .i64 x0.dn.win, .int .i64 x0.mn, .int .i64 x0.mx] 43
    go_wp2_with fail
    obtain ⟨u5, hu5⟩ : ∃ y, u4.alloc (.cells #[.slice (some ⟨gq0, 0, none⟩) x0.up.ps.length x0.up.ps.length, .int .i64 x0.up.sel, .int .i64 x0.up.win, .slice (some ⟨hq0, 0, none⟩) x0.dn.ps.length x0.dn.ps.length, .int .i64 x0.dn.sel, .int .i64 x0.dn.win, .int .i64 x0.mn, .int .i64 x0.mx] 43) = y := ⟨_, rfl⟩
    rw [hu5] at B_5 K_5 Q0_5 R0_5 KX_5 ⊢
    clear hu5
    refine (HIM.out _ _ _ _ _ Q0_5.out R0_5.out).mono ?_
    rintro e u6 ⟨rfl, hb⟩
    have B_6 := Lib.hid (B_5.out.trans (hb.mono B_5.out.size))
    have K_6 := Lib.hid (K_5.out.kept hb)
    have Q0_6 := Lib.hid (Q0_5.out.kept hb)
    have R0_6 := Lib.hid (R0_5.out.kept hb)
    have KX_6 := Lib.hid (KX_5.out.kept hb)
    clear B_5 K_5 Q0_5 R0_5 KX_5 hb
    have HJ : ∀ W, Hid (SdT.CW8 W w.heap.size (.slice a0 x0.up.ps.length cap0) (.int .i64 x0.up.sel) (.int .i64 x0.up.win) (.slice aa0 x0.dn.ps.length capp0) (.int .i64 x0.dn.sel) (.int .i64 x0.dn.win) (.int .i64 x0.mn) (.int .i64 x0.mx)) → Hid (SdT.CW8 W u4.heap.size (.slice (some ⟨gq0, 0, none⟩) x0.up.ps.length x0.up.ps.length) (.int .i64 x0.up.sel) (.int .i64 x0.up.win) (.slice (some ⟨hq0, 0, none⟩) x0.dn.ps.length x0.dn.ps.length) (.int .i64 x0.dn.sel) (.int .i64 x0.dn.win) (.int .i64 x0.mn) (.int .i64 x0.mx)) → (W.cell? ⟨w.heap.size, 0, none⟩ = some (.slice a0 x0.up.ps.length cap0) ∧ W.cell? ⟨w.heap.size, 1, none⟩ = some (.int .i64 x0.up.sel) ∧ W.cell? ⟨w.heap.size, 2, none⟩ = some (.int .i64 x0.up.win) ∧ W.cell? ⟨w.heap.size, 3, none⟩ = some (.slice aa0 x0.dn.ps.length capp0) ∧ W.cell? ⟨w.heap.size, 4, none⟩ = some (.int .i64 x0.dn.sel) ∧ W.cell? ⟨w.heap.size, 5, none⟩ = some (.int .i64 x0.dn.win) ∧ W.cell? ⟨w.heap.size, 6, none⟩ = some (.int .i64 x0.mn) ∧ W.cell? ⟨w.heap.size, 7, none⟩ = some (.int .i64 x0.mx) ∧ W.cell? ⟨u4.heap.size, 0, none⟩ = some (.slice (some ⟨gq0, 0, none⟩) x0.up.ps.length x0.up.ps.length) ∧ W.cell? ⟨u4.heap.size, 1, none⟩ = some (.int .i64 x0.up.sel) ∧ W.cell? ⟨u4.heap.size, 2, none⟩ = some (.int .i64 x0.up.win) ∧ W.cell? ⟨u4.heap.size, 3, none⟩ = some (.slice (some ⟨hq0, 0, none⟩) x0.dn.ps.length x0.dn.ps.length) ∧ W.cell? ⟨u4.heap.size, 4, none⟩ = some (.int .i64 x0.dn.sel) ∧ W.cell? ⟨u4.heap.size, 5, none⟩ = some (.int .i64 x0.dn.win) ∧ W.cell? ⟨u4.heap.size, 6, none⟩ = some (.int .i64 x0.mn) ∧ W.cell? ⟨u4.heap.size, 7, none⟩ = some (.int .i64 x0.mx)) := fun W h1 h2 => by
      obtain ⟨⟨y0, y1, y2, y3, y4, y5, y6, y7⟩, -⟩ := h1.out.get
      obtain ⟨⟨z0, z1, z2, z3, z4, z5, z6, z7⟩, -⟩ := h2.out.get
      exact ⟨y0, y1, y2, y3, y4, y5, y6, y7, z0, z1, z2, z3, z4, z5, z6, z7⟩
    have HJJ := Lib.hid HJ
    clear HJ
    go_wp2_with fail
    have hb : Below u6.heap.size u6 u6.drew := (Below.refl _ _).drew
    have B_7 := Lib.hid (B_6.out.trans (hb.mono B_6.out.size))
    have K_7 := Lib.hid (K_6.out.kept hb)
    have Q0_7 := Lib.hid (Q0_6.out.kept hb)
    have R0_7 := Lib.hid (R0_6.out.kept hb)
    have KX_7 := Lib.hid (KX_6.out.kept hb)
    clear B_6 K_6 Q0_6 R0_6 KX_6 hb
    go_region_held3 (fun w' => w'.cell? ⟨w.heap.size, 0, none⟩ = some (.slice a0 x0.up.ps.length cap0) ∧ w'.cell? ⟨w.heap.size, 1, none⟩ = some (.int .i64 x0.up.sel) ∧ w'.cell? ⟨w.heap.size, 2, none⟩ = some (.int .i64 x0.up.win) ∧ w'.cell? ⟨w.heap.size, 3, none⟩ = some (.slice aa0 x0.dn.ps.length capp0) ∧ w'.cell? ⟨w.heap.size, 4, none⟩ = some (.int .i64 x0.dn.sel) ∧ w'.cell? ⟨w.heap.size, 5, none⟩ = some (.int .i64 x0.dn.win) ∧ w'.cell? ⟨w.heap.size, 6, none⟩ = some (.int .i64 x0.mn) ∧ w'.cell? ⟨w.heap.size, 7, none⟩ = some (.int .i64 x0.mx) ∧ w'.cell? ⟨u4.heap.size, 0, none⟩ = some (.slice (some ⟨gq0, 0, none⟩) x0.up.ps.length x0.up.ps.length) ∧ w'.cell? ⟨u4.heap.size, 1, none⟩ = some (.int .i64 x0.up.sel) ∧ w'.cell? ⟨u4.heap.size, 2, none⟩ = some (.int .i64 x0.up.win) ∧ w'.cell? ⟨u4.heap.size, 3, none⟩ = some (.slice (some ⟨hq0, 0, none⟩) x0.dn.ps.length x0.dn.ps.length) ∧ w'.cell? ⟨u4.heap.size, 4, none⟩ = some (.int .i64 x0.dn.sel) ∧ w'.cell? ⟨u4.heap.size, 5, none⟩ = some (.int .i64 x0.dn.win) ∧ w'.cell? ⟨u4.heap.size, 6, none⟩ = some (.int .i64 x0.mn) ∧ w'.cell? ⟨u4.heap.size, 7, none⟩ = some (.int .i64 x0.mx))
      (with_reducible (first | exact HJJ.out _ K_9 KX_9 | exact HJJ.out _ K_8 KX_8 | exact HJJ.out _ K_7 KX_7))
      (first
        | (go_at_call 13; refine (SdT.to_behave x0 hn0 hm0 _ _ _ _ _ (HP0.out.kept B_7.out) (HQ0.out.kept B_7.out)).mono ?_; rintro e u8 ⟨gz, hz, rfl, hqz, hrz, hb⟩; have B_8 := Lib.hid (B_7.out.trans (hb.mono B_7.out.size)); have K_8 := Lib.hid (K_7.out.kept hb); have Q0_8 := Lib.hid (Q0_7.out.kept hb); have R0_8 := Lib.hid (R0_7.out.kept hb); have KX_8 := Lib.hid (KX_7.out.kept hb); have QZ := Lib.hid hqz; have RZ := Lib.hid hrz; clear hrz; clear hqz hb)
        | (go_at_call 15; refine (SdT.eq_behave x0 _ _ _ _ _ _ _ _ _ Q0_8.out R0_8.out QZ.out RZ.out hn0 hm0).mono ?_; rintro e u9 ⟨rfl, hb⟩; have B_9 := Lib.hid (B_8.out.trans (hb.mono B_8.out.size)); have K_9 := Lib.hid (K_8.out.kept hb); have Q0_9 := Lib.hid (Q0_8.out.kept hb); have R0_9 := Lib.hid (R0_8.out.kept hb); have KX_9 := Lib.hid (KX_8.out.kept hb); clear hb))
    go_wp2
    go_ret
    exact ⟨rfl, B_9.out⟩

set_option maxRecDepth 100000 in
theorem lifted (os : Os) (started : os.Started) (H : Type) (enc : TypeId × Value → H) :
    ReturnsInHanded {} Try.checked os 4 .any (Rows.fnExactLongestWindowSpec.pre6 enc Try.prog Try.f4 Rows.fnExactLongestWindowRow.domain false) (Rows.fnExactLongestWindowSpec.post enc Try.prog Try.f4 false true false false) := by
  refine returnsInHanded_of_change (C := Try.checked) own started (by kernel_rfl) Try.func4
    (ChangeSpec.witness6 (enc := enc) (C := Try.checked) false ⟨#[], #[.agg #[.slice none 0 0, .int .i64 0, .int .i64 0, .slice none 0 0, .int .i64 0, .int .i64 0, .int .i64 0, .int .i64 0]], []⟩ 8 (by kernel_rfl) (by kernel_rfl) (by kernel_rfl) (by kernel_rfl)) ?_
  intro W base args ds gs before hval0 hW hcnd _
  have hval : ∀ (j : Nat) t v, Try.f4.params[j]? = some t → args[j]? = some v → Value.okWide Try.prog W .any base t v := hval0
  clear hval0
  have hW' := hW
  obtain ⟨p, q, hA0, hV, rfl, hfz, hnd⟩ := hW
  have hA : DataW.TrodAll enc Try.prog W 0 (fun _ => true) true Try.f4.params.toList args.toList ds p := hA0
  rw [Try.params4] at hA hval
  obtain ⟨v0, vs0, d0, ds0, p0, q0, hargs, rfl, rfl, h0, r0⟩ := trodAll_cons hA
  obtain ⟨rfl, rfl, rfl⟩ := trodAll_nil r0
  obtain rfl : args = #[v0] := by cases args; simp_all
  obtain ⟨rfl, rfl⟩ := trodVars_none hV
  have k0 := h0
  have lt0 : ∀ x ∈ p0, x.block < W.heap.size := by obtain ⟨m, hm⟩ := k0; exact DataW.trod_lt m _ _ _ hm
  obtain ⟨x0, a0, cap0, aa0, capp0, rfl, wf0, ws0, wt0⟩ := Pl.open_behave Try.underlying29 (by kernel_rfl) ⟨rfl, rfl, rfl, rfl⟩ ⟨rfl, rfl, rfl, rfl⟩ (by kernel_rfl) Try.underlying27 (by kernel_rfl) (by kernel_rfl) ⟨rfl, rfl, rfl⟩ Try.underlying25 Try.underlying78 (by kernel_rfl) (by kernel_rfl) ⟨rfl, rfl, rfl⟩ Try.underlying3 (hval 0 29 v0 rfl rfl) h0
  have w0 := And.intro wf0 (And.intro ws0 wt0)
  clear hA0
  refine (walk x0 a0 cap0 aa0 capp0 W w0).mono fun e W' ⟨he, bel⟩ => ?_
  subst he
  exact ⟨_, rfl, _, _, _, [], _, [], hW', trodAll_mk1 (shut_bool Try.underlying4 _), (trodAll_cons_mk (Below.trod laidOut (by kernel_rfl) (of_decide_eq_true (by kernel_rfl)) k0 bel lt0) trodAll_mk0), rfl, bel.frame _, fun h => by cases h⟩

theorem over : Rows.fnExactLongestWindowRow.holds Try.pinned (OpenSpec.ofChange Rows.fnExactLongestWindowSpec) :=
  OpenClaim.holds_of_wide 4 Try.f4 rfl rfl rfl rfl rfl rfl rfl ⟨rfl, rfl, rfl, rfl, rfl⟩ rfl rfl rfl rfl rfl (by kernel_rfl) Try.func4 (by kernel_rfl)
    (of_decide_eq_true (by kernel_rfl)) (by unfold Func.isWrapper; first | (rw [if_pos (by decide +kernel)]; kernel_rfl) | (rw [if_neg (by decide +kernel)]; exact ⟨rfl, rfl⟩))
    (fun os started H enc _ => lifted os started H enc)

/-- THE STATEMENT. -/
theorem proved : Rows.FnExactLongestWindowSaid := over
end Go.Proofs.Ytcjjdnfikccnmab.fnExactLongestWindow
