/- For every input that can be read, the Go function laws.FnExactSetupOk returns true and leaves its arguments as they read: the statement Rows.FnExactSetupOkSaid, without a condition of ours. -/
import Derived.Test.YtcjjdnfikccnmaaRows
import Derived.WalkKit
import Derived.ProofKit
import Derived.OpenShut
import Derived.ShutString
import Derived.ChangeOld
import Derived.Below
import Derived.Test.YtcjjdnfikccnmaaC1
import Derived.Test.YtcjjdnfikccnmaaC2
import Derived.Test.YtcjjdnfikccnmaaSmps
import Derived.Test.YtcjjdnfikccnmaaMem
import Derived.Test.YtcjjdnfikccnmaaSer
import Derived.Test.YtcjjdnfikccnmaaSer2
import Derived.Test.YtcjjdnfikccnmaaNt
import Derived.Test.YtcjjdnfikccnmaaMv
import Derived.Test.YtcjjdnfikccnmaaPl
import Derived.Test.YtcjjdnfikccnmaaPd
import Derived.Test.YtcjjdnfikccnmaaGl
import Derived.Test.YtcjjdnfikccnmaaGls
import Derived.Test.YtcjjdnfikccnmaaSdT
import Derived.Test.YtcjjdnfikccnmaaSet
import Derived.Test.YtcjjdnfikccnmaaRH
import Derived.Test.YtcjjdnfikccnmaaBhM
import Derived.Test.YtcjjdnfikccnmaaLogS
import Derived.Test.YtcjjdnfikccnmaaBhI
import Derived.Test.YtcjjdnfikccnmaaLogI
import Derived.Test.YtcjjdnfikccnmaaSdS
import Derived.Test.YtcjjdnfikccnmaaSdI
import Derived.Test.YtcjjdnfikccnmaaGof
import Derived.Test.YtcjjdnfikccnmaaSup
namespace Go.Proofs.Ytcjjdnfikccnmaa.fnExactSetupOk
open Go.ChangeShapes Go.WideShapes Go.ChangeAt Go.RowKit
open Go.ChangeMaps (open_string shut_string)
open Go.Proofs.Ytcjjdnfikccnmaa.C1
open Go.Proofs.Ytcjjdnfikccnmaa.C2
open Go.Proofs.Ytcjjdnfikccnmaa.Smps
open Go.Proofs.Ytcjjdnfikccnmaa.Mem
open Go.Proofs.Ytcjjdnfikccnmaa.Ser
open Go.Proofs.Ytcjjdnfikccnmaa.Ser2
open Go.Proofs.Ytcjjdnfikccnmaa.Nt
open Go.Proofs.Ytcjjdnfikccnmaa.Mv
open Go.Proofs.Ytcjjdnfikccnmaa.Pl
open Go.Proofs.Ytcjjdnfikccnmaa.Pd
open Go.Proofs.Ytcjjdnfikccnmaa.Gl
open Go.Proofs.Ytcjjdnfikccnmaa.Gls
open Go.Proofs.Ytcjjdnfikccnmaa.SdT
open Go.Proofs.Ytcjjdnfikccnmaa.Set
open Go.Proofs.Ytcjjdnfikccnmaa.RH
open Go.Proofs.Ytcjjdnfikccnmaa.BhM
open Go.Proofs.Ytcjjdnfikccnmaa.LogS
open Go.Proofs.Ytcjjdnfikccnmaa.BhI
open Go.Proofs.Ytcjjdnfikccnmaa.LogI
open Go.Proofs.Ytcjjdnfikccnmaa.SdS
open Go.Proofs.Ytcjjdnfikccnmaa.SdI
open Go.Proofs.Ytcjjdnfikccnmaa.Gof
open Go.Proofs.Ytcjjdnfikccnmaa.Sup
set_option linter.unusedVariables false

theorem own : ownKnob Try.prog.godebug = none := by kernel_rfl
theorem laidOut : laidOutB Try.prog = true := by kernel_rfl
set_option maxHeartbeats 4000000 in
set_option maxRecDepth 100000 in
theorem walk (x0 : Set.St) (a0 : Option Addr) (cap0 : Nat) (b0 : Option Addr) (cb0 : Nat) (d0 : Option Addr) (cd0 : Nat) (w : World) (w0 : x0.wf ∧ Gls.Gls w a0 x0.gs ∧ Pl.Pls w b0 x0.bh.up.ps ∧ Pl.Pls w d0 x0.bh.dn.ps)  :
    Calls Try.prog 6 #[Set.stV x0 a0 cap0 b0 cb0 d0 cd0] w fun e w' => e = .returned (.bool true) ∧ Below w.heap.size w w' := by
  obtain ⟨wf0, hp0, hq0, hr0⟩ := w0
  have HP0 := Lib.hid hp0
  have HQ0 := Lib.hid hq0
  have HR0 := Lib.hid hr0
  have HW0 := Lib.hid wf0
  clear wf0 hp0 hq0 hr0
  unfold Set.stV
  go_enter Try.func6, Try.ntmps6
  go_wp2_with fail
  refine (sz_setup x0 HW0.out a0 cap0 b0 cb0 d0 cd0 _ (HP0.out.kept (box_below _ _ _))).mono ?_
  rintro e u1 ⟨r, rfl, hb, hr⟩
  obtain ⟨k0, hB, hz⟩ := one_read hb
  have K_1 : Hid (CW12 u1 w.heap.size (.int .i64 x0.rl.dl) (.int .i64 x0.rl.fr) (.int .i64 x0.rl.wi) (.slice a0 x0.gs.length cap0) (.slice b0 x0.bh.up.ps.length cb0) (.int .i64 x0.bh.up.sel) (.int .i64 x0.bh.up.win) (.slice d0 x0.bh.dn.ps.length cd0) (.int .i64 x0.bh.dn.sel) (.int .i64 x0.bh.dn.win) (.int .i64 x0.bh.mn) (.int .i64 x0.bh.mx)) := k0
  have B_1 := Lib.hid hB
  clear k0 hB hz hb
  rcases hr with hr | ⟨hr0, hsm⟩
  · go_wp2
    go_ret
    exact ⟨rfl, B_1.out⟩
  · have HSM := Lib.hid hsm
    have HGW := Lib.hid (show ∀ g ∈ x0.gs, g.wf from HW0.out.gs)
    clear hsm
    obtain ⟨hn0, hn1, hn2, -⟩ := HSM.out
    have hsp := fun a c a1 c1 a2 c2 w h h1 h2 => spec_setupok x0 HGW.out a c a1 c1 a2 c2 w h h1 h2 hn0 hn1 hn2
    have him := fun a a1 c1 a2 c2 w h h1 h2 => impl_setupok x0 HGW.out a x0.gs.length a1 c1 a2 c2 w h h1 h2 hn0 hn1 hn2 (Nat.le_refl _)
    obtain ⟨v, hv⟩ : ∃ v, setV x0 = v := ⟨_, rfl⟩
    simp only [hv] at hsp him
    clear hv
    have hvv : (v != v) = false := by cases v <;> rfl
    have HSP := Lib.hid hsp
    have HIM := Lib.hid him
    clear hsp him
    unfold stV at HSP HIM
    obtain ⟨⟨ck0, ck1, ck2, ck3, ck4, ck5, ck6, ck7, ck8, ck9, ck10, ck11⟩, -⟩ := K_1.out.get
    go_wp2_with fail
    refine (to_setup x0 HSM.out _ _ _ _ _ _ _ (HP0.out.kept B_1.out) (HQ0.out.kept B_1.out) (HR0.out.kept B_1.out)).mono ?_
    rintro e u2 ⟨gq0, gq1, gq2, rfl, hg, hp, hq, hb⟩
    have B_2 := Lib.hid (B_1.out.trans (hb.mono B_1.out.size))
    have K_2 := Lib.hid (K_1.out.kept hb)
    clear B_1 K_1 ck0 ck1 ck2 ck3 ck4 ck5 ck6 ck7 ck8 ck9 ck10 ck11 hb
    unfold stV
    have G_2 := Lib.hid hg
    have P_2 := Lib.hid hp
    have Q_2 := Lib.hid hq
    clear hg hp hq
    obtain ⟨⟨ck0, ck1, ck2, ck3, ck4, ck5, ck6, ck7, ck8, ck9, ck10, ck11⟩, -⟩ := K_2.out.get
    go_wp2_with fail
    refine (HSP.out _ _ _ _ _ _ _ G_2.out P_2.out Q_2.out).mono ?_
    rintro e u3 ⟨rfl, hb⟩
    have B_3 := Lib.hid (B_2.out.trans (hb.mono B_2.out.size))
    have K_3 := Lib.hid (K_2.out.kept hb)
    have G_3 := Lib.hid (G_2.out.kept hb)
    have P_3 := Lib.hid (P_2.out.kept hb)
    have Q_3 := Lib.hid (Q_2.out.kept hb)
    clear B_2 K_2 G_2 P_2 Q_2 ck0 ck1 ck2 ck3 ck4 ck5 ck6 ck7 ck8 ck9 ck10 ck11 hb
    clear G_3
    clear P_3
    clear Q_3
    obtain ⟨⟨ck0, ck1, ck2, ck3, ck4, ck5, ck6, ck7, ck8, ck9, ck10, ck11⟩, -⟩ := K_3.out.get
    go_wp2_with fail
    refine (to_setup x0 HSM.out _ _ _ _ _ _ _ (HP0.out.kept B_3.out) (HQ0.out.kept B_3.out) (HR0.out.kept B_3.out)).mono ?_
    rintro e u4 ⟨gq0, gq1, gq2, rfl, hg, hp, hq, hb⟩
    have B_4 := Lib.hid (B_3.out.trans (hb.mono B_3.out.size))
    have K_4 := Lib.hid (K_3.out.kept hb)
    clear B_3 K_3 ck0 ck1 ck2 ck3 ck4 ck5 ck6 ck7 ck8 ck9 ck10 ck11 hb
    unfold stV
    have G_4 := Lib.hid hg
    have P_4 := Lib.hid hp
    have Q_4 := Lib.hid hq
    clear hg hp hq
    have hb := box_below u4 #[.int .i64 x0.rl.dl, .int .i64 x0.rl.fr, .int .i64 x0.rl.wi, .slice (some ⟨gq0, 0, none⟩) x0.gs.length x0.gs.length, .slice (some ⟨gq1, 0, none⟩) x0.bh.up.ps.length x0.bh.up.ps.length, .int .i64 x0.bh.up.sel, .int .i64 x0.bh.up.win, .slice (some ⟨gq2, 0, none⟩) x0.bh.dn.ps.length x0.bh.dn.ps.length, .int .i64 x0.bh.dn.sel, .int .i64 x0.bh.dn.win, .int .i64 x0.bh.mn, .int .i64 x0.bh.mx] 71
    have B_5 := Lib.hid (B_4.out.trans (hb.mono B_4.out.size))
    have K_5 := Lib.hid (K_4.out.kept hb)
    have G_5 := Lib.hid (G_4.out.kept hb)
    have P_5 := Lib.hid (P_4.out.kept hb)
    have Q_5 := Lib.hid (Q_4.out.kept hb)
    clear B_4 K_4 G_4 P_4 Q_4 hb
    have KX_5 : Hid (CW12 (u4.alloc (.cells #[.int .i64 x0.rl.dl, .int .i64 x0.rl.fr, .int .i64 x0.rl.wi, .slice (some ⟨gq0, 0, none⟩) x0.gs.length x0.gs.length, .slice (some ⟨gq1, 0, none⟩) x0.bh.up.ps.length x0.bh.up.ps.length, .int .i64 x0.bh.up.sel, .int .i64 x0.bh.up.win, .slice (some ⟨gq2, 0, none⟩) x0.bh.dn.ps.length x0.bh.dn.ps.length, .int .i64 x0.bh.dn.sel, .int .i64 x0.bh.dn.win, .int .i64 x0.bh.mn, .int .i64 x0.bh.mx] 71)) u4.heap.size (.int .i64 x0.rl.dl) (.int .i64 x0.rl.fr) (.int .i64 x0.rl.wi) (.slice (some ⟨gq0, 0, none⟩) x0.gs.length x0.gs.length) (.slice (some ⟨gq1, 0, none⟩) x0.bh.up.ps.length x0.bh.up.ps.length) (.int .i64 x0.bh.up.sel) (.int .i64 x0.bh.up.win) (.slice (some ⟨gq2, 0, none⟩) x0.bh.dn.ps.length x0.bh.dn.ps.length) (.int .i64 x0.bh.dn.sel) (.int .i64 x0.bh.dn.win) (.int .i64 x0.bh.mn) (.int .i64 x0.bh.mx)) := Ser2.cells_new u4 #[.int .i64 x0.rl.dl, .int .i64 x0.rl.fr, .int .i64 x0.rl.wi, .slice (some ⟨gq0, 0, none⟩) x0.gs.length x0.gs.length, .slice (some ⟨gq1, 0, none⟩) x0.bh.up.ps.length x0.bh.up.ps.length, .int .i64 x0.bh.up.sel, .int .i64 x0.bh.up.win, .slice (some ⟨gq2, 0, none⟩) x0.bh.dn.ps.length x0.bh.dn.ps.length, .int .i64 x0.bh.dn.sel, .int .i64 x0.bh.dn.win, .int .i64 x0.bh.mn, .int .i64 x0.bh.mx] 71
    go_wp2_with fail
    obtain ⟨u5, hu5⟩ : ∃ y, u4.alloc (.cells #[.int .i64 x0.rl.dl, .int .i64 x0.rl.fr, .int .i64 x0.rl.wi, .slice (some ⟨gq0, 0, none⟩) x0.gs.length x0.gs.length, .slice (some ⟨gq1, 0, none⟩) x0.bh.up.ps.length x0.bh.up.ps.length, .int .i64 x0.bh.up.sel, .int .i64 x0.bh.up.win, .slice (some ⟨gq2, 0, none⟩) x0.bh.dn.ps.length x0.bh.dn.ps.length, .int .i64 x0.bh.dn.sel, .int .i64 x0.bh.dn.win, .int .i64 x0.bh.mn, .int .i64 x0.bh.mx] 71) = y := ⟨_, rfl⟩
    rw [hu5] at B_5 K_5 G_5 P_5 Q_5 KX_5 ⊢
    clear hu5
    refine (HIM.out _ _ _ _ _ _ G_5.out P_5.out Q_5.out).mono ?_
    rintro e u6 ⟨rfl, hb⟩
    have B_6 := Lib.hid (B_5.out.trans (hb.mono B_5.out.size))
    have K_6 := Lib.hid (K_5.out.kept hb)
    have G_6 := Lib.hid (G_5.out.kept hb)
    have P_6 := Lib.hid (P_5.out.kept hb)
    have Q_6 := Lib.hid (Q_5.out.kept hb)
    have KX_6 := Lib.hid (KX_5.out.kept hb)
    clear B_5 K_5 G_5 P_5 Q_5 KX_5 hb
    have HJ : ∀ W, Hid (CW12 W w.heap.size (.int .i64 x0.rl.dl) (.int .i64 x0.rl.fr) (.int .i64 x0.rl.wi) (.slice a0 x0.gs.length cap0) (.slice b0 x0.bh.up.ps.length cb0) (.int .i64 x0.bh.up.sel) (.int .i64 x0.bh.up.win) (.slice d0 x0.bh.dn.ps.length cd0) (.int .i64 x0.bh.dn.sel) (.int .i64 x0.bh.dn.win) (.int .i64 x0.bh.mn) (.int .i64 x0.bh.mx)) → Hid (CW12 W u4.heap.size (.int .i64 x0.rl.dl) (.int .i64 x0.rl.fr) (.int .i64 x0.rl.wi) (.slice (some ⟨gq0, 0, none⟩) x0.gs.length x0.gs.length) (.slice (some ⟨gq1, 0, none⟩) x0.bh.up.ps.length x0.bh.up.ps.length) (.int .i64 x0.bh.up.sel) (.int .i64 x0.bh.up.win) (.slice (some ⟨gq2, 0, none⟩) x0.bh.dn.ps.length x0.bh.dn.ps.length) (.int .i64 x0.bh.dn.sel) (.int .i64 x0.bh.dn.win) (.int .i64 x0.bh.mn) (.int .i64 x0.bh.mx)) → (W.cell? ⟨w.heap.size, 0, none⟩ = some (.int .i64 x0.rl.dl) ∧ W.cell? ⟨w.heap.size, 1, none⟩ = some (.int .i64 x0.rl.fr) ∧ W.cell? ⟨w.heap.size, 2, none⟩ = some (.int .i64 x0.rl.wi) ∧ W.cell? ⟨w.heap.size, 3, none⟩ = some (.slice a0 x0.gs.length cap0) ∧ W.cell? ⟨w.heap.size, 4, none⟩ = some (.slice b0 x0.bh.up.ps.length cb0) ∧ W.cell? ⟨w.heap.size, 5, none⟩ = some (.int .i64 x0.bh.up.sel) ∧ W.cell? ⟨w.heap.size, 6, none⟩ = some (.int .i64 x0.bh.up.win) ∧ W.cell? ⟨w.heap.size, 7, none⟩ = some (.slice d0 x0.bh.dn.ps.length cd0) ∧ W.cell? ⟨w.heap.size, 8, none⟩ = some (.int .i64 x0.bh.dn.sel) ∧ W.cell? ⟨w.heap.size, 9, none⟩ = some (.int .i64 x0.bh.dn.win) ∧ W.cell? ⟨w.heap.size, 10, none⟩ = some (.int .i64 x0.bh.mn) ∧ W.cell? ⟨w.heap.size, 11, none⟩ = some (.int .i64 x0.bh.mx) ∧ W.cell? ⟨u4.heap.size, 0, none⟩ = some (.int .i64 x0.rl.dl) ∧ W.cell? ⟨u4.heap.size, 1, none⟩ = some (.int .i64 x0.rl.fr) ∧ W.cell? ⟨u4.heap.size, 2, none⟩ = some (.int .i64 x0.rl.wi) ∧ W.cell? ⟨u4.heap.size, 3, none⟩ = some (.slice (some ⟨gq0, 0, none⟩) x0.gs.length x0.gs.length) ∧ W.cell? ⟨u4.heap.size, 4, none⟩ = some (.slice (some ⟨gq1, 0, none⟩) x0.bh.up.ps.length x0.bh.up.ps.length) ∧ W.cell? ⟨u4.heap.size, 5, none⟩ = some (.int .i64 x0.bh.up.sel) ∧ W.cell? ⟨u4.heap.size, 6, none⟩ = some (.int .i64 x0.bh.up.win) ∧ W.cell? ⟨u4.heap.size, 7, none⟩ = some (.slice (some ⟨gq2, 0, none⟩) x0.bh.dn.ps.length x0.bh.dn.ps.length) ∧ W.cell? ⟨u4.heap.size, 8, none⟩ = some (.int .i64 x0.bh.dn.sel) ∧ W.cell? ⟨u4.heap.size, 9, none⟩ = some (.int .i64 x0.bh.dn.win) ∧ W.cell? ⟨u4.heap.size, 10, none⟩ = some (.int .i64 x0.bh.mn) ∧ W.cell? ⟨u4.heap.size, 11, none⟩ = some (.int .i64 x0.bh.mx)) := fun W h1 h2 => by
      obtain ⟨⟨y0, y1, y2, y3, y4, y5, y6, y7, y8, y9, y10, y11⟩, -⟩ := h1.out.get
      obtain ⟨⟨z0, z1, z2, z3, z4, z5, z6, z7, z8, z9, z10, z11⟩, -⟩ := h2.out.get
      exact ⟨y0, y1, y2, y3, y4, y5, y6, y7, y8, y9, y10, y11, z0, z1, z2, z3, z4, z5, z6, z7, z8, z9, z10, z11⟩
    have HJJ := Lib.hid HJ
    clear HJ
    go_wp2_with fail
    have hb : Below u6.heap.size u6 u6.drew := (Below.refl _ _).drew
    have B_7 := Lib.hid (B_6.out.trans (hb.mono B_6.out.size))
    have K_7 := Lib.hid (K_6.out.kept hb)
    have G_7 := Lib.hid (G_6.out.kept hb)
    have P_7 := Lib.hid (P_6.out.kept hb)
    have Q_7 := Lib.hid (Q_6.out.kept hb)
    have KX_7 := Lib.hid (KX_6.out.kept hb)
    clear B_6 K_6 G_6 P_6 Q_6 KX_6 hb
    go_region_held3 (fun w' => w'.cell? ⟨w.heap.size, 0, none⟩ = some (.int .i64 x0.rl.dl) ∧ w'.cell? ⟨w.heap.size, 1, none⟩ = some (.int .i64 x0.rl.fr) ∧ w'.cell? ⟨w.heap.size, 2, none⟩ = some (.int .i64 x0.rl.wi) ∧ w'.cell? ⟨w.heap.size, 3, none⟩ = some (.slice a0 x0.gs.length cap0) ∧ w'.cell? ⟨w.heap.size, 4, none⟩ = some (.slice b0 x0.bh.up.ps.length cb0) ∧ w'.cell? ⟨w.heap.size, 5, none⟩ = some (.int .i64 x0.bh.up.sel) ∧ w'.cell? ⟨w.heap.size, 6, none⟩ = some (.int .i64 x0.bh.up.win) ∧ w'.cell? ⟨w.heap.size, 7, none⟩ = some (.slice d0 x0.bh.dn.ps.length cd0) ∧ w'.cell? ⟨w.heap.size, 8, none⟩ = some (.int .i64 x0.bh.dn.sel) ∧ w'.cell? ⟨w.heap.size, 9, none⟩ = some (.int .i64 x0.bh.dn.win) ∧ w'.cell? ⟨w.heap.size, 10, none⟩ = some (.int .i64 x0.bh.mn) ∧ w'.cell? ⟨w.heap.size, 11, none⟩ = some (.int .i64 x0.bh.mx) ∧ w'.cell? ⟨u4.heap.size, 0, none⟩ = some (.int .i64 x0.rl.dl) ∧ w'.cell? ⟨u4.heap.size, 1, none⟩ = some (.int .i64 x0.rl.fr) ∧ w'.cell? ⟨u4.heap.size, 2, none⟩ = some (.int .i64 x0.rl.wi) ∧ w'.cell? ⟨u4.heap.size, 3, none⟩ = some (.slice (some ⟨gq0, 0, none⟩) x0.gs.length x0.gs.length) ∧ w'.cell? ⟨u4.heap.size, 4, none⟩ = some (.slice (some ⟨gq1, 0, none⟩) x0.bh.up.ps.length x0.bh.up.ps.length) ∧ w'.cell? ⟨u4.heap.size, 5, none⟩ = some (.int .i64 x0.bh.up.sel) ∧ w'.cell? ⟨u4.heap.size, 6, none⟩ = some (.int .i64 x0.bh.up.win) ∧ w'.cell? ⟨u4.heap.size, 7, none⟩ = some (.slice (some ⟨gq2, 0, none⟩) x0.bh.dn.ps.length x0.bh.dn.ps.length) ∧ w'.cell? ⟨u4.heap.size, 8, none⟩ = some (.int .i64 x0.bh.dn.sel) ∧ w'.cell? ⟨u4.heap.size, 9, none⟩ = some (.int .i64 x0.bh.dn.win) ∧ w'.cell? ⟨u4.heap.size, 10, none⟩ = some (.int .i64 x0.bh.mn) ∧ w'.cell? ⟨u4.heap.size, 11, none⟩ = some (.int .i64 x0.bh.mx))
      (with_reducible (first | exact HJJ.out _ K_9 KX_9 | exact HJJ.out _ K_8 KX_8 | exact HJJ.out _ K_7 KX_7))
      (first
        | (go_at_call 35; refine (to_setup x0 HSM.out _ _ _ _ _ _ _ (HP0.out.kept B_7.out) (HQ0.out.kept B_7.out) (HR0.out.kept B_7.out)).mono ?_; rintro e u8 ⟨gz0, gz1, gz2, rfl, hgz, hpz, hqz, hb⟩; unfold stV; have B_8 := Lib.hid (B_7.out.trans (hb.mono B_7.out.size)); have K_8 := Lib.hid (K_7.out.kept hb); have G_8 := Lib.hid (G_7.out.kept hb); have P_8 := Lib.hid (P_7.out.kept hb); have Q_8 := Lib.hid (Q_7.out.kept hb); have KX_8 := Lib.hid (KX_7.out.kept hb); have GZ := Lib.hid hgz; have PZ := Lib.hid hpz; have QZ := Lib.hid hqz; clear hgz hpz hqz hb)
        | (go_at_call 37; refine (eq_setup x0 HSM.out _ _ _ _ _ _ _ _ _ _ _ _ _ G_8.out P_8.out Q_8.out GZ.out PZ.out QZ.out).mono ?_; rintro e u9 ⟨rfl, hb⟩; have B_9 := Lib.hid (B_8.out.trans (hb.mono B_8.out.size)); have K_9 := Lib.hid (K_8.out.kept hb); have G_9 := Lib.hid (G_8.out.kept hb); have P_9 := Lib.hid (P_8.out.kept hb); have Q_9 := Lib.hid (Q_8.out.kept hb); have KX_9 := Lib.hid (KX_8.out.kept hb); clear hb))
    go_wp2
    go_ret
    exact ⟨rfl, B_9.out⟩

set_option maxRecDepth 100000 in
theorem lifted (os : Os) (started : os.Started) (H : Type) (enc : TypeId × Value → H) :
    ReturnsInHanded {} Try.checked os 6 .any (Rows.fnExactSetupOkSpec.pre6 enc Try.prog Try.f6 Rows.fnExactSetupOkRow.domain false) (Rows.fnExactSetupOkSpec.post enc Try.prog Try.f6 false true false false) := by
  refine returnsInHanded_of_change (C := Try.checked) own started (by kernel_rfl) Try.func6
    (ChangeSpec.witness6 (enc := enc) (C := Try.checked) false ⟨#[], #[.agg #[.int .i64 0, .int .i64 0, .int .i64 0, .slice none 0 0, .slice none 0 0, .int .i64 0, .int .i64 0, .slice none 0 0, .int .i64 0, .int .i64 0, .int .i64 0, .int .i64 0]], []⟩ 8 (by kernel_rfl) (by kernel_rfl) (by kernel_rfl) (by kernel_rfl)) ?_
  intro W base args ds gs before hval0 hW hcnd _
  have hval : ∀ (j : Nat) t v, Try.f6.params[j]? = some t → args[j]? = some v → Value.okWide Try.prog W .any base t v := hval0
  clear hval0
  have hW' := hW
  obtain ⟨p, q, hA0, hV, rfl, hfz, hnd⟩ := hW
  have hA : DataW.TrodAll enc Try.prog W 0 (fun _ => true) true Try.f6.params.toList args.toList ds p := hA0
  rw [Try.params6] at hA hval
  obtain ⟨v0, vs0, d0, ds0, p0, q0, hargs, rfl, rfl, h0, r0⟩ := trodAll_cons hA
  obtain ⟨rfl, rfl, rfl⟩ := trodAll_nil r0
  obtain rfl : args = #[v0] := by cases args; simp_all
  obtain ⟨rfl, rfl⟩ := trodVars_none hV
  have k0 := h0
  have lt0 : ∀ x ∈ p0, x.block < W.heap.size := by obtain ⟨m, hm⟩ := k0; exact DataW.trod_lt m _ _ _ hm
  obtain ⟨x0, a0, cap0, b0, cb0, d0, cd0, rfl, wf0, ws0, wt0, wu0⟩ := Set.open_setup Try.underlying65 (by kernel_rfl) ⟨rfl, rfl, rfl⟩ ⟨rfl, rfl, rfl⟩ (by kernel_rfl) (by kernel_rfl) Try.underlying57 (by kernel_rfl) (by kernel_rfl) ⟨rfl, rfl, rfl⟩
    Try.underlying58 Try.underlying178 (by kernel_rfl) (by kernel_rfl) ⟨rfl, rfl, rfl⟩ Try.underlying9 Try.underlying63 ⟨rfl, rfl, rfl, rfl⟩ ⟨rfl, rfl, rfl, rfl⟩ (by kernel_rfl) Try.underlying61 (by kernel_rfl) (by kernel_rfl) ⟨rfl, rfl, rfl⟩ Try.underlying59 Try.underlying220 (by kernel_rfl) (by kernel_rfl) ⟨rfl, rfl, rfl⟩ Try.underlying3 (hval 0 65 v0 rfl rfl) h0
  have w0 := And.intro wf0 (And.intro ws0 (And.intro wt0 wu0))
  clear hA0
  refine (walk x0 a0 cap0 b0 cb0 d0 cd0 W w0).mono fun e W' ⟨he, bel⟩ => ?_
  subst he
  exact ⟨_, rfl, _, _, _, [], _, [], hW', trodAll_mk1 (shut_bool Try.underlying4 _), (trodAll_cons_mk (Below.trod laidOut (by kernel_rfl) (of_decide_eq_true (by kernel_rfl)) k0 bel lt0) trodAll_mk0), rfl, bel.frame _, fun h => by cases h⟩

theorem over : Rows.fnExactSetupOkRow.holds Try.pinned (OpenSpec.ofChange Rows.fnExactSetupOkSpec) :=
  OpenClaim.holds_of_wide 6 Try.f6 rfl rfl rfl rfl rfl rfl rfl ⟨rfl, rfl, rfl, rfl, rfl⟩ rfl rfl rfl rfl rfl (by kernel_rfl) Try.func6 (by kernel_rfl)
    (of_decide_eq_true (by kernel_rfl)) (by unfold Func.isWrapper; first | (rw [if_pos (by decide +kernel)]; kernel_rfl) | (rw [if_neg (by decide +kernel)]; exact ⟨rfl, rfl⟩))
    (fun os started H enc _ => lifted os started H enc)

/-- THE STATEMENT. -/
theorem proved : Rows.FnExactSetupOkSaid := over
end Go.Proofs.Ytcjjdnfikccnmaa.fnExactSetupOk
