/- For every input that can be read, the Go function laws.FnExactGoalOf returns true and leaves its arguments as they read: the statement Rows.FnExactGoalOfSaid, without a condition of ours. -/
import Derived.Test.YtcjjdnfikccnmabRows
import Derived.WalkKit
import Derived.ProofKit
import Derived.OpenShut
import Derived.ShutString
import Derived.ChangeOld
import Derived.Below
import Derived.Test.YtcjjdnfikccnmabC1
import Derived.Test.YtcjjdnfikccnmabC2
import Derived.Test.YtcjjdnfikccnmabSmps
import Derived.Test.YtcjjdnfikccnmabMem
import Derived.Test.YtcjjdnfikccnmabSer
import Derived.Test.YtcjjdnfikccnmabSer2
import Derived.Test.YtcjjdnfikccnmabNt
import Derived.Test.YtcjjdnfikccnmabMv
import Derived.Test.YtcjjdnfikccnmabPl
import Derived.Test.YtcjjdnfikccnmabPd
import Derived.Test.YtcjjdnfikccnmabGl
import Derived.Test.YtcjjdnfikccnmabGls
import Derived.Test.YtcjjdnfikccnmabSdT
import Derived.Test.YtcjjdnfikccnmabSet
import Derived.Test.YtcjjdnfikccnmabRH
import Derived.Test.YtcjjdnfikccnmabGof
namespace Go.Proofs.Ytcjjdnfikccnmab.fnExactGoalOf
open Go.ChangeShapes Go.WideShapes Go.ChangeAt Go.RowKit
open Go.ChangeMaps (open_string shut_string)
open Go.Proofs.Ytcjjdnfikccnmab.C1
open Go.Proofs.Ytcjjdnfikccnmab.C2
open Go.Proofs.Ytcjjdnfikccnmab.Smps
open Go.Proofs.Ytcjjdnfikccnmab.Mem
open Go.Proofs.Ytcjjdnfikccnmab.Ser
open Go.Proofs.Ytcjjdnfikccnmab.Ser2
open Go.Proofs.Ytcjjdnfikccnmab.Nt
open Go.Proofs.Ytcjjdnfikccnmab.Mv
open Go.Proofs.Ytcjjdnfikccnmab.Pl
open Go.Proofs.Ytcjjdnfikccnmab.Pd
open Go.Proofs.Ytcjjdnfikccnmab.Gl
open Go.Proofs.Ytcjjdnfikccnmab.Gls
open Go.Proofs.Ytcjjdnfikccnmab.SdT
open Go.Proofs.Ytcjjdnfikccnmab.Set
open Go.Proofs.Ytcjjdnfikccnmab.RH
open Go.Proofs.Ytcjjdnfikccnmab.Gof
set_option linter.unusedVariables false

theorem own : ownKnob Try.prog.godebug = none := by kernel_rfl
theorem laidOut : laidOutB Try.prog = true := by kernel_rfl
set_option maxHeartbeats 4000000 in
set_option maxRecDepth 100000 in
theorem walk (x0 : Set.St) (a0 : Option Addr) (cap0 : Nat) (b0 : Option Addr) (cb0 : Nat) (d0 : Option Addr) (cd0 : Nat) (s1 : ByteArray) (w : World) (w0 : x0.wf ∧ Gls.Gls w a0 x0.gs ∧ Pl.Pls w b0 x0.bh.up.ps ∧ Pl.Pls w d0 x0.bh.dn.ps) (w1 : s1.size ≤ maxLen)  :
    Calls Try.prog 3 #[Set.stV x0 a0 cap0 b0 cb0 d0 cd0, .string s1] w fun e w' => e = .returned (.bool true) ∧ Below w.heap.size w w' := by
  obtain ⟨wf0, hp0, hq0, hr0⟩ := w0
  have HP0 := Lib.hid hp0
  have HQ0 := Lib.hid hq0
  have HR0 := Lib.hid hr0
  have HW0 := Lib.hid wf0
  clear wf0 hp0 hq0 hr0
  by_cases hbs : 1048576 < s1.size
  · unfold Set.stV
    go_enter Try.func3, Try.ntmps3
    go_wp2
    go_ret
    exact ⟨rfl, box_below _ _ _⟩
  · have hs1 : s1.size ≤ 1048576 := by omega
    clear hbs w1
    unfold Set.stV
    go_enter Try.func3, Try.ntmps3
    go_wp2_with fail
    refine (sz_setup x0 HW0.out a0 cap0 b0 cb0 d0 cd0 _ (HP0.out.kept (box_below _ _ _))).mono ?_
    rintro e u1 ⟨r, rfl, hb, hr⟩
    obtain ⟨k0, hB, hz⟩ := one_read hb
    have K_1 : Hid (CW12 u1 w.heap.size (.int .i64 x0.rl.dl) (.int .i64 x0.rl.fr) (.int .i64 x0.rl.wi) (.slice a0 x0.gs.length cap0) (.slice b0 x0.bh.up.ps.length cb0) (.int .i64 x0.bh.up.sel) (.int .i64 x0.bh.up.win) (.slice d0 x0.bh.dn.ps.length cd0) (.int .i64 x0.bh.dn.sel) (.int .i64 x0.bh.dn.win) (.int .i64 x0.bh.mn) (.int .i64 x0.bh.mx)) := k0
    have B_1 := Lib.hid hB
    clear k0 hB hz hb
    rcases hr with hr | ⟨hr0, hsm⟩
    · go_wp2
      go_ret
      exact ⟨rfl, B_1.out⟩
    · have HSM := Lib.hid hsm
      have HGW := Lib.hid (show ∀ g ∈ x0.gs, g.wf from HW0.out.gs)
      clear hsm
      obtain ⟨hn0, hn1, hn2, -⟩ := HSM.out
      have hsp := fun a c a1 c1 a2 c2 w h => spec_goalof x0 s1 a c a1 c1 a2 c2 w h hn0
      have him := fun a c a1 c1 a2 c2 w h => impl_goalof x0 s1 a c a1 c1 a2 c2 w h hn0
      obtain ⟨v, hv⟩ : ∃ v, getG x0.gs s1 = v := ⟨_, rfl⟩
      obtain ⟨v2, hv2⟩ : ∃ v, hasG x0.gs s1 = v := ⟨_, rfl⟩
      simp only [hv, hv2] at hsp him
      clear hv hv2
      have hvv2 : (v2 != v2) = false := by cases v2 <;> rfl
      have HSP := Lib.hid hsp
      have HIM := Lib.hid him
      clear hsp him
      unfold stV at HSP HIM
      obtain ⟨⟨ck0, ck1, ck2, ck3, ck4, ck5, ck6, ck7, ck8, ck9, ck10, ck11⟩, -⟩ := K_1.out.get
      go_wp2_with fail
      refine (to_setup x0 HSM.out _ _ _ _ _ _ _ (HP0.out.kept B_1.out) (HQ0.out.kept B_1.out) (HR0.out.kept B_1.out)).mono ?_
      rintro e u2 ⟨gq0, gq1, gq2, rfl, hg, hp, hq, hb⟩
      have B_2 := Lib.hid (B_1.out.trans (hb.mono B_1.out.size))
      have K_2 := Lib.hid (K_1.out.kept hb)
      clear B_1 K_1 ck0 ck1 ck2 ck3 ck4 ck5 ck6 ck7 ck8 ck9 ck10 ck11 hb
      unfold stV
      have G_2 := Lib.hid hg
      have P_2 := Lib.hid hp
      have Q_2 := Lib.hid hq
      clear hg hp hq
      obtain ⟨⟨ck0, ck1, ck2, ck3, ck4, ck5, ck6, ck7, ck8, ck9, ck10, ck11⟩, -⟩ := K_2.out.get
      go_wp2_with fail
      refine (HSP.out _ _ _ _ _ _ _ G_2.out).mono ?_
      rintro e u3 ⟨rfl, hb⟩
      have B_3 := Lib.hid (B_2.out.trans (hb.mono B_2.out.size))
      have K_3 := Lib.hid (K_2.out.kept hb)
      have G_3 := Lib.hid (G_2.out.kept hb)
      have P_3 := Lib.hid (P_2.out.kept hb)
      have Q_3 := Lib.hid (Q_2.out.kept hb)
      clear B_2 K_2 G_2 P_2 Q_2 ck0 ck1 ck2 ck3 ck4 ck5 ck6 ck7 ck8 ck9 ck10 ck11 hb
      unfold glV
      clear G_3
      clear P_3
      clear Q_3
      have hb := box_below u3 #[.string v.met, .int .i64 v.tar, .int .i64 v.tol] 34
      have B_4 := Lib.hid (B_3.out.trans (hb.mono B_3.out.size))
      have K_4 := Lib.hid (K_3.out.kept hb)
      clear B_3 K_3 hb
      have W_4 : Hid (SdT.CW3 (u3.alloc (.cells #[.string v.met, .int .i64 v.tar, .int .i64 v.tol] 34)) u3.heap.size (.string v.met) (.int .i64 v.tar) (.int .i64 v.tol)) := Ser2.cells_new u3 #[.string v.met, .int .i64 v.tar, .int .i64 v.tol] 34
      obtain ⟨⟨ck0, ck1, ck2, ck3, ck4, ck5, ck6, ck7, ck8, ck9, ck10, ck11⟩, -⟩ := K_4.out.get
      go_wp2_with fail
      clear ck0 ck1 ck2 ck3 ck4 ck5 ck6 ck7 ck8 ck9 ck10 ck11
      obtain ⟨u4, hu4⟩ : ∃ y, u3.alloc (.cells #[.string v.met, .int .i64 v.tar, .int .i64 v.tol] 34) = y := ⟨_, rfl⟩
      rw [hu4] at B_4 K_4 W_4 ⊢
      clear hu4
      refine (to_setup x0 HSM.out _ _ _ _ _ _ _ (HP0.out.kept B_4.out) (HQ0.out.kept B_4.out) (HR0.out.kept B_4.out)).mono ?_
      rintro e u5 ⟨gq0, gq1, gq2, rfl, hg, hp, hq, hb⟩
      have B_5 := Lib.hid (B_4.out.trans (hb.mono B_4.out.size))
      have K_5 := Lib.hid (K_4.out.kept hb)
      have W_5 := Lib.hid (W_4.out.kept hb)
      clear B_4 K_4 W_4 hb
      unfold stV
      have G_5 := Lib.hid hg
      have P_5 := Lib.hid hp
      have Q_5 := Lib.hid hq
      clear hg hp hq
      have hb := box_below u5 #[.int .i64 x0.rl.dl, .int .i64 x0.rl.fr, .int .i64 x0.rl.wi, .slice (some ⟨gq0, 0, none⟩) x0.gs.length x0.gs.length, .slice (some ⟨gq1, 0, none⟩) x0.bh.up.ps.length x0.bh.up.ps.length, .int .i64 x0.bh.up.sel, .int .i64 x0.bh.up.win, .slice (some ⟨gq2, 0, none⟩) x0.bh.dn.ps.length x0.bh.dn.ps.length, .int .i64 x0.bh.dn.sel, .int .i64 x0.bh.dn.win, .int .i64 x0.bh.mn, .int .i64 x0.bh.mx] 45
      have B_6 := Lib.hid (B_5.out.trans (hb.mono B_5.out.size))
      have K_6 := Lib.hid (K_5.out.kept hb)
      have W_6 := Lib.hid (W_5.out.kept hb)
      have G_6 := Lib.hid (G_5.out.kept hb)
      have P_6 := Lib.hid (P_5.out.kept hb)
      have Q_6 := Lib.hid (Q_5.out.kept hb)
      clear B_5 K_5 W_5 G_5 P_5 Q_5 hb
      have KX_6 : Hid (CW12 (u5.alloc (.cells #[.int .i64 x0.rl.dl, .int .i64 x0.rl.fr, .int .i64 x0.rl.wi, .slice (some ⟨gq0, 0, none⟩) x0.gs.length x0.gs.length, .slice (some ⟨gq1, 0, none⟩) x0.bh.up.ps.length x0.bh.up.ps.length, .int .i64 x0.bh.up.sel, .int .i64 x0.bh.up.win, .slice (some ⟨gq2, 0, none⟩) x0.bh.dn.ps.length x0.bh.dn.ps.length, .int .i64 x0.bh.dn.sel, .int .i64 x0.bh.dn.win, .int .i64 x0.bh.mn, .int .i64 x0.bh.mx] 45)) u5.heap.size (.int .i64 x0.rl.dl) (.int .i64 x0.rl.fr) (.int .i64 x0.rl.wi) (.slice (some ⟨gq0, 0, none⟩) x0.gs.length x0.gs.length) (.slice (some ⟨gq1, 0, none⟩) x0.bh.up.ps.length x0.bh.up.ps.length) (.int .i64 x0.bh.up.sel) (.int .i64 x0.bh.up.win) (.slice (some ⟨gq2, 0, none⟩) x0.bh.dn.ps.length x0.bh.dn.ps.length) (.int .i64 x0.bh.dn.sel) (.int .i64 x0.bh.dn.win) (.int .i64 x0.bh.mn) (.int .i64 x0.bh.mx)) := Ser2.cells_new u5 #[.int .i64 x0.rl.dl, .int .i64 x0.rl.fr, .int .i64 x0.rl.wi, .slice (some ⟨gq0, 0, none⟩) x0.gs.length x0.gs.length, .slice (some ⟨gq1, 0, none⟩) x0.bh.up.ps.length x0.bh.up.ps.length, .int .i64 x0.bh.up.sel, .int .i64 x0.bh.up.win, .slice (some ⟨gq2, 0, none⟩) x0.bh.dn.ps.length x0.bh.dn.ps.length, .int .i64 x0.bh.dn.sel, .int .i64 x0.bh.dn.win, .int .i64 x0.bh.mn, .int .i64 x0.bh.mx] 45
      go_wp2_with fail
      obtain ⟨u6, hu6⟩ : ∃ y, u5.alloc (.cells #[.int .i64 x0.rl.dl, .int .i64 x0.rl.fr, .int .i64 x0.rl.wi, .slice (some ⟨gq0, 0, none⟩) x0.gs.length x0.gs.length, .slice (some ⟨gq1, 0, none⟩) x0.bh.up.ps.length x0.bh.up.ps.length, .int .i64 x0.bh.up.sel, .int .i64 x0.bh.up.win, .slice (some ⟨gq2, 0, none⟩) x0.bh.dn.ps.length x0.bh.dn.ps.length, .int .i64 x0.bh.dn.sel, .int .i64 x0.bh.dn.win, .int .i64 x0.bh.mn, .int .i64 x0.bh.mx] 45) = y := ⟨_, rfl⟩
      rw [hu6] at B_6 K_6 W_6 G_6 P_6 Q_6 KX_6 ⊢
      clear hu6
      refine (HIM.out _ _ _ _ _ _ _ G_6.out).mono ?_
      rintro e u7 ⟨rfl, hb⟩
      have B_7 := Lib.hid (B_6.out.trans (hb.mono B_6.out.size))
      have K_7 := Lib.hid (K_6.out.kept hb)
      have W_7 := Lib.hid (W_6.out.kept hb)
      have G_7 := Lib.hid (G_6.out.kept hb)
      have P_7 := Lib.hid (P_6.out.kept hb)
      have Q_7 := Lib.hid (Q_6.out.kept hb)
      have KX_7 := Lib.hid (KX_6.out.kept hb)
      clear B_6 K_6 W_6 G_6 P_6 Q_6 KX_6 hb
      unfold glV
      have hb := box_below u7 #[.string v.met, .int .i64 v.tar, .int .i64 v.tol] 34
      have B_8 := Lib.hid (B_7.out.trans (hb.mono B_7.out.size))
      have K_8 := Lib.hid (K_7.out.kept hb)
      have W_8 := Lib.hid (W_7.out.kept hb)
      have G_8 := Lib.hid (G_7.out.kept hb)
      have P_8 := Lib.hid (P_7.out.kept hb)
      have Q_8 := Lib.hid (Q_7.out.kept hb)
      have KX_8 := Lib.hid (KX_7.out.kept hb)
      clear B_7 K_7 W_7 G_7 P_7 Q_7 KX_7 hb
      obtain ⟨⟨y0, y1, y2⟩, -⟩ := W_8.out.get
      go_wp2_with fail
      obtain ⟨u8, hu8⟩ : ∃ y, u7.alloc (.cells #[.string v.met, .int .i64 v.tar, .int .i64 v.tol] 34) = y := ⟨_, rfl⟩
      rw [hu8] at B_8 K_8 W_8 G_8 P_8 Q_8 KX_8 ⊢
      clear hu8
      refine (eq_goal v _).mono ?_
      rintro e u9 ⟨rfl, hb⟩
      have B_9 := Lib.hid (B_8.out.trans (hb.mono B_8.out.size))
      have K_9 := Lib.hid (K_8.out.kept hb)
      have W_9 := Lib.hid (W_8.out.kept hb)
      have G_9 := Lib.hid (G_8.out.kept hb)
      have P_9 := Lib.hid (P_8.out.kept hb)
      have Q_9 := Lib.hid (Q_8.out.kept hb)
      have KX_9 := Lib.hid (KX_8.out.kept hb)
      clear B_8 K_8 W_8 G_8 P_8 Q_8 KX_8 y0 y1 y2 hb
      have HJ : ∀ W, Hid (CW12 W w.heap.size (.int .i64 x0.rl.dl) (.int .i64 x0.rl.fr) (.int .i64 x0.rl.wi) (.slice a0 x0.gs.length cap0) (.slice b0 x0.bh.up.ps.length cb0) (.int .i64 x0.bh.up.sel) (.int .i64 x0.bh.up.win) (.slice d0 x0.bh.dn.ps.length cd0) (.int .i64 x0.bh.dn.sel) (.int .i64 x0.bh.dn.win) (.int .i64 x0.bh.mn) (.int .i64 x0.bh.mx)) → Hid (CW12 W u5.heap.size (.int .i64 x0.rl.dl) (.int .i64 x0.rl.fr) (.int .i64 x0.rl.wi) (.slice (some ⟨gq0, 0, none⟩) x0.gs.length x0.gs.length) (.slice (some ⟨gq1, 0, none⟩) x0.bh.up.ps.length x0.bh.up.ps.length) (.int .i64 x0.bh.up.sel) (.int .i64 x0.bh.up.win) (.slice (some ⟨gq2, 0, none⟩) x0.bh.dn.ps.length x0.bh.dn.ps.length) (.int .i64 x0.bh.dn.sel) (.int .i64 x0.bh.dn.win) (.int .i64 x0.bh.mn) (.int .i64 x0.bh.mx)) → (W.cell? ⟨w.heap.size, 0, none⟩ = some (.int .i64 x0.rl.dl) ∧ W.cell? ⟨w.heap.size, 1, none⟩ = some (.int .i64 x0.rl.fr) ∧ W.cell? ⟨w.heap.size, 2, none⟩ = some (.int .i64 x0.rl.wi) ∧ W.cell? ⟨w.heap.size, 3, none⟩ = some (.slice a0 x0.gs.length cap0) ∧ W.cell? ⟨w.heap.size, 4, none⟩ = some (.slice b0 x0.bh.up.ps.length cb0) ∧ W.cell? ⟨w.heap.size, 5, none⟩ = some (.int .i64 x0.bh.up.sel) ∧ W.cell? ⟨w.heap.size, 6, none⟩ = some (.int .i64 x0.bh.up.win) ∧ W.cell? ⟨w.heap.size, 7, none⟩ = some (.slice d0 x0.bh.dn.ps.length cd0) ∧ W.cell? ⟨w.heap.size, 8, none⟩ = some (.int .i64 x0.bh.dn.sel) ∧ W.cell? ⟨w.heap.size, 9, none⟩ = some (.int .i64 x0.bh.dn.win) ∧ W.cell? ⟨w.heap.size, 10, none⟩ = some (.int .i64 x0.bh.mn) ∧ W.cell? ⟨w.heap.size, 11, none⟩ = some (.int .i64 x0.bh.mx) ∧ W.cell? ⟨u5.heap.size, 0, none⟩ = some (.int .i64 x0.rl.dl) ∧ W.cell? ⟨u5.heap.size, 1, none⟩ = some (.int .i64 x0.rl.fr) ∧ W.cell? ⟨u5.heap.size, 2, none⟩ = some (.int .i64 x0.rl.wi) ∧ W.cell? ⟨u5.heap.size, 3, none⟩ = some (.slice (some ⟨gq0, 0, none⟩) x0.gs.length x0.gs.length) ∧ W.cell? ⟨u5.heap.size, 4, none⟩ = some (.slice (some ⟨gq1, 0, none⟩) x0.bh.up.ps.length x0.bh.up.ps.length) ∧ W.cell? ⟨u5.heap.size, 5, none⟩ = some (.int .i64 x0.bh.up.sel) ∧ W.cell? ⟨u5.heap.size, 6, none⟩ = some (.int .i64 x0.bh.up.win) ∧ W.cell? ⟨u5.heap.size, 7, none⟩ = some (.slice (some ⟨gq2, 0, none⟩) x0.bh.dn.ps.length x0.bh.dn.ps.length) ∧ W.cell? ⟨u5.heap.size, 8, none⟩ = some (.int .i64 x0.bh.dn.sel) ∧ W.cell? ⟨u5.heap.size, 9, none⟩ = some (.int .i64 x0.bh.dn.win) ∧ W.cell? ⟨u5.heap.size, 10, none⟩ = some (.int .i64 x0.bh.mn) ∧ W.cell? ⟨u5.heap.size, 11, none⟩ = some (.int .i64 x0.bh.mx)) := fun W h1 h2 => by
        obtain ⟨⟨y0, y1, y2, y3, y4, y5, y6, y7, y8, y9, y10, y11⟩, -⟩ := h1.out.get
        obtain ⟨⟨z0, z1, z2, z3, z4, z5, z6, z7, z8, z9, z10, z11⟩, -⟩ := h2.out.get
        exact ⟨y0, y1, y2, y3, y4, y5, y6, y7, y8, y9, y10, y11, z0, z1, z2, z3, z4, z5, z6, z7, z8, z9, z10, z11⟩
      have HJJ := Lib.hid HJ
      clear HJ
      go_wp2_with fail
      have hb : Below u9.heap.size u9 u9.drew := (Below.refl _ _).drew
      have B_10 := Lib.hid (B_9.out.trans (hb.mono B_9.out.size))
      have K_10 := Lib.hid (K_9.out.kept hb)
      have W_10 := Lib.hid (W_9.out.kept hb)
      have G_10 := Lib.hid (G_9.out.kept hb)
      have P_10 := Lib.hid (P_9.out.kept hb)
      have Q_10 := Lib.hid (Q_9.out.kept hb)
      have KX_10 := Lib.hid (KX_9.out.kept hb)
      clear B_9 K_9 W_9 G_9 P_9 Q_9 KX_9 hb
      go_region_held3 (fun w' => w'.cell? ⟨w.heap.size, 0, none⟩ = some (.int .i64 x0.rl.dl) ∧ w'.cell? ⟨w.heap.size, 1, none⟩ = some (.int .i64 x0.rl.fr) ∧ w'.cell? ⟨w.heap.size, 2, none⟩ = some (.int .i64 x0.rl.wi) ∧ w'.cell? ⟨w.heap.size, 3, none⟩ = some (.slice a0 x0.gs.length cap0) ∧ w'.cell? ⟨w.heap.size, 4, none⟩ = some (.slice b0 x0.bh.up.ps.length cb0) ∧ w'.cell? ⟨w.heap.size, 5, none⟩ = some (.int .i64 x0.bh.up.sel) ∧ w'.cell? ⟨w.heap.size, 6, none⟩ = some (.int .i64 x0.bh.up.win) ∧ w'.cell? ⟨w.heap.size, 7, none⟩ = some (.slice d0 x0.bh.dn.ps.length cd0) ∧ w'.cell? ⟨w.heap.size, 8, none⟩ = some (.int .i64 x0.bh.dn.sel) ∧ w'.cell? ⟨w.heap.size, 9, none⟩ = some (.int .i64 x0.bh.dn.win) ∧ w'.cell? ⟨w.heap.size, 10, none⟩ = some (.int .i64 x0.bh.mn) ∧ w'.cell? ⟨w.heap.size, 11, none⟩ = some (.int .i64 x0.bh.mx) ∧ w'.cell? ⟨u5.heap.size, 0, none⟩ = some (.int .i64 x0.rl.dl) ∧ w'.cell? ⟨u5.heap.size, 1, none⟩ = some (.int .i64 x0.rl.fr) ∧ w'.cell? ⟨u5.heap.size, 2, none⟩ = some (.int .i64 x0.rl.wi) ∧ w'.cell? ⟨u5.heap.size, 3, none⟩ = some (.slice (some ⟨gq0, 0, none⟩) x0.gs.length x0.gs.length) ∧ w'.cell? ⟨u5.heap.size, 4, none⟩ = some (.slice (some ⟨gq1, 0, none⟩) x0.bh.up.ps.length x0.bh.up.ps.length) ∧ w'.cell? ⟨u5.heap.size, 5, none⟩ = some (.int .i64 x0.bh.up.sel) ∧ w'.cell? ⟨u5.heap.size, 6, none⟩ = some (.int .i64 x0.bh.up.win) ∧ w'.cell? ⟨u5.heap.size, 7, none⟩ = some (.slice (some ⟨gq2, 0, none⟩) x0.bh.dn.ps.length x0.bh.dn.ps.length) ∧ w'.cell? ⟨u5.heap.size, 8, none⟩ = some (.int .i64 x0.bh.dn.sel) ∧ w'.cell? ⟨u5.heap.size, 9, none⟩ = some (.int .i64 x0.bh.dn.win) ∧ w'.cell? ⟨u5.heap.size, 10, none⟩ = some (.int .i64 x0.bh.mn) ∧ w'.cell? ⟨u5.heap.size, 11, none⟩ = some (.int .i64 x0.bh.mx))
        (with_reducible (first | exact HJJ.out _ K_12 KX_12 | exact HJJ.out _ K_11 KX_11 | exact HJJ.out _ K_10 KX_10))
        (first
          | (go_at_call 7; refine (to_setup x0 HSM.out _ _ _ _ _ _ _ (HP0.out.kept B_10.out) (HQ0.out.kept B_10.out) (HR0.out.kept B_10.out)).mono ?_; rintro e u11 ⟨gz0, gz1, gz2, rfl, hgz, hpz, hqz, hb⟩; unfold stV; have B_11 := Lib.hid (B_10.out.trans (hb.mono B_10.out.size)); have K_11 := Lib.hid (K_10.out.kept hb); have W_11 := Lib.hid (W_10.out.kept hb); have G_11 := Lib.hid (G_10.out.kept hb); have P_11 := Lib.hid (P_10.out.kept hb); have Q_11 := Lib.hid (Q_10.out.kept hb); have KX_11 := Lib.hid (KX_10.out.kept hb); have GZ := Lib.hid hgz; have PZ := Lib.hid hpz; have QZ := Lib.hid hqz; clear hgz hpz hqz hb)
          | (go_at_call 10; refine (eq_setup x0 HSM.out _ _ _ _ _ _ _ _ _ _ _ _ _ G_11.out P_11.out Q_11.out GZ.out PZ.out QZ.out).mono ?_; rintro e u12 ⟨rfl, hb⟩; have B_12 := Lib.hid (B_11.out.trans (hb.mono B_11.out.size)); have K_12 := Lib.hid (K_11.out.kept hb); have W_12 := Lib.hid (W_11.out.kept hb); have G_12 := Lib.hid (G_11.out.kept hb); have P_12 := Lib.hid (P_11.out.kept hb); have Q_12 := Lib.hid (Q_11.out.kept hb); have KX_12 := Lib.hid (KX_11.out.kept hb); clear hb))
      go_wp2
      go_ret
      exact ⟨rfl, B_12.out⟩

set_option maxRecDepth 100000 in
theorem lifted (os : Os) (started : os.Started) (H : Type) (enc : TypeId × Value → H) :
    ReturnsInHanded {} Try.checked os 3 .any (Rows.fnExactGoalOfSpec.pre6 enc Try.prog Try.f3 Rows.fnExactGoalOfRow.domain false) (Rows.fnExactGoalOfSpec.post enc Try.prog Try.f3 false true false false) := by
  refine returnsInHanded_of_change (C := Try.checked) own started (by kernel_rfl) Try.func3
    (ChangeSpec.witness6 (enc := enc) (C := Try.checked) false ⟨#[], #[.agg #[.int .i64 0, .int .i64 0, .int .i64 0, .slice none 0 0, .slice none 0 0, .int .i64 0, .int .i64 0, .slice none 0 0, .int .i64 0, .int .i64 0, .int .i64 0, .int .i64 0], .string ⟨#[]⟩], []⟩ 8 (by kernel_rfl) (by kernel_rfl) (by kernel_rfl) (by kernel_rfl)) ?_
  intro W base args ds gs before hval0 hW hcnd _
  have hval : ∀ (j : Nat) t v, Try.f3.params[j]? = some t → args[j]? = some v → Value.okWide Try.prog W .any base t v := hval0
  clear hval0
  have hW' := hW
  obtain ⟨p, q, hA0, hV, rfl, hfz, hnd⟩ := hW
  have hA : DataW.TrodAll enc Try.prog W 0 (fun _ => true) true Try.f3.params.toList args.toList ds p := hA0
  rw [Try.params3] at hA hval
  obtain ⟨v0, vs0, d0, ds0, p0, q0, hargs, rfl, rfl, h0, r0⟩ := trodAll_cons hA
  obtain ⟨v1, vs1, d1, ds1, p1, q1, rfl, rfl, rfl, h1, r1⟩ := trodAll_cons r0
  obtain ⟨rfl, rfl, rfl⟩ := trodAll_nil r1
  obtain rfl : args = #[v0, v1] := by cases args; simp_all
  obtain ⟨rfl, rfl⟩ := trodVars_none hV
  have k0 := h0
  have lt0 : ∀ x ∈ p0, x.block < W.heap.size := by obtain ⟨m, hm⟩ := k0; exact DataW.trod_lt m _ _ _ hm
  have k1 := h1
  have lt1 : ∀ x ∈ p1, x.block < W.heap.size := by obtain ⟨m, hm⟩ := k1; exact DataW.trod_lt m _ _ _ hm
  obtain ⟨x0, a0, cap0, b0, cb0, d0, cd0, rfl, wf0, ws0, wt0, wu0⟩ := Set.open_setup Try.underlying31 (by kernel_rfl) ⟨rfl, rfl, rfl⟩ ⟨rfl, rfl, rfl⟩ (by kernel_rfl) (by kernel_rfl) Try.underlying23 (by kernel_rfl) (by kernel_rfl) ⟨rfl, rfl, rfl⟩
    Try.underlying24 Try.underlying70 (by kernel_rfl) (by kernel_rfl) ⟨rfl, rfl, rfl⟩ Try.underlying9 Try.underlying29 ⟨rfl, rfl, rfl, rfl⟩ ⟨rfl, rfl, rfl, rfl⟩ (by kernel_rfl) Try.underlying27 (by kernel_rfl) (by kernel_rfl) ⟨rfl, rfl, rfl⟩ Try.underlying25 Try.underlying78 (by kernel_rfl) (by kernel_rfl) ⟨rfl, rfl, rfl⟩ Try.underlying3 (hval 0 31 v0 rfl rfl) h0
  have w0 := And.intro wf0 (And.intro ws0 (And.intro wt0 wu0))
  obtain ⟨s1, rfl, rfl, rfl, w1⟩ := open_string Try.underlying9 (hval 1 9 v1 rfl rfl) h1
  clear hA0
  refine (walk x0 a0 cap0 b0 cb0 d0 cd0 s1 W w0 w1).mono fun e W' ⟨he, bel⟩ => ?_
  subst he
  exact ⟨_, rfl, _, _, _, [], _, [], hW', trodAll_mk1 (shut_bool Try.underlying4 _), (trodAll_cons_mk (Below.trod laidOut (by kernel_rfl) (of_decide_eq_true (by kernel_rfl)) k0 bel lt0) (trodAll_cons_mk (shut_string Try.underlying9 w1) trodAll_mk0)), rfl, bel.frame _, fun h => by cases h⟩

theorem over : Rows.fnExactGoalOfRow.holds Try.pinned (OpenSpec.ofChange Rows.fnExactGoalOfSpec) :=
  OpenClaim.holds_of_wide 3 Try.f3 rfl rfl rfl rfl rfl rfl rfl ⟨rfl, rfl, rfl, rfl, rfl⟩ rfl rfl rfl rfl rfl (by kernel_rfl) Try.func3 (by kernel_rfl)
    (of_decide_eq_true (by kernel_rfl)) (by unfold Func.isWrapper; first | (rw [if_pos (by decide +kernel)]; kernel_rfl) | (rw [if_neg (by decide +kernel)]; exact ⟨rfl, rfl⟩))
    (fun os started H enc _ => lifted os started H enc)

/-- THE STATEMENT. -/
theorem proved : Rows.FnExactGoalOfSaid := over
end Go.Proofs.Ytcjjdnfikccnmab.fnExactGoalOf
