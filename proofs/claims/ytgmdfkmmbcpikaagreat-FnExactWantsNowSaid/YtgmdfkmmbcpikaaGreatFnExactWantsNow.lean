/- For every input that can be read, the Go function laws.FnExactWantsNow returns true and leaves its arguments as they read: the statement Rows.FnExactWantsNowSaid, without a condition of ours. -/
import Derived.Test.YtgmdfkmmbcpikaaGreatRows
import Derived.WalkKit
import Derived.ProofKit
import Derived.OpenShut
import Derived.ShutString
import Derived.ChangeOld
import Derived.Below
import Derived.Lib.SmallJoins
import Derived.Test.YtgmdfkmmbcpikaaGreatC1
import Derived.Test.YtgmdfkmmbcpikaaGreatC2
import Derived.Test.YtgmdfkmmbcpikaaGreatSmps
import Derived.Test.YtgmdfkmmbcpikaaGreatMem
import Derived.Test.YtgmdfkmmbcpikaaGreatSer
import Derived.Test.YtgmdfkmmbcpikaaGreatSer2
import Derived.Test.YtgmdfkmmbcpikaaGreatPd
import Derived.Test.YtgmdfkmmbcpikaaGreatPds
import Derived.Test.YtgmdfkmmbcpikaaGreatGl
import Derived.Test.YtgmdfkmmbcpikaaGreatGls
import Derived.Test.YtgmdfkmmbcpikaaGreatPl
import Derived.Test.YtgmdfkmmbcpikaaGreatSet
import Derived.Test.YtgmdfkmmbcpikaaGreatHdA
import Derived.Test.YtgmdfkmmbcpikaaGreatMkA
import Derived.Test.YtgmdfkmmbcpikaaGreatInts
import Derived.Test.YtgmdfkmmbcpikaaGreatOwnI
import Derived.Test.YtgmdfkmmbcpikaaGreatSzT
import Derived.Test.YtgmdfkmmbcpikaaGreatHokA
import Derived.Test.YtgmdfkmmbcpikaaGreatLwA
namespace Go.Proofs.YtgmdfkmmbcpikaaGreat.fnExactWantsNow
open Go.ChangeShapes Go.WideShapes Go.ChangeAt Go.RowKit Go.Joins
open Go.ChangeMaps (open_string shut_string)
open Go.Proofs.YtgmdfkmmbcpikaaGreat.C1
open Go.Proofs.YtgmdfkmmbcpikaaGreat.C2
open Go.Proofs.YtgmdfkmmbcpikaaGreat.Smps
open Go.Proofs.YtgmdfkmmbcpikaaGreat.Mem
open Go.Proofs.YtgmdfkmmbcpikaaGreat.Ser
open Go.Proofs.YtgmdfkmmbcpikaaGreat.Ser2
open Go.Proofs.YtgmdfkmmbcpikaaGreat.Pd
open Go.Proofs.YtgmdfkmmbcpikaaGreat.Pds
open Go.Proofs.YtgmdfkmmbcpikaaGreat.Gl
open Go.Proofs.YtgmdfkmmbcpikaaGreat.Gls
open Go.Proofs.YtgmdfkmmbcpikaaGreat.Pl
open Go.Proofs.YtgmdfkmmbcpikaaGreat.Set
open Go.Proofs.YtgmdfkmmbcpikaaGreat.Hd
open Go.Proofs.YtgmdfkmmbcpikaaGreat.HdO
open Go.Proofs.YtgmdfkmmbcpikaaGreat.RH
open Go.Proofs.YtgmdfkmmbcpikaaGreat.Ints
open Go.Proofs.YtgmdfkmmbcpikaaGreat.OwnI
open Go.Proofs.YtgmdfkmmbcpikaaGreat.SzT
open Go.Proofs.YtgmdfkmmbcpikaaGreat.MkH
open Go.Proofs.YtgmdfkmmbcpikaaGreat.Hok
open Go.Proofs.YtgmdfkmmbcpikaaGreat.Law8
set_option linter.unusedVariables false

theorem own : ownKnob Tryz.prog.godebug = none := by kernel_rfl
theorem laidOut : laidOutB Tryz.prog = true := by kernel_rfl
set_option maxHeartbeats 4000000 in
set_option maxRecDepth 100000 in
theorem walk (x0 : Hd.Hd) (A0 : Hd.Ad) (w : World) (w0 : x0.wf ∧ Hd.HdAt w x0 A0)  :
    Calls Tryz.prog 4 #[Hd.hdV x0 A0] w fun e w' => e = .returned (.bool true) ∧ Below w.heap.size w w' := by
  obtain ⟨wf0, at0⟩ := w0
  have HAT := Lib.hid at0
  have HW0 := Lib.hid wf0
  clear wf0 at0
  have info_lh : (Tryz.prog.info? 37).map (·.size) = some 21 := by kernel_rfl
  have K_0 : Hid (CW21 (w.alloc (.cells #[.int .i64 x0.st.rl.dl, .int .i64 x0.st.rl.fr, .int .i64 x0.st.rl.wi, .slice A0.a0 x0.st.gs.length A0.c0, .slice A0.a1 x0.st.bh.up.ps.length A0.c1, .int .i64 x0.st.bh.up.sel, .int .i64 x0.st.bh.up.win, .slice A0.a2 x0.st.bh.dn.ps.length A0.c2, .int .i64 x0.st.bh.dn.sel, .int .i64 x0.st.bh.dn.win, .int .i64 x0.st.bh.mn, .int .i64 x0.st.bh.mx, .int .i64 x0.now, .int .i64 x0.cnt, .int .i64 x0.rev, .slice A0.a3 x0.ps.length A0.c3, .slice A0.a4 x0.ss.length A0.c4, .slice A0.a5 x0.ns.length A0.c5, .slice A0.a6 x0.ms.length A0.c6, .int .i64 x0.cnd, .int .i64 x0.flt] 37)) w.heap.size (.int .i64 x0.st.rl.dl) (.int .i64 x0.st.rl.fr) (.int .i64 x0.st.rl.wi) (.slice A0.a0 x0.st.gs.length A0.c0) (.slice A0.a1 x0.st.bh.up.ps.length A0.c1) (.int .i64 x0.st.bh.up.sel) (.int .i64 x0.st.bh.up.win) (.slice A0.a2 x0.st.bh.dn.ps.length A0.c2) (.int .i64 x0.st.bh.dn.sel) (.int .i64 x0.st.bh.dn.win) (.int .i64 x0.st.bh.mn) (.int .i64 x0.st.bh.mx) (.int .i64 x0.now) (.int .i64 x0.cnt) (.int .i64 x0.rev) (.slice A0.a3 x0.ps.length A0.c3) (.slice A0.a4 x0.ss.length A0.c4) (.slice A0.a5 x0.ns.length A0.c5) (.slice A0.a6 x0.ms.length A0.c6) (.int .i64 x0.cnd) (.int .i64 x0.flt)) := Ser2.cells_new w #[.int .i64 x0.st.rl.dl, .int .i64 x0.st.rl.fr, .int .i64 x0.st.rl.wi, .slice A0.a0 x0.st.gs.length A0.c0, .slice A0.a1 x0.st.bh.up.ps.length A0.c1, .int .i64 x0.st.bh.up.sel, .int .i64 x0.st.bh.up.win, .slice A0.a2 x0.st.bh.dn.ps.length A0.c2, .int .i64 x0.st.bh.dn.sel, .int .i64 x0.st.bh.dn.win, .int .i64 x0.st.bh.mn, .int .i64 x0.st.bh.mx, .int .i64 x0.now, .int .i64 x0.cnt, .int .i64 x0.rev, .slice A0.a3 x0.ps.length A0.c3, .slice A0.a4 x0.ss.length A0.c4, .slice A0.a5 x0.ns.length A0.c5, .slice A0.a6 x0.ms.length A0.c6, .int .i64 x0.cnd, .int .i64 x0.flt] 37
  unfold Hd.hdV
  go_enter Tryz.func4, Tryz.ntmps4
  go_wp2_with (first | (refine wpList_load_mid rfl 37 _ rfl w.heap.size 0 rfl [.int .i64 x0.st.rl.dl, .int .i64 x0.st.rl.fr, .int .i64 x0.st.rl.wi, .slice A0.a0 x0.st.gs.length A0.c0, .slice A0.a1 x0.st.bh.up.ps.length A0.c1, .int .i64 x0.st.bh.up.sel, .int .i64 x0.st.bh.up.win, .slice A0.a2 x0.st.bh.dn.ps.length A0.c2, .int .i64 x0.st.bh.dn.sel, .int .i64 x0.st.bh.dn.win, .int .i64 x0.st.bh.mn, .int .i64 x0.st.bh.mx, .int .i64 x0.now, .int .i64 x0.cnt, .int .i64 x0.rev, .slice A0.a3 x0.ps.length A0.c3, .slice A0.a4 x0.ss.length A0.c4, .slice A0.a5 x0.ns.length A0.c5, .slice A0.a6 x0.ms.length A0.c6, .int .i64 x0.cnd, .int .i64 x0.flt] _ (range_all K_0.out) Tryz.underlying37 rfl info_lh ?_))
  refine (sz_herd x0 HW0.out A0 _ (HAT.out.kept (box_below _ _ _))).mono ?_
  rintro e u1 ⟨r, rfl, hb, hr⟩
  obtain ⟨k0, hB, hz⟩ := one_read hb
  have K_1 : Hid (CW21 u1 w.heap.size (.int .i64 x0.st.rl.dl) (.int .i64 x0.st.rl.fr) (.int .i64 x0.st.rl.wi) (.slice A0.a0 x0.st.gs.length A0.c0) (.slice A0.a1 x0.st.bh.up.ps.length A0.c1) (.int .i64 x0.st.bh.up.sel) (.int .i64 x0.st.bh.up.win) (.slice A0.a2 x0.st.bh.dn.ps.length A0.c2) (.int .i64 x0.st.bh.dn.sel) (.int .i64 x0.st.bh.dn.win) (.int .i64 x0.st.bh.mn) (.int .i64 x0.st.bh.mx) (.int .i64 x0.now) (.int .i64 x0.cnt) (.int .i64 x0.rev) (.slice A0.a3 x0.ps.length A0.c3) (.slice A0.a4 x0.ss.length A0.c4) (.slice A0.a5 x0.ns.length A0.c5) (.slice A0.a6 x0.ms.length A0.c6) (.int .i64 x0.cnd) (.int .i64 x0.flt)) := k0
  have B_1 := Lib.hid hB
  clear k0 hB hz hb K_0
  rcases hr with hr | ⟨hr0, hsm⟩
  · go_wp2
    go_ret
    exact ⟨rfl, B_1.out⟩
  · have HSM := Lib.hid hsm
    clear hsm
    have hlen : (Law8.wantsV x0).length ≤ 1048576 := by
      unfold Law8.wantsV
      split
      · rw [Law8.wants_len]; exact HSM.out.st.1
      · simp
    have hsp := fun A w k => Law8.spec_wantsnow x0 HW0.out HSM.out A w k
    have him := fun A w k (hc : x0.st.gs.length ≤ A.c0) => Law8.impl_wantsnow x0 HW0.out HSM.out A w k hc
    obtain ⟨xs, hv⟩ : ∃ xs, Law8.wantsV x0 = xs := ⟨_, rfl⟩
    simp only [hv] at hsp him hlen
    clear hv
    have HSP := Lib.hid hsp
    have HIM := Lib.hid him
    clear hsp him
    unfold hdV at HSP HIM
    go_wp2_with (first | (refine wpList_load_mid rfl 37 _ rfl w.heap.size 0 rfl [.int .i64 x0.st.rl.dl, .int .i64 x0.st.rl.fr, .int .i64 x0.st.rl.wi, .slice A0.a0 x0.st.gs.length A0.c0, .slice A0.a1 x0.st.bh.up.ps.length A0.c1, .int .i64 x0.st.bh.up.sel, .int .i64 x0.st.bh.up.win, .slice A0.a2 x0.st.bh.dn.ps.length A0.c2, .int .i64 x0.st.bh.dn.sel, .int .i64 x0.st.bh.dn.win, .int .i64 x0.st.bh.mn, .int .i64 x0.st.bh.mx, .int .i64 x0.now, .int .i64 x0.cnt, .int .i64 x0.rev, .slice A0.a3 x0.ps.length A0.c3, .slice A0.a4 x0.ss.length A0.c4, .slice A0.a5 x0.ns.length A0.c5, .slice A0.a6 x0.ms.length A0.c6, .int .i64 x0.cnd, .int .i64 x0.flt] _ (range_all K_1.out) Tryz.underlying37 rfl info_lh ?_))
    refine (to_herd x0 HSM.out A0 _ (HAT.out.kept B_1.out)).mono ?_
    rintro e u2 ⟨A1, T1, T2, T3, T4, T5, rfl, hat, -, -, hb⟩
    have B_2 := Lib.hid (B_1.out.trans (hb.mono B_1.out.size))
    have K_2 := Lib.hid (K_1.out.kept hb)
    clear B_1 K_1 hb T1 T2 T3 T4 T5
    unfold hdV
    have G_2 := Lib.hid hat
    clear hat
    go_wp2_with (first | (refine wpList_load_mid rfl 37 _ rfl w.heap.size 0 rfl [.int .i64 x0.st.rl.dl, .int .i64 x0.st.rl.fr, .int .i64 x0.st.rl.wi, .slice A0.a0 x0.st.gs.length A0.c0, .slice A0.a1 x0.st.bh.up.ps.length A0.c1, .int .i64 x0.st.bh.up.sel, .int .i64 x0.st.bh.up.win, .slice A0.a2 x0.st.bh.dn.ps.length A0.c2, .int .i64 x0.st.bh.dn.sel, .int .i64 x0.st.bh.dn.win, .int .i64 x0.st.bh.mn, .int .i64 x0.st.bh.mx, .int .i64 x0.now, .int .i64 x0.cnt, .int .i64 x0.rev, .slice A0.a3 x0.ps.length A0.c3, .slice A0.a4 x0.ss.length A0.c4, .slice A0.a5 x0.ns.length A0.c5, .slice A0.a6 x0.ms.length A0.c6, .int .i64 x0.cnd, .int .i64 x0.flt] _ (range_all K_2.out) Tryz.underlying37 rfl info_lh ?_))
    refine (HSP.out A1 _ G_2.out).mono ?_
    rintro e u3 ⟨⟨_, rfl, how⟩, hb⟩
    obtain ⟨aw, cw, rfl, hi⟩ := how.ints
    have HI := Lib.hid hi
    have B_3 := Lib.hid (B_2.out.trans (hb.mono B_2.out.size))
    have K_3 := Lib.hid (K_2.out.kept hb)
    have D_3 : Hid (Below u3.heap.size u3 u3) := Below.refl _ _
    have KQ : Hid (∀ W, Hid (Below u3.heap.size u3 W) → Hid (CW21 W w.heap.size (.int .i64 x0.st.rl.dl) (.int .i64 x0.st.rl.fr) (.int .i64 x0.st.rl.wi) (.slice A0.a0 x0.st.gs.length A0.c0) (.slice A0.a1 x0.st.bh.up.ps.length A0.c1) (.int .i64 x0.st.bh.up.sel) (.int .i64 x0.st.bh.up.win) (.slice A0.a2 x0.st.bh.dn.ps.length A0.c2) (.int .i64 x0.st.bh.dn.sel) (.int .i64 x0.st.bh.dn.win) (.int .i64 x0.st.bh.mn) (.int .i64 x0.st.bh.mx) (.int .i64 x0.now) (.int .i64 x0.cnt) (.int .i64 x0.rev) (.slice A0.a3 x0.ps.length A0.c3) (.slice A0.a4 x0.ss.length A0.c4) (.slice A0.a5 x0.ns.length A0.c5) (.slice A0.a6 x0.ms.length A0.c6) (.int .i64 x0.cnd) (.int .i64 x0.flt))) := fun W h => K_3.out.kept h.out
    have AQ : Hid (∀ W, Hid (Below u3.heap.size u3 W) → HdAt W x0 A0) := fun W h => HAT.out.kept (B_3.out.trans (h.out.mono B_3.out.size))
    have IQ : Hid (∀ W, Hid (Below u3.heap.size u3 W) → Ints W aw xs) := fun W h => HI.out.kept h.out
    clear B_2 K_2 G_2 hb how hi HI HAT
    go_wp2_with (first | (refine wpList_load_mid rfl 37 _ rfl w.heap.size 0 rfl [.int .i64 x0.st.rl.dl, .int .i64 x0.st.rl.fr, .int .i64 x0.st.rl.wi, .slice A0.a0 x0.st.gs.length A0.c0, .slice A0.a1 x0.st.bh.up.ps.length A0.c1, .int .i64 x0.st.bh.up.sel, .int .i64 x0.st.bh.up.win, .slice A0.a2 x0.st.bh.dn.ps.length A0.c2, .int .i64 x0.st.bh.dn.sel, .int .i64 x0.st.bh.dn.win, .int .i64 x0.st.bh.mn, .int .i64 x0.st.bh.mx, .int .i64 x0.now, .int .i64 x0.cnt, .int .i64 x0.rev, .slice A0.a3 x0.ps.length A0.c3, .slice A0.a4 x0.ss.length A0.c4, .slice A0.a5 x0.ns.length A0.c5, .slice A0.a6 x0.ms.length A0.c6, .int .i64 x0.cnd, .int .i64 x0.flt] _ (range_all K_3.out) Tryz.underlying37 rfl info_lh ?_))
    refine (to_herd x0 HSM.out A0 _ (AQ.out _ D_3)).mono ?_
    rintro e u4 ⟨A2, T1, T2, T3, T4, T5, rfl, hat, hown, ⟨hcp, -, -, -, hcp4, -, -⟩, hb⟩
    have D_4 := Lib.hid (D_3.out.trans (hb.mono D_3.out.size))
    have H_4 := Lib.hid hown
    have HT5 : Hid (T5 ≤ u4.heap.size) := hown.o.2.2.2.2.2
    have HCA2 := Lib.hid (show x0.st.gs.length ≤ A2.c0 by omega)
    have HC4 := Lib.hid hcp4
    clear K_3 hown hcp hcp4 hb
    unfold hdV
    have G_4 := Lib.hid hat
    clear hat
    have HZ4 : Hid (u3.heap.size ≤ u4.heap.size) := D_4.out.size
    have hkq := KQ.out u4 D_4
    go_wp2_with (first | (refine wpList_load_mid rfl 37 _ rfl w.heap.size 0 rfl [.int .i64 x0.st.rl.dl, .int .i64 x0.st.rl.fr, .int .i64 x0.st.rl.wi, .slice A0.a0 x0.st.gs.length A0.c0, .slice A0.a1 x0.st.bh.up.ps.length A0.c1, .int .i64 x0.st.bh.up.sel, .int .i64 x0.st.bh.up.win, .slice A0.a2 x0.st.bh.dn.ps.length A0.c2, .int .i64 x0.st.bh.dn.sel, .int .i64 x0.st.bh.dn.win, .int .i64 x0.st.bh.mn, .int .i64 x0.st.bh.mx, .int .i64 x0.now, .int .i64 x0.cnt, .int .i64 x0.rev, .slice A0.a3 x0.ps.length A0.c3, .slice A0.a4 x0.ss.length A0.c4, .slice A0.a5 x0.ns.length A0.c5, .slice A0.a6 x0.ms.length A0.c6, .int .i64 x0.cnd, .int .i64 x0.flt] _ (range_all hkq.out) Tryz.underlying37 rfl info_lh ?_) | (refine store_head rfl 54 _ _ rfl u4.heap.size #[.int .i64 x0.st.rl.dl, .int .i64 x0.st.rl.fr, .int .i64 x0.st.rl.wi, .slice A2.a0 x0.st.gs.length A2.c0, .slice A2.a1 x0.st.bh.up.ps.length A2.c1, .int .i64 x0.st.bh.up.sel, .int .i64 x0.st.bh.up.win, .slice A2.a2 x0.st.bh.dn.ps.length A2.c2, .int .i64 x0.st.bh.dn.sel, .int .i64 x0.st.bh.dn.win, .int .i64 x0.st.bh.mn, .int .i64 x0.st.bh.mx, .int .i64 x0.now, .int .i64 x0.cnt, .int .i64 x0.rev, .slice A2.a3 x0.ps.length A2.c3, .slice A2.a4 x0.ss.length A2.c4, .slice A2.a5 x0.ns.length A2.c5, .slice A2.a6 x0.ms.length A2.c6, .int .i64 x0.cnd, .int .i64 x0.flt] rfl rfl [.int .i64 0, .int .i64 0, .int .i64 0, .slice none 0 0, .slice none 0 0, .int .i64 0, .int .i64 0, .slice none 0 0, .int .i64 0, .int .i64 0, .int .i64 0, .int .i64 0, .int .i64 0, .int .i64 0, .int .i64 0, .slice none 0 0, .slice none 0 0, .slice none 0 0, .slice none 0 0, .int .i64 0, .int .i64 0] [] (Ser2.cells_new _ _ _) rfl info_hd (by simp [Value.oneCell']) ?_; intro u5 hc ho; have hb : Below u4.heap.size u4 u5 := (box_below u4 _ _).trans (Only.below ho (Nat.le_refl _) (by simp)); have hs5 : Hid (u4.heap.size < u5.heap.size) := hc.1; have D_5 := Lib.hid (D_4.out.trans (hb.mono D_4.out.size)); have H_5 := Lib.hid (H_4.out.kept hb); have G_5 := Lib.hid (G_4.out.kept hb); have KX_5 : Hid (CW21 u5 u4.heap.size (.int .i64 x0.st.rl.dl) (.int .i64 x0.st.rl.fr) (.int .i64 x0.st.rl.wi) (.slice A2.a0 x0.st.gs.length A2.c0) (.slice A2.a1 x0.st.bh.up.ps.length A2.c1) (.int .i64 x0.st.bh.up.sel) (.int .i64 x0.st.bh.up.win) (.slice A2.a2 x0.st.bh.dn.ps.length A2.c2) (.int .i64 x0.st.bh.dn.sel) (.int .i64 x0.st.bh.dn.win) (.int .i64 x0.st.bh.mn) (.int .i64 x0.st.bh.mx) (.int .i64 x0.now) (.int .i64 x0.cnt) (.int .i64 x0.rev) (.slice A2.a3 x0.ps.length A2.c3) (.slice A2.a4 x0.ss.length A2.c4) (.slice A2.a5 x0.ns.length A2.c5) (.slice A2.a6 x0.ms.length A2.c6) (.int .i64 x0.cnd) (.int .i64 x0.flt)) := hc; clear hb hc ho D_4 H_4 G_4 hkq) | (refine wpList_load_mid rfl 54 _ rfl u4.heap.size 0 rfl [.int .i64 x0.st.rl.dl, .int .i64 x0.st.rl.fr, .int .i64 x0.st.rl.wi, .slice A2.a0 x0.st.gs.length A2.c0, .slice A2.a1 x0.st.bh.up.ps.length A2.c1, .int .i64 x0.st.bh.up.sel, .int .i64 x0.st.bh.up.win, .slice A2.a2 x0.st.bh.dn.ps.length A2.c2, .int .i64 x0.st.bh.dn.sel, .int .i64 x0.st.bh.dn.win, .int .i64 x0.st.bh.mn, .int .i64 x0.st.bh.mx, .int .i64 x0.now, .int .i64 x0.cnt, .int .i64 x0.rev, .slice A2.a3 x0.ps.length A2.c3, .slice A2.a4 x0.ss.length A2.c4, .slice A2.a5 x0.ns.length A2.c5, .slice A2.a6 x0.ms.length A2.c6, .int .i64 x0.cnd, .int .i64 x0.flt] _ (range_all KX_5.out) Tryz.underlying54 rfl info_hd ?_))
    refine (HIM.out A2 _ G_5.out HCA2.out).mono ?_
    rintro e u6 ⟨⟨_, rfl, hog⟩, hb⟩
    obtain ⟨ag, cg, rfl, -⟩ := hog.ints
    have V_6 := Lib.hid hog
    have D_6 := Lib.hid (D_5.out.trans (hb.mono D_5.out.size))
    have H_6 := Lib.hid (H_5.out.kept hb)
    have G_6 := Lib.hid (G_5.out.kept hb)
    have KX_6 := Lib.hid (KX_5.out.kept hb)
    clear D_5 H_5 G_5 KX_5 hb hog
    go_wp2_with fail
    refine (eq_ints xs _ _ _ _ _ (ints_of V_6.out) (IQ.out _ D_6) (by omega)).mono ?_
    rintro e u7 ⟨rfl, hb⟩
    have D_7 := Lib.hid (D_6.out.trans (hb.mono D_6.out.size))
    have H_7 := Lib.hid (H_6.out.kept hb)
    have G_7 := Lib.hid (G_6.out.kept hb)
    have KX_7 := Lib.hid (KX_6.out.kept hb)
    have V_7 := Lib.hid (V_6.out.kept hb)
    clear D_6 H_6 G_6 KX_6 V_6 hb
    go_wp2_with fail
    have hb : Below u7.heap.size u7 u7.drew := (Below.refl _ _).drew
    have D_8 := Lib.hid (D_7.out.trans (hb.mono D_7.out.size))
    have H_8 := Lib.hid (H_7.out.kept hb)
    have G_8 := Lib.hid (G_7.out.kept hb)
    have KX_8 := Lib.hid (KX_7.out.kept hb)
    have V_8 := Lib.hid (V_7.out.kept hb)
    have K_8 := KQ.out _ D_8
    clear D_7 H_7 G_7 KX_7 V_7 hb
    refine wp_region_held_drew (S := fun W => CW21 W w.heap.size (.int .i64 x0.st.rl.dl) (.int .i64 x0.st.rl.fr) (.int .i64 x0.st.rl.wi) (.slice A0.a0 x0.st.gs.length A0.c0) (.slice A0.a1 x0.st.bh.up.ps.length A0.c1) (.int .i64 x0.st.bh.up.sel) (.int .i64 x0.st.bh.up.win) (.slice A0.a2 x0.st.bh.dn.ps.length A0.c2) (.int .i64 x0.st.bh.dn.sel) (.int .i64 x0.st.bh.dn.win) (.int .i64 x0.st.bh.mn) (.int .i64 x0.st.bh.mx) (.int .i64 x0.now) (.int .i64 x0.cnt) (.int .i64 x0.rev) (.slice A0.a3 x0.ps.length A0.c3) (.slice A0.a4 x0.ss.length A0.c4) (.slice A0.a5 x0.ns.length A0.c5) (.slice A0.a6 x0.ms.length A0.c6) (.int .i64 x0.cnd) (.int .i64 x0.flt) ∧ CW21 W u4.heap.size (.int .i64 x0.st.rl.dl) (.int .i64 x0.st.rl.fr) (.int .i64 x0.st.rl.wi) (.slice A2.a0 x0.st.gs.length A2.c0) (.slice A2.a1 x0.st.bh.up.ps.length A2.c1) (.int .i64 x0.st.bh.up.sel) (.int .i64 x0.st.bh.up.win) (.slice A2.a2 x0.st.bh.dn.ps.length A2.c2) (.int .i64 x0.st.bh.dn.sel) (.int .i64 x0.st.bh.dn.win) (.int .i64 x0.st.bh.mn) (.int .i64 x0.st.bh.mx) (.int .i64 x0.now) (.int .i64 x0.cnt) (.int .i64 x0.rev) (.slice A2.a3 x0.ps.length A2.c3) (.slice A2.a4 x0.ss.length A2.c4) (.slice A2.a5 x0.ns.length A2.c5) (.slice A2.a6 x0.ms.length A2.c6) (.int .i64 x0.cnd) (.int .i64 x0.flt)) (by kernel_rfl) ⟨K_8.out, KX_8.out⟩ (fun hHeld => ?_)
    refine' wpAnyH_take (i := 0) (oi := _) (v := _) rfl (by kernel_rfl) (by kernel_rfl) (by kernel_rfl) (fun _ _ _ h => h) (yieldsIf_load_mid (by rfl) _ _ rfl _ _ rfl [.int .i64 x0.st.rl.dl, .int .i64 x0.st.rl.fr, .int .i64 x0.st.rl.wi, .slice A2.a0 x0.st.gs.length A2.c0, .slice A2.a1 x0.st.bh.up.ps.length A2.c1, .int .i64 x0.st.bh.up.sel, .int .i64 x0.st.bh.up.win, .slice A2.a2 x0.st.bh.dn.ps.length A2.c2, .int .i64 x0.st.bh.dn.sel, .int .i64 x0.st.bh.dn.win, .int .i64 x0.st.bh.mn, .int .i64 x0.st.bh.mx, .int .i64 x0.now, .int .i64 x0.cnt, .int .i64 x0.rev, .slice A2.a3 x0.ps.length A2.c3, .slice A2.a4 x0.ss.length A2.c4, .slice A2.a5 x0.ns.length A2.c5, .slice A2.a6 x0.ms.length A2.c6, .int .i64 x0.cnd, .int .i64 x0.flt] _ (fun W h => range_all h.2) Tryz.underlying54 rfl info_hd) hHeld ?_
    refine' wpAnyH_take (i := 1) (oi := _) (v := _) rfl (by kernel_rfl) (by kernel_rfl) (by kernel_rfl) (fun _ _ _ h => h) (yieldsIf_load_mid (by rfl) _ _ rfl _ _ rfl [.int .i64 x0.st.rl.dl, .int .i64 x0.st.rl.fr, .int .i64 x0.st.rl.wi, .slice A0.a0 x0.st.gs.length A0.c0, .slice A0.a1 x0.st.bh.up.ps.length A0.c1, .int .i64 x0.st.bh.up.sel, .int .i64 x0.st.bh.up.win, .slice A0.a2 x0.st.bh.dn.ps.length A0.c2, .int .i64 x0.st.bh.dn.sel, .int .i64 x0.st.bh.dn.win, .int .i64 x0.st.bh.mn, .int .i64 x0.st.bh.mx, .int .i64 x0.now, .int .i64 x0.cnt, .int .i64 x0.rev, .slice A0.a3 x0.ps.length A0.c3, .slice A0.a4 x0.ss.length A0.c4, .slice A0.a5 x0.ns.length A0.c5, .slice A0.a6 x0.ms.length A0.c6, .int .i64 x0.cnd, .int .i64 x0.flt] _ (fun W h => range_all h.1) Tryz.underlying37 rfl info_lh) hHeld ?_
    refine wpAnyH_ready (rs := [2]) (by kernel_rfl) (by simp) ?_
    refine AllReadyH.cons (o := _) rfl (fun K hK => ?_) AllReadyH.nil
    go_simp
    go_at_call 8
    refine (to_herd x0 HSM.out A0 _ (AQ.out _ D_8)).mono ?_
    rintro e u9 ⟨A3, S1, S2, S3, S4, S5, rfl, hat, -, -, hb⟩
    unfold hdV
    have GZ := Lib.hid hat
    clear hat S1 S2 S3 S4 S5
    have D_9 := Lib.hid (D_8.out.trans (hb.mono D_8.out.size))
    have H_9 := Lib.hid (H_8.out.kept hb)
    have G_9 := Lib.hid (G_8.out.kept hb)
    have KX_9 := Lib.hid (KX_8.out.kept hb)
    have V_9 := Lib.hid (V_8.out.kept hb)
    have K_9 := KQ.out _ D_9
    clear D_8 H_8 G_8 KX_8 V_8 K_8 hb
    refine hK.out _ _ ⟨K_9.out, KX_9.out⟩ (fun hHeld => ?_)
    clear hK K
    refine wpAnyH_ready (rs := [3]) (by kernel_rfl) (by simp) ?_
    refine AllReadyH.cons (o := _) rfl (fun K hK => ?_) AllReadyH.nil
    go_simp
    go_at_call 10
    refine (eq_herd x0 HSM.out A2 A3 _ G_9.out GZ.out).mono ?_
    rintro e u10 ⟨rfl, hb⟩
    clear GZ
    have D_10 := Lib.hid (D_9.out.trans (hb.mono D_9.out.size))
    have H_10 := Lib.hid (H_9.out.kept hb)
    have G_10 := Lib.hid (G_9.out.kept hb)
    have KX_10 := Lib.hid (KX_9.out.kept hb)
    have V_10 := Lib.hid (V_9.out.kept hb)
    have K_10 := KQ.out _ D_10
    clear D_9 H_9 G_9 KX_9 V_9 K_9 hb
    refine hK.out _ _ ⟨K_10.out, KX_10.out⟩ (fun hHeld => ?_)
    clear hK K
    refine wpAnyH_ready (rs := [4]) (by kernel_rfl) (by simp) ?_
    refine AllReadyH.cons (o := _) rfl (fun K hK => ?_) AllReadyH.nil
    go_simp
    refine hK.out _ _ ⟨K_10.out, KX_10.out⟩ (fun hHeld => ?_)
    clear hK K
    refine wpAnyH_done (by kernel_rfl) ?_ _
    go_wp2_with (first | (refine wpList_load_mid rfl 54 _ rfl u4.heap.size 0 rfl [.int .i64 x0.st.rl.dl, .int .i64 x0.st.rl.fr, .int .i64 x0.st.rl.wi, .slice A2.a0 x0.st.gs.length A2.c0, .slice A2.a1 x0.st.bh.up.ps.length A2.c1, .int .i64 x0.st.bh.up.sel, .int .i64 x0.st.bh.up.win, .slice A2.a2 x0.st.bh.dn.ps.length A2.c2, .int .i64 x0.st.bh.dn.sel, .int .i64 x0.st.bh.dn.win, .int .i64 x0.st.bh.mn, .int .i64 x0.st.bh.mx, .int .i64 x0.now, .int .i64 x0.cnt, .int .i64 x0.rev, .slice A2.a3 x0.ps.length A2.c3, .slice A2.a4 x0.ss.length A2.c4, .slice A2.a5 x0.ns.length A2.c5, .slice A2.a6 x0.ms.length A2.c6, .int .i64 x0.cnd, .int .i64 x0.flt] _ (range_all KX_10.out) Tryz.underlying54 rfl info_hd ?_))
    have hms := mark_herd x0 HSM.out A2 _ T1 T2 T3 T4 T5 u4.heap.size _ H_10.out HC4.out HT5.out (Nat.le_of_lt KX_10.out.1)
    unfold hdV at hms
    refine hms.mono ?_
    clear hms
    rintro e u11 ⟨mk, rfl, hb, hup⟩
    have hmk0 : decide ((mk : Int) < 0) = false := decide_eq_false (by omega)
    have D_11 := Lib.hid (D_10.out.trans hb)
    have V_11 : Hid (OwnI u11 u5.heap.size (.slice ag xs.length cg) xs) := row_up V_10.out (Nat.le_of_lt hs5.out) hup
    clear hb hup D_10 H_10 G_10 KX_10 V_10 K_10 HC4 HT5 HCA2
    go_wp2_with fail
    refine (eq_ints xs _ _ _ _ _ (ints_of V_11.out) (IQ.out _ D_11) (by omega)).mono ?_
    rintro e u12 ⟨rfl, hb⟩
    have D_12 := Lib.hid (D_11.out.trans (hb.mono D_11.out.size))
    have V_12 := Lib.hid (V_11.out.kept hb)
    clear hb D_11 V_11
    go_wp2_with fail
    refine (mark_ints xs ag cg u5.heap.size 1 (by omega) _ V_12.out).mono ?_
    rintro e u13 ⟨rfl, ho, ha⟩
    have D_13 := Lib.hid (onlyI_below ha D_12.out (fun c o s e => Nat.le_trans (Nat.le_trans HZ4.out (Nat.le_of_lt hs5.out)) (base_of V_12.out c o s e)) D_12.out.size)
    have V_13 := Lib.hid ho
    clear ho ha D_12 V_12
    obtain ⟨q, hq⟩ : ∃ q : Nat, 1 + xs.length = q := ⟨_, rfl⟩
    have HQ := Lib.hid hq
    rw [hq]
    have hq0 : decide ((q : Int) < 0) = false := decide_eq_false (by omega)
    have hqn : ((q : Int) != (q : Int)) = false := by simp
    clear hq
    go_wp2_with fail
    refine (held_ints xs.length ag cg u5.heap.size 1 (by omega) _ V_13.out).mono ?_
    rw [HQ.out]
    rintro e u14 ⟨rfl, hb⟩
    have D_14 := Lib.hid (D_13.out.trans (hb.mono D_13.out.size))
    have V_14 := Lib.hid (V_13.out.kept hb)
    clear hb D_13 V_13
    have hkq := KQ.out u14 D_14
    go_wp2_with (first | (refine wpList_load_mid rfl 37 _ rfl w.heap.size 0 rfl [.int .i64 x0.st.rl.dl, .int .i64 x0.st.rl.fr, .int .i64 x0.st.rl.wi, .slice A0.a0 x0.st.gs.length A0.c0, .slice A0.a1 x0.st.bh.up.ps.length A0.c1, .int .i64 x0.st.bh.up.sel, .int .i64 x0.st.bh.up.win, .slice A0.a2 x0.st.bh.dn.ps.length A0.c2, .int .i64 x0.st.bh.dn.sel, .int .i64 x0.st.bh.dn.win, .int .i64 x0.st.bh.mn, .int .i64 x0.st.bh.mx, .int .i64 x0.now, .int .i64 x0.cnt, .int .i64 x0.rev, .slice A0.a3 x0.ps.length A0.c3, .slice A0.a4 x0.ss.length A0.c4, .slice A0.a5 x0.ns.length A0.c5, .slice A0.a6 x0.ms.length A0.c6, .int .i64 x0.cnd, .int .i64 x0.flt] _ (range_all hkq.out) Tryz.underlying37 rfl info_lh ?_))
    refine (to_herd x0 HSM.out A0 _ (AQ.out _ D_14)).mono ?_
    rintro e u15 ⟨A4, S1, S2, S3, S4, S5, rfl, hat, -, ⟨hcp, -⟩, hb⟩
    have D_15 := Lib.hid (D_14.out.trans (hb.mono D_14.out.size))
    have V_15 := Lib.hid (V_14.out.kept hb)
    unfold hdV
    have G_15 := Lib.hid hat
    have HCA4 := Lib.hid (show x0.st.gs.length ≤ A4.c0 by omega)
    clear hat hb hcp D_14 V_14 hkq S1 S2 S3 S4 S5
    go_wp2_with fail
    refine (HIM.out A4 _ G_15.out HCA4.out).mono ?_
    rintro e u16 ⟨⟨_, rfl, hoh⟩, hb⟩
    obtain ⟨ah, ch, rfl, -⟩ := hoh.ints
    have W_16 := Lib.hid hoh
    have D_16 := Lib.hid (D_15.out.trans (hb.mono D_15.out.size))
    have V_16 := Lib.hid (V_15.out.kept hb)
    clear hb hoh D_15 V_15 G_15
    go_wp2_with fail
    refine (eq_ints xs _ _ _ _ _ (ints_of W_16.out) (IQ.out _ D_16) (by omega)).mono ?_
    rintro e u17 ⟨rfl, hb⟩
    have D_17 := Lib.hid (D_16.out.trans (hb.mono D_16.out.size))
    have V_17 := Lib.hid (V_16.out.kept hb)
    clear hb D_16 V_16 W_16
    go_wp2_with fail
    refine (held_ints xs.length ag cg u5.heap.size 1 (by omega) _ V_17.out).mono ?_
    rw [HQ.out]
    rintro e u18 ⟨rfl, hb⟩
    have D_18 := Lib.hid (D_17.out.trans (hb.mono D_17.out.size))
    have BF := Lib.hid (B_3.out.trans (D_18.out.mono B_3.out.size))
    clear hb D_17 V_17
    go_wp2
    go_ret
    exact ⟨rfl, BF.out⟩

set_option maxRecDepth 100000 in
theorem lifted (os : Os) (started : os.Started) (H : Type) (enc : TypeId × Value → H) :
    ReturnsInHanded {} Tryz.checked os 4 .any (Rows.fnExactWantsNowSpec.pre6 enc Tryz.prog Tryz.f4 Rows.fnExactWantsNowRow.domain false) (Rows.fnExactWantsNowSpec.post enc Tryz.prog Tryz.f4 false true false false) := by
  refine returnsInHanded_of_change (C := Tryz.checked) own started (by kernel_rfl) Tryz.func4
    (ChangeSpec.witness6 (enc := enc) (C := Tryz.checked) false ⟨#[], #[.agg #[.int .i64 0, .int .i64 0, .int .i64 0, .slice none 0 0, .slice none 0 0, .int .i64 0, .int .i64 0, .slice none 0 0, .int .i64 0, .int .i64 0, .int .i64 0, .int .i64 0, .int .i64 0, .int .i64 0, .int .i64 0, .slice none 0 0, .slice none 0 0, .slice none 0 0, .slice none 0 0, .int .i64 0, .int .i64 0]], []⟩ 8 (by kernel_rfl) (by kernel_rfl) (by kernel_rfl) (by kernel_rfl)) ?_
  intro W base args ds gs before hval0 hW hcnd _
  have hval : ∀ (j : Nat) t v, Tryz.f4.params[j]? = some t → args[j]? = some v → Value.okWide Tryz.prog W .any base t v := hval0
  clear hval0
  have hW' := hW
  obtain ⟨p, q, hA0, hV, rfl, hfz, hnd⟩ := hW
  have hA : DataW.TrodAll enc Tryz.prog W 0 (fun _ => true) true Tryz.f4.params.toList args.toList ds p := hA0
  rw [Tryz.params4] at hA hval
  obtain ⟨v0, vs0, d0, ds0, p0, q0, hargs, rfl, rfl, h0, r0⟩ := trodAll_cons hA
  obtain ⟨rfl, rfl, rfl⟩ := trodAll_nil r0
  obtain rfl : args = #[v0] := by cases args; simp_all
  obtain ⟨rfl, rfl⟩ := trodVars_none hV
  have k0 := h0
  have lt0 : ∀ x ∈ p0, x.block < W.heap.size := by obtain ⟨m, hm⟩ := k0; exact DataW.trod_lt m _ _ _ hm
  obtain ⟨x0, A0, rfl, wf0, wa0⟩ := HdO.open_herd Tryz.underlying37 (by kernel_rfl) ⟨rfl, rfl, rfl, rfl, rfl, rfl, rfl, rfl, rfl, rfl⟩ ⟨rfl, rfl, rfl, rfl, rfl, rfl, rfl, rfl, rfl, rfl⟩ ⟨by kernel_rfl, by kernel_rfl, by kernel_rfl, by kernel_rfl, by kernel_rfl, by kernel_rfl⟩ Tryz.underlying3 Tryz.underlying32 Tryz.underlying33 Tryz.underlying34 Tryz.underlying35
    (fun _ _ _ _ _ _ _ _ _ _ _ _ _ _ h => HdO.open_setup_cells Tryz.underlying31 (by kernel_rfl) ⟨rfl, rfl, rfl⟩ ⟨rfl, rfl, rfl⟩ (by kernel_rfl) (by kernel_rfl) Tryz.underlying23 (by kernel_rfl) (by kernel_rfl) ⟨rfl, rfl, rfl⟩
      Tryz.underlying24 Tryz.underlying161 (by kernel_rfl) (by kernel_rfl) ⟨rfl, rfl, rfl⟩ Tryz.underlying9 Tryz.underlying29 ⟨rfl, rfl, rfl, rfl⟩ ⟨rfl, rfl, rfl, rfl⟩ (by kernel_rfl) Tryz.underlying27 (by kernel_rfl) (by kernel_rfl) ⟨rfl, rfl, rfl⟩ Tryz.underlying25 Tryz.underlying236 (by kernel_rfl) (by kernel_rfl) ⟨rfl, rfl, rfl⟩ Tryz.underlying3 h)
    (fun _ _ _ _ _ h => open_pds Tryz.underlying32 Tryz.underlying104 (by kernel_rfl) (by kernel_rfl) ⟨rfl, rfl, rfl, rfl⟩ Tryz.underlying9 Tryz.underlying3 Tryz.underlying4 h)
    (fun _ _ _ _ _ h => open_srs Tryz.underlying33 Tryz.underlying108 (by kernel_rfl) (by kernel_rfl) ⟨rfl, rfl, rfl⟩ Tryz.underlying9 Tryz.underlying106 Tryz.underlying198 (by kernel_rfl) (by kernel_rfl) ⟨rfl, rfl⟩ Tryz.underlying3 h)
    (fun _ _ _ _ _ h => Pl.open_row2 Tryz.underlying34 Tryz.underlying130 (by kernel_rfl) (by kernel_rfl) ⟨rfl, rfl⟩ Tryz.underlying3 h)
    (fun _ _ _ _ _ h => Pl.open_row2 Tryz.underlying35 Tryz.underlying132 (by kernel_rfl) (by kernel_rfl) ⟨rfl, rfl⟩ Tryz.underlying3 h) (hval 0 37 v0 rfl rfl) h0
  have w0 := And.intro wf0 wa0
  clear hA0
  refine (walk x0 A0 W w0).mono fun e W' ⟨he, bel⟩ => ?_
  subst he
  exact ⟨_, rfl, _, _, _, [], _, [], hW', trodAll_mk1 (shut_bool Tryz.underlying4 _), (trodAll_cons_mk (Below.trod laidOut (by kernel_rfl) (of_decide_eq_true (by kernel_rfl)) k0 bel lt0) trodAll_mk0), rfl, bel.frame _, fun h => by cases h⟩

theorem over : Rows.fnExactWantsNowRow.holds Tryz.pinned (OpenSpec.ofChange Rows.fnExactWantsNowSpec) :=
  OpenClaim.holds_of_wide 4 Tryz.f4 rfl rfl rfl rfl rfl rfl rfl ⟨rfl, rfl, rfl, rfl, rfl⟩ rfl rfl rfl rfl rfl (by kernel_rfl) Tryz.func4 (by kernel_rfl)
    (of_decide_eq_true (by kernel_rfl)) (by unfold Func.isWrapper; first | (rw [if_pos (by decide +kernel)]; kernel_rfl) | (rw [if_neg (by decide +kernel)]; exact ⟨rfl, rfl⟩))
    (fun os started H enc _ => lifted os started H enc)

/-- THE STATEMENT. -/
theorem proved : Rows.FnExactWantsNowSaid := over
end Go.Proofs.YtgmdfkmmbcpikaaGreat.fnExactWantsNow
