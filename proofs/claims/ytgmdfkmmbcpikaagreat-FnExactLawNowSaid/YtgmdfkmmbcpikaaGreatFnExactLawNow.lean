/- For every input that can be read, the Go function laws.FnExactLawNow returns true and leaves its arguments as they read: the statement Rows.FnExactLawNowSaid, without a condition of ours. -/
import Derived.Test.YtgmdfkmmbcpikaaGreatRows
import Derived.WalkKit
import Derived.ProofKit
import Derived.OpenShut
import Derived.ShutString
import Derived.ChangeOld
import Derived.Below
import Derived.Lib.SmallJoins
import Derived.Test.YtgmdfkmmbcpikaaGreatC1
import Derived.Test.YtgmdfkmmbcpikaaGreatC2
import Derived.Test.YtgmdfkmmbcpikaaGreatSmps
import Derived.Test.YtgmdfkmmbcpikaaGreatMem
import Derived.Test.YtgmdfkmmbcpikaaGreatSer
import Derived.Test.YtgmdfkmmbcpikaaGreatSer2
import Derived.Test.YtgmdfkmmbcpikaaGreatPd
import Derived.Test.YtgmdfkmmbcpikaaGreatPds
import Derived.Test.YtgmdfkmmbcpikaaGreatGl
import Derived.Test.YtgmdfkmmbcpikaaGreatGls
import Derived.Test.YtgmdfkmmbcpikaaGreatPl
import Derived.Test.YtgmdfkmmbcpikaaGreatSet
import Derived.Test.YtgmdfkmmbcpikaaGreatHdA
import Derived.Test.YtgmdfkmmbcpikaaGreatRH
import Derived.Test.YtgmdfkmmbcpikaaGreatHokA
import Derived.Test.YtgmdfkmmbcpikaaGreatLwA
namespace Go.Proofs.YtgmdfkmmbcpikaaGreat.fnExactLawNow
open Go.ChangeShapes Go.WideShapes Go.ChangeAt Go.RowKit Go.Joins
open Go.ChangeMaps (open_string shut_string)
open Go.Proofs.YtgmdfkmmbcpikaaGreat.C1
open Go.Proofs.YtgmdfkmmbcpikaaGreat.C2
open Go.Proofs.YtgmdfkmmbcpikaaGreat.Smps
open Go.Proofs.YtgmdfkmmbcpikaaGreat.Mem
open Go.Proofs.YtgmdfkmmbcpikaaGreat.Ser
open Go.Proofs.YtgmdfkmmbcpikaaGreat.Ser2
open Go.Proofs.YtgmdfkmmbcpikaaGreat.Pd
open Go.Proofs.YtgmdfkmmbcpikaaGreat.Pds
open Go.Proofs.YtgmdfkmmbcpikaaGreat.Gl
open Go.Proofs.YtgmdfkmmbcpikaaGreat.Gls
open Go.Proofs.YtgmdfkmmbcpikaaGreat.Pl
open Go.Proofs.YtgmdfkmmbcpikaaGreat.Set
open Go.Proofs.YtgmdfkmmbcpikaaGreat.Hd
open Go.Proofs.YtgmdfkmmbcpikaaGreat.HdO
open Go.Proofs.YtgmdfkmmbcpikaaGreat.RH
open Go.Proofs.YtgmdfkmmbcpikaaGreat.Hok
open Go.Proofs.YtgmdfkmmbcpikaaGreat.Law8
set_option linter.unusedVariables false

theorem own : ownKnob Tryz.prog.godebug = none := by kernel_rfl
theorem laidOut : laidOutB Tryz.prog = true := by kernel_rfl
set_option maxHeartbeats 4000000 in
set_option maxRecDepth 100000 in
theorem walk (x0 : Hd.Hd) (A0 : Hd.Ad) (w : World) (w0 : x0.wf ∧ Hd.HdAt w x0 A0)  :
    Calls Tryz.prog 5 #[Hd.hdV x0 A0] w fun e w' => e = .returned (.bool true) ∧ Below w.heap.size w w' := by
  obtain ⟨wf0, at0⟩ := w0
  have HAT := Lib.hid at0
  have HW0 := Lib.hid wf0
  clear wf0 at0
  have info_lh : (Tryz.prog.info? 37).map (·.size) = some 21 := by kernel_rfl
  have K_0 : Hid (CW21 (w.alloc (.cells #[.int .i64 x0.st.rl.dl, .int .i64 x0.st.rl.fr, .int .i64 x0.st.rl.wi, .slice A0.a0 x0.st.gs.length A0.c0, .slice A0.a1 x0.st.bh.up.ps.length A0.c1, .int .i64 x0.st.bh.up.sel, .int .i64 x0.st.bh.up.win, .slice A0.a2 x0.st.bh.dn.ps.length A0.c2, .int .i64 x0.st.bh.dn.sel, .int .i64 x0.st.bh.dn.win, .int .i64 x0.st.bh.mn, .int .i64 x0.st.bh.mx, .int .i64 x0.now, .int .i64 x0.cnt, .int .i64 x0.rev, .slice A0.a3 x0.ps.length A0.c3, .slice A0.a4 x0.ss.length A0.c4, .slice A0.a5 x0.ns.length A0.c5, .slice A0.a6 x0.ms.length A0.c6, .int .i64 x0.cnd, .int .i64 x0.flt] 37)) w.heap.size (.int .i64 x0.st.rl.dl) (.int .i64 x0.st.rl.fr) (.int .i64 x0.st.rl.wi) (.slice A0.a0 x0.st.gs.length A0.c0) (.slice A0.a1 x0.st.bh.up.ps.length A0.c1) (.int .i64 x0.st.bh.up.sel) (.int .i64 x0.st.bh.up.win) (.slice A0.a2 x0.st.bh.dn.ps.length A0.c2) (.int .i64 x0.st.bh.dn.sel) (.int .i64 x0.st.bh.dn.win) (.int .i64 x0.st.bh.mn) (.int .i64 x0.st.bh.mx) (.int .i64 x0.now) (.int .i64 x0.cnt) (.int .i64 x0.rev) (.slice A0.a3 x0.ps.length A0.c3) (.slice A0.a4 x0.ss.length A0.c4) (.slice A0.a5 x0.ns.length A0.c5) (.slice A0.a6 x0.ms.length A0.c6) (.int .i64 x0.cnd) (.int .i64 x0.flt)) := Ser2.cells_new w #[.int .i64 x0.st.rl.dl, .int .i64 x0.st.rl.fr, .int .i64 x0.st.rl.wi, .slice A0.a0 x0.st.gs.length A0.c0, .slice A0.a1 x0.st.bh.up.ps.length A0.c1, .int .i64 x0.st.bh.up.sel, .int .i64 x0.st.bh.up.win, .slice A0.a2 x0.st.bh.dn.ps.length A0.c2, .int .i64 x0.st.bh.dn.sel, .int .i64 x0.st.bh.dn.win, .int .i64 x0.st.bh.mn, .int .i64 x0.st.bh.mx, .int .i64 x0.now, .int .i64 x0.cnt, .int .i64 x0.rev, .slice A0.a3 x0.ps.length A0.c3, .slice A0.a4 x0.ss.length A0.c4, .slice A0.a5 x0.ns.length A0.c5, .slice A0.a6 x0.ms.length A0.c6, .int .i64 x0.cnd, .int .i64 x0.flt] 37
  unfold Hd.hdV
  go_enter Tryz.func5, Tryz.ntmps5
  go_wp2_with (first | (refine wpList_load_mid rfl 37 _ rfl w.heap.size 0 rfl [.int .i64 x0.st.rl.dl, .int .i64 x0.st.rl.fr, .int .i64 x0.st.rl.wi, .slice A0.a0 x0.st.gs.length A0.c0, .slice A0.a1 x0.st.bh.up.ps.length A0.c1, .int .i64 x0.st.bh.up.sel, .int .i64 x0.st.bh.up.win, .slice A0.a2 x0.st.bh.dn.ps.length A0.c2, .int .i64 x0.st.bh.dn.sel, .int .i64 x0.st.bh.dn.win, .int .i64 x0.st.bh.mn, .int .i64 x0.st.bh.mx, .int .i64 x0.now, .int .i64 x0.cnt, .int .i64 x0.rev, .slice A0.a3 x0.ps.length A0.c3, .slice A0.a4 x0.ss.length A0.c4, .slice A0.a5 x0.ns.length A0.c5, .slice A0.a6 x0.ms.length A0.c6, .int .i64 x0.cnd, .int .i64 x0.flt] _ (range_all K_0.out) Tryz.underlying37 rfl info_lh ?_))
  refine (sz_herd x0 HW0.out A0 _ (HAT.out.kept (box_below _ _ _))).mono ?_
  rintro e u1 ⟨r, rfl, hb, hr⟩
  obtain ⟨k0, hB, hz⟩ := one_read hb
  have K_1 : Hid (CW21 u1 w.heap.size (.int .i64 x0.st.rl.dl) (.int .i64 x0.st.rl.fr) (.int .i64 x0.st.rl.wi) (.slice A0.a0 x0.st.gs.length A0.c0) (.slice A0.a1 x0.st.bh.up.ps.length A0.c1) (.int .i64 x0.st.bh.up.sel) (.int .i64 x0.st.bh.up.win) (.slice A0.a2 x0.st.bh.dn.ps.length A0.c2) (.int .i64 x0.st.bh.dn.sel) (.int .i64 x0.st.bh.dn.win) (.int .i64 x0.st.bh.mn) (.int .i64 x0.st.bh.mx) (.int .i64 x0.now) (.int .i64 x0.cnt) (.int .i64 x0.rev) (.slice A0.a3 x0.ps.length A0.c3) (.slice A0.a4 x0.ss.length A0.c4) (.slice A0.a5 x0.ns.length A0.c5) (.slice A0.a6 x0.ms.length A0.c6) (.int .i64 x0.cnd) (.int .i64 x0.flt)) := k0
  have B_1 := Lib.hid hB
  clear k0 hB hz hb K_0
  rcases hr with hr | ⟨hr0, hsm⟩
  · go_wp2
    go_ret
    exact ⟨rfl, B_1.out⟩
  · have HSM := Lib.hid hsm
    clear hsm
    have hsp := fun A w k (hc : x0.st.gs.length ≤ A.c0) => Law8.spec_lawnow x0 HW0.out HSM.out A w k
    have him := fun A w k (hc : x0.st.gs.length ≤ A.c0) => Law8.impl_lawnow x0 HW0.out HSM.out A w k hc
    obtain ⟨v, hv⟩ : ∃ v, Law8.lawV x0 = v := ⟨_, rfl⟩
    simp only [hv] at hsp him
    clear hv
    have HSP := Lib.hid hsp
    have HIM := Lib.hid him
    clear hsp him
    unfold hdV at HSP HIM
    go_wp2_with (first | (refine wpList_load_mid rfl 37 _ rfl w.heap.size 0 rfl [.int .i64 x0.st.rl.dl, .int .i64 x0.st.rl.fr, .int .i64 x0.st.rl.wi, .slice A0.a0 x0.st.gs.length A0.c0, .slice A0.a1 x0.st.bh.up.ps.length A0.c1, .int .i64 x0.st.bh.up.sel, .int .i64 x0.st.bh.up.win, .slice A0.a2 x0.st.bh.dn.ps.length A0.c2, .int .i64 x0.st.bh.dn.sel, .int .i64 x0.st.bh.dn.win, .int .i64 x0.st.bh.mn, .int .i64 x0.st.bh.mx, .int .i64 x0.now, .int .i64 x0.cnt, .int .i64 x0.rev, .slice A0.a3 x0.ps.length A0.c3, .slice A0.a4 x0.ss.length A0.c4, .slice A0.a5 x0.ns.length A0.c5, .slice A0.a6 x0.ms.length A0.c6, .int .i64 x0.cnd, .int .i64 x0.flt] _ (range_all K_1.out) Tryz.underlying37 rfl info_lh ?_))
    refine (to_herd x0 HSM.out A0 _ (HAT.out.kept B_1.out)).mono ?_
    rintro e u2 ⟨A1, T1, T2, T3, T4, T5, rfl, hat, -, ⟨hcp, -⟩, hb⟩
    have B_2 := Lib.hid (B_1.out.trans (hb.mono B_1.out.size))
    have K_2 := Lib.hid (K_1.out.kept hb)
    clear B_1 K_1 hb
    unfold hdV
    have G_2 := Lib.hid hat
    have HCA1 := Lib.hid (show x0.st.gs.length ≤ A1.c0 by omega)
    clear hat hcp
    clear T1 T2 T3 T4 T5
    go_wp2_with (first | (refine wpList_load_mid rfl 37 _ rfl w.heap.size 0 rfl [.int .i64 x0.st.rl.dl, .int .i64 x0.st.rl.fr, .int .i64 x0.st.rl.wi, .slice A0.a0 x0.st.gs.length A0.c0, .slice A0.a1 x0.st.bh.up.ps.length A0.c1, .int .i64 x0.st.bh.up.sel, .int .i64 x0.st.bh.up.win, .slice A0.a2 x0.st.bh.dn.ps.length A0.c2, .int .i64 x0.st.bh.dn.sel, .int .i64 x0.st.bh.dn.win, .int .i64 x0.st.bh.mn, .int .i64 x0.st.bh.mx, .int .i64 x0.now, .int .i64 x0.cnt, .int .i64 x0.rev, .slice A0.a3 x0.ps.length A0.c3, .slice A0.a4 x0.ss.length A0.c4, .slice A0.a5 x0.ns.length A0.c5, .slice A0.a6 x0.ms.length A0.c6, .int .i64 x0.cnd, .int .i64 x0.flt] _ (range_all K_2.out) Tryz.underlying37 rfl info_lh ?_))
    refine (HSP.out A1 _ G_2.out HCA1.out).mono ?_
    rintro e u3 ⟨rfl, hb⟩
    have B_3 := Lib.hid (B_2.out.trans (hb.mono B_2.out.size))
    have K_3 := Lib.hid (K_2.out.kept hb)
    have G_3 := Lib.hid (G_2.out.kept hb)
    clear B_2 K_2 G_2 hb
    clear G_3
    go_wp2_with (first | (refine wpList_load_mid rfl 37 _ rfl w.heap.size 0 rfl [.int .i64 x0.st.rl.dl, .int .i64 x0.st.rl.fr, .int .i64 x0.st.rl.wi, .slice A0.a0 x0.st.gs.length A0.c0, .slice A0.a1 x0.st.bh.up.ps.length A0.c1, .int .i64 x0.st.bh.up.sel, .int .i64 x0.st.bh.up.win, .slice A0.a2 x0.st.bh.dn.ps.length A0.c2, .int .i64 x0.st.bh.dn.sel, .int .i64 x0.st.bh.dn.win, .int .i64 x0.st.bh.mn, .int .i64 x0.st.bh.mx, .int .i64 x0.now, .int .i64 x0.cnt, .int .i64 x0.rev, .slice A0.a3 x0.ps.length A0.c3, .slice A0.a4 x0.ss.length A0.c4, .slice A0.a5 x0.ns.length A0.c5, .slice A0.a6 x0.ms.length A0.c6, .int .i64 x0.cnd, .int .i64 x0.flt] _ (range_all K_3.out) Tryz.underlying37 rfl info_lh ?_))
    refine (to_herd x0 HSM.out A0 _ (HAT.out.kept B_3.out)).mono ?_
    rintro e u4 ⟨A2, T1, T2, T3, T4, T5, rfl, hat, -, ⟨hcp, -⟩, hb⟩
    have B_4 := Lib.hid (B_3.out.trans (hb.mono B_3.out.size))
    have K_4 := Lib.hid (K_3.out.kept hb)
    clear B_3 K_3 hb
    unfold hdV
    have G_4 := Lib.hid hat
    have HCA2 := Lib.hid (show x0.st.gs.length ≤ A2.c0 by omega)
    clear hat hcp
    clear T1 T2 T3 T4 T5
    go_wp2_with (first | (refine wpList_load_mid rfl 37 _ rfl w.heap.size 0 rfl [.int .i64 x0.st.rl.dl, .int .i64 x0.st.rl.fr, .int .i64 x0.st.rl.wi, .slice A0.a0 x0.st.gs.length A0.c0, .slice A0.a1 x0.st.bh.up.ps.length A0.c1, .int .i64 x0.st.bh.up.sel, .int .i64 x0.st.bh.up.win, .slice A0.a2 x0.st.bh.dn.ps.length A0.c2, .int .i64 x0.st.bh.dn.sel, .int .i64 x0.st.bh.dn.win, .int .i64 x0.st.bh.mn, .int .i64 x0.st.bh.mx, .int .i64 x0.now, .int .i64 x0.cnt, .int .i64 x0.rev, .slice A0.a3 x0.ps.length A0.c3, .slice A0.a4 x0.ss.length A0.c4, .slice A0.a5 x0.ns.length A0.c5, .slice A0.a6 x0.ms.length A0.c6, .int .i64 x0.cnd, .int .i64 x0.flt] _ (range_all K_5.out) Tryz.underlying37 rfl info_lh ?_) | (refine wpList_load_mid rfl 54 _ rfl u4.heap.size 0 rfl [.int .i64 x0.st.rl.dl, .int .i64 x0.st.rl.fr, .int .i64 x0.st.rl.wi, .slice A2.a0 x0.st.gs.length A2.c0, .slice A2.a1 x0.st.bh.up.ps.length A2.c1, .int .i64 x0.st.bh.up.sel, .int .i64 x0.st.bh.up.win, .slice A2.a2 x0.st.bh.dn.ps.length A2.c2, .int .i64 x0.st.bh.dn.sel, .int .i64 x0.st.bh.dn.win, .int .i64 x0.st.bh.mn, .int .i64 x0.st.bh.mx, .int .i64 x0.now, .int .i64 x0.cnt, .int .i64 x0.rev, .slice A2.a3 x0.ps.length A2.c3, .slice A2.a4 x0.ss.length A2.c4, .slice A2.a5 x0.ns.length A2.c5, .slice A2.a6 x0.ms.length A2.c6, .int .i64 x0.cnd, .int .i64 x0.flt] _ (range_all KX_5.out) Tryz.underlying54 rfl info_hd ?_) | (refine store_head rfl 54 _ _ rfl u4.heap.size #[.int .i64 x0.st.rl.dl, .int .i64 x0.st.rl.fr, .int .i64 x0.st.rl.wi, .slice A2.a0 x0.st.gs.length A2.c0, .slice A2.a1 x0.st.bh.up.ps.length A2.c1, .int .i64 x0.st.bh.up.sel, .int .i64 x0.st.bh.up.win, .slice A2.a2 x0.st.bh.dn.ps.length A2.c2, .int .i64 x0.st.bh.dn.sel, .int .i64 x0.st.bh.dn.win, .int .i64 x0.st.bh.mn, .int .i64 x0.st.bh.mx, .int .i64 x0.now, .int .i64 x0.cnt, .int .i64 x0.rev, .slice A2.a3 x0.ps.length A2.c3, .slice A2.a4 x0.ss.length A2.c4, .slice A2.a5 x0.ns.length A2.c5, .slice A2.a6 x0.ms.length A2.c6, .int .i64 x0.cnd, .int .i64 x0.flt] rfl rfl [.int .i64 0, .int .i64 0, .int .i64 0, .slice none 0 0, .slice none 0 0, .int .i64 0, .int .i64 0, .slice none 0 0, .int .i64 0, .int .i64 0, .int .i64 0, .int .i64 0, .int .i64 0, .int .i64 0, .int .i64 0, .slice none 0 0, .slice none 0 0, .slice none 0 0, .slice none 0 0, .int .i64 0, .int .i64 0] [] (Ser2.cells_new _ _ _) rfl info_hd (by simp [Value.oneCell']) ?_; intro u5 hc ho; have hb : Below u4.heap.size u4 u5 := (box_below u4 _ _).trans (Only.below ho (Nat.le_refl _) (by simp)); have B_5 := Lib.hid (B_4.out.trans (hb.mono B_4.out.size)); have K_5 := Lib.hid (K_4.out.kept hb); have G_5 := Lib.hid (G_4.out.kept hb); have KX_5 : Hid (CW21 u5 u4.heap.size (.int .i64 x0.st.rl.dl) (.int .i64 x0.st.rl.fr) (.int .i64 x0.st.rl.wi) (.slice A2.a0 x0.st.gs.length A2.c0) (.slice A2.a1 x0.st.bh.up.ps.length A2.c1) (.int .i64 x0.st.bh.up.sel) (.int .i64 x0.st.bh.up.win) (.slice A2.a2 x0.st.bh.dn.ps.length A2.c2) (.int .i64 x0.st.bh.dn.sel) (.int .i64 x0.st.bh.dn.win) (.int .i64 x0.st.bh.mn) (.int .i64 x0.st.bh.mx) (.int .i64 x0.now) (.int .i64 x0.cnt) (.int .i64 x0.rev) (.slice A2.a3 x0.ps.length A2.c3) (.slice A2.a4 x0.ss.length A2.c4) (.slice A2.a5 x0.ns.length A2.c5) (.slice A2.a6 x0.ms.length A2.c6) (.int .i64 x0.cnd) (.int .i64 x0.flt)) := hc; clear B_4 K_4 G_4 hb hc ho))
    refine (HIM.out A2 _ G_5.out HCA2.out).mono ?_
    rintro e u6 ⟨rfl, hb⟩
    have B_6 := Lib.hid (B_5.out.trans (hb.mono B_5.out.size))
    have K_6 := Lib.hid (K_5.out.kept hb)
    have G_6 := Lib.hid (G_5.out.kept hb)
    have KX_6 := Lib.hid (KX_5.out.kept hb)
    clear B_5 K_5 G_5 KX_5 hb
    go_wp2_with fail
    have hb : Below u6.heap.size u6 u6.drew := (Below.refl _ _).drew
    have B_7 := Lib.hid (B_6.out.trans (hb.mono B_6.out.size))
    have K_7 := Lib.hid (K_6.out.kept hb)
    have G_7 := Lib.hid (G_6.out.kept hb)
    have KX_7 := Lib.hid (KX_6.out.kept hb)
    clear B_6 K_6 G_6 KX_6 hb
    refine wp_region_held_drew (S := fun W => CW21 W w.heap.size (.int .i64 x0.st.rl.dl) (.int .i64 x0.st.rl.fr) (.int .i64 x0.st.rl.wi) (.slice A0.a0 x0.st.gs.length A0.c0) (.slice A0.a1 x0.st.bh.up.ps.length A0.c1) (.int .i64 x0.st.bh.up.sel) (.int .i64 x0.st.bh.up.win) (.slice A0.a2 x0.st.bh.dn.ps.length A0.c2) (.int .i64 x0.st.bh.dn.sel) (.int .i64 x0.st.bh.dn.win) (.int .i64 x0.st.bh.mn) (.int .i64 x0.st.bh.mx) (.int .i64 x0.now) (.int .i64 x0.cnt) (.int .i64 x0.rev) (.slice A0.a3 x0.ps.length A0.c3) (.slice A0.a4 x0.ss.length A0.c4) (.slice A0.a5 x0.ns.length A0.c5) (.slice A0.a6 x0.ms.length A0.c6) (.int .i64 x0.cnd) (.int .i64 x0.flt) ∧ CW21 W u4.heap.size (.int .i64 x0.st.rl.dl) (.int .i64 x0.st.rl.fr) (.int .i64 x0.st.rl.wi) (.slice A2.a0 x0.st.gs.length A2.c0) (.slice A2.a1 x0.st.bh.up.ps.length A2.c1) (.int .i64 x0.st.bh.up.sel) (.int .i64 x0.st.bh.up.win) (.slice A2.a2 x0.st.bh.dn.ps.length A2.c2) (.int .i64 x0.st.bh.dn.sel) (.int .i64 x0.st.bh.dn.win) (.int .i64 x0.st.bh.mn) (.int .i64 x0.st.bh.mx) (.int .i64 x0.now) (.int .i64 x0.cnt) (.int .i64 x0.rev) (.slice A2.a3 x0.ps.length A2.c3) (.slice A2.a4 x0.ss.length A2.c4) (.slice A2.a5 x0.ns.length A2.c5) (.slice A2.a6 x0.ms.length A2.c6) (.int .i64 x0.cnd) (.int .i64 x0.flt)) (by kernel_rfl) ⟨K_7.out, KX_7.out⟩ (fun hHeld => ?_)
    refine' wpAnyH_take (i := 0) (oi := _) (v := _) rfl (by kernel_rfl) (by kernel_rfl) (by kernel_rfl) (fun _ _ _ h => h) (yieldsIf_load_mid (by rfl) _ _ rfl _ _ rfl [.int .i64 x0.st.rl.dl, .int .i64 x0.st.rl.fr, .int .i64 x0.st.rl.wi, .slice A2.a0 x0.st.gs.length A2.c0, .slice A2.a1 x0.st.bh.up.ps.length A2.c1, .int .i64 x0.st.bh.up.sel, .int .i64 x0.st.bh.up.win, .slice A2.a2 x0.st.bh.dn.ps.length A2.c2, .int .i64 x0.st.bh.dn.sel, .int .i64 x0.st.bh.dn.win, .int .i64 x0.st.bh.mn, .int .i64 x0.st.bh.mx, .int .i64 x0.now, .int .i64 x0.cnt, .int .i64 x0.rev, .slice A2.a3 x0.ps.length A2.c3, .slice A2.a4 x0.ss.length A2.c4, .slice A2.a5 x0.ns.length A2.c5, .slice A2.a6 x0.ms.length A2.c6, .int .i64 x0.cnd, .int .i64 x0.flt] _ (fun W h => range_all h.2) Tryz.underlying54 rfl info_hd) hHeld ?_
    refine' wpAnyH_take (i := 1) (oi := _) (v := _) rfl (by kernel_rfl) (by kernel_rfl) (by kernel_rfl) (fun _ _ _ h => h) (yieldsIf_load_mid (by rfl) _ _ rfl _ _ rfl [.int .i64 x0.st.rl.dl, .int .i64 x0.st.rl.fr, .int .i64 x0.st.rl.wi, .slice A0.a0 x0.st.gs.length A0.c0, .slice A0.a1 x0.st.bh.up.ps.length A0.c1, .int .i64 x0.st.bh.up.sel, .int .i64 x0.st.bh.up.win, .slice A0.a2 x0.st.bh.dn.ps.length A0.c2, .int .i64 x0.st.bh.dn.sel, .int .i64 x0.st.bh.dn.win, .int .i64 x0.st.bh.mn, .int .i64 x0.st.bh.mx, .int .i64 x0.now, .int .i64 x0.cnt, .int .i64 x0.rev, .slice A0.a3 x0.ps.length A0.c3, .slice A0.a4 x0.ss.length A0.c4, .slice A0.a5 x0.ns.length A0.c5, .slice A0.a6 x0.ms.length A0.c6, .int .i64 x0.cnd, .int .i64 x0.flt] _ (fun W h => range_all h.1) Tryz.underlying37 rfl info_lh) hHeld ?_
    refine wpAnyH_ready (rs := [2]) (by kernel_rfl) (by simp) ?_
    refine AllReadyH.cons (o := _) rfl (fun K hK => ?_) AllReadyH.nil
    go_simp
    go_at_call 8
    refine (to_herd x0 HSM.out A0 _ (HAT.out.kept B_7.out)).mono ?_
    rintro e u8 ⟨A3, T1, T2, T3, T4, T5, rfl, hat, -, -, hb⟩
    have B_8 := Lib.hid (B_7.out.trans (hb.mono B_7.out.size))
    have K_8 := Lib.hid (K_7.out.kept hb)
    have G_8 := Lib.hid (G_7.out.kept hb)
    have KX_8 := Lib.hid (KX_7.out.kept hb)
    unfold hdV
    have GZ := Lib.hid hat
    clear hat T1 T2 T3 T4 T5
    clear B_7 K_7 G_7 KX_7 hb
    refine hK.out _ _ ⟨K_8.out, KX_8.out⟩ (fun hHeld => ?_)
    clear hK K
    refine wpAnyH_ready (rs := [3]) (by kernel_rfl) (by simp) ?_
    refine AllReadyH.cons (o := _) rfl (fun K hK => ?_) AllReadyH.nil
    go_simp
    go_at_call 10
    refine (eq_herd x0 HSM.out A2 A3 _ G_8.out GZ.out).mono ?_
    rintro e u9 ⟨rfl, hb⟩
    have B_9 := Lib.hid (B_8.out.trans (hb.mono B_8.out.size))
    have K_9 := Lib.hid (K_8.out.kept hb)
    have G_9 := Lib.hid (G_8.out.kept hb)
    have KX_9 := Lib.hid (KX_8.out.kept hb)
    skip
    clear B_8 K_8 G_8 KX_8 hb
    refine hK.out _ _ ⟨K_9.out, KX_9.out⟩ (fun hHeld => ?_)
    clear hK K
    refine wpAnyH_ready (rs := [4]) (by kernel_rfl) (by simp) ?_
    refine AllReadyH.cons (o := _) rfl (fun K hK => ?_) AllReadyH.nil
    go_simp
    refine hK.out _ _ ⟨K_9.out, KX_9.out⟩ (fun hHeld => ?_)
    clear hK K
    refine wpAnyH_done (by kernel_rfl) ?_ _
    go_wp2
    go_ret
    exact ⟨rfl, B_9.out⟩

set_option maxRecDepth 100000 in
theorem lifted (os : Os) (started : os.Started) (H : Type) (enc : TypeId × Value → H) :
    ReturnsInHanded {} Tryz.checked os 5 .any (Rows.fnExactLawNowSpec.pre6 enc Tryz.prog Tryz.f5 Rows.fnExactLawNowRow.domain false) (Rows.fnExactLawNowSpec.post enc Tryz.prog Tryz.f5 false true false false) := by
  refine returnsInHanded_of_change (C := Tryz.checked) own started (by kernel_rfl) Tryz.func5
    (ChangeSpec.witness6 (enc := enc) (C := Tryz.checked) false ⟨#[], #[.agg #[.int .i64 0, .int .i64 0, .int .i64 0, .slice none 0 0, .slice none 0 0, .int .i64 0, .int .i64 0, .slice none 0 0, .int .i64 0, .int .i64 0, .int .i64 0, .int .i64 0, .int .i64 0, .int .i64 0, .int .i64 0, .slice none 0 0, .slice none 0 0, .slice none 0 0, .slice none 0 0, .int .i64 0, .int .i64 0]], []⟩ 8 (by kernel_rfl) (by kernel_rfl) (by kernel_rfl) (by kernel_rfl)) ?_
  intro W base args ds gs before hval0 hW hcnd _
  have hval : ∀ (j : Nat) t v, Tryz.f5.params[j]? = some t → args[j]? = some v → Value.okWide Tryz.prog W .any base t v := hval0
  clear hval0
  have hW' := hW
  obtain ⟨p, q, hA0, hV, rfl, hfz, hnd⟩ := hW
  have hA : DataW.TrodAll enc Tryz.prog W 0 (fun _ => true) true Tryz.f5.params.toList args.toList ds p := hA0
  rw [Tryz.params5] at hA hval
  obtain ⟨v0, vs0, d0, ds0, p0, q0, hargs, rfl, rfl, h0, r0⟩ := trodAll_cons hA
  obtain ⟨rfl, rfl, rfl⟩ := trodAll_nil r0
  obtain rfl : args = #[v0] := by cases args; simp_all
  obtain ⟨rfl, rfl⟩ := trodVars_none hV
  have k0 := h0
  have lt0 : ∀ x ∈ p0, x.block < W.heap.size := by obtain ⟨m, hm⟩ := k0; exact DataW.trod_lt m _ _ _ hm
  obtain ⟨x0, A0, rfl, wf0, wa0⟩ := HdO.open_herd Tryz.underlying37 (by kernel_rfl) ⟨rfl, rfl, rfl, rfl, rfl, rfl, rfl, rfl, rfl, rfl⟩ ⟨rfl, rfl, rfl, rfl, rfl, rfl, rfl, rfl, rfl, rfl⟩ ⟨by kernel_rfl, by kernel_rfl, by kernel_rfl, by kernel_rfl, by kernel_rfl, by kernel_rfl⟩ Tryz.underlying3 Tryz.underlying32 Tryz.underlying33 Tryz.underlying34 Tryz.underlying35
    (fun _ _ _ _ _ _ _ _ _ _ _ _ _ _ h => HdO.open_setup_cells Tryz.underlying31 (by kernel_rfl) ⟨rfl, rfl, rfl⟩ ⟨rfl, rfl, rfl⟩ (by kernel_rfl) (by kernel_rfl) Tryz.underlying23 (by kernel_rfl) (by kernel_rfl) ⟨rfl, rfl, rfl⟩
      Tryz.underlying24 Tryz.underlying161 (by kernel_rfl) (by kernel_rfl) ⟨rfl, rfl, rfl⟩ Tryz.underlying9 Tryz.underlying29 ⟨rfl, rfl, rfl, rfl⟩ ⟨rfl, rfl, rfl, rfl⟩ (by kernel_rfl) Tryz.underlying27 (by kernel_rfl) (by kernel_rfl) ⟨rfl, rfl, rfl⟩ Tryz.underlying25 Tryz.underlying236 (by kernel_rfl) (by kernel_rfl) ⟨rfl, rfl, rfl⟩ Tryz.underlying3 h)
    (fun _ _ _ _ _ h => open_pds Tryz.underlying32 Tryz.underlying104 (by kernel_rfl) (by kernel_rfl) ⟨rfl, rfl, rfl, rfl⟩ Tryz.underlying9 Tryz.underlying3 Tryz.underlying4 h)
    (fun _ _ _ _ _ h => open_srs Tryz.underlying33 Tryz.underlying108 (by kernel_rfl) (by kernel_rfl) ⟨rfl, rfl, rfl⟩ Tryz.underlying9 Tryz.underlying106 Tryz.underlying198 (by kernel_rfl) (by kernel_rfl) ⟨rfl, rfl⟩ Tryz.underlying3 h)
    (fun _ _ _ _ _ h => Pl.open_row2 Tryz.underlying34 Tryz.underlying130 (by kernel_rfl) (by kernel_rfl) ⟨rfl, rfl⟩ Tryz.underlying3 h)
    (fun _ _ _ _ _ h => Pl.open_row2 Tryz.underlying35 Tryz.underlying132 (by kernel_rfl) (by kernel_rfl) ⟨rfl, rfl⟩ Tryz.underlying3 h) (hval 0 37 v0 rfl rfl) h0
  have w0 := And.intro wf0 wa0
  clear hA0
  refine (walk x0 A0 W w0).mono fun e W' ⟨he, bel⟩ => ?_
  subst he
  exact ⟨_, rfl, _, _, _, [], _, [], hW', trodAll_mk1 (shut_bool Tryz.underlying4 _), (trodAll_cons_mk (Below.trod laidOut (by kernel_rfl) (of_decide_eq_true (by kernel_rfl)) k0 bel lt0) trodAll_mk0), rfl, bel.frame _, fun h => by cases h⟩

theorem over : Rows.fnExactLawNowRow.holds Tryz.pinned (OpenSpec.ofChange Rows.fnExactLawNowSpec) :=
  OpenClaim.holds_of_wide 5 Tryz.f5 rfl rfl rfl rfl rfl rfl rfl ⟨rfl, rfl, rfl, rfl, rfl⟩ rfl rfl rfl rfl rfl (by kernel_rfl) Tryz.func5 (by kernel_rfl)
    (of_decide_eq_true (by kernel_rfl)) (by unfold Func.isWrapper; first | (rw [if_pos (by decide +kernel)]; kernel_rfl) | (rw [if_neg (by decide +kernel)]; exact ⟨rfl, rfl⟩))
    (fun os started H enc _ => lifted os started H enc)

/-- THE STATEMENT. -/
theorem proved : Rows.FnExactLawNowSaid := over
end Go.Proofs.YtgmdfkmmbcpikaaGreat.fnExactLawNow
