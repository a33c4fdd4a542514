/- For every input that can be read, the Go function laws.FnExactHerdText returns true and leaves its arguments as they read: the tied card Rows.FnExactHerdTextCardSaid; the row lists 4 variables of Go's own library with what they hold, and the card ties that to the text of the pruned copy of the program. -/
import Derived.Test.YtgmdfkmmbcpikaaGreatDoorCards
import Derived.Test.YtgmdfkmmbcpikaaGreatDoorTie
import Derived.WalkKit
import Derived.ProofKit
import Derived.OpenShut
import Derived.ShutString
import Derived.ChangeOld
import Derived.Below
import Derived.Lib.SmallJoins
import Derived.Deep.DeepHandedRow
import Derived.Lib.LaidTab
import Derived.Stop.LaidErr
import Derived.OpenVars
import Derived.LaidMore
import Derived.Test.YtgmdfkmmbcpikaaGreatDoorC1
import Derived.Test.YtgmdfkmmbcpikaaGreatDoorC2
import Derived.Test.YtgmdfkmmbcpikaaGreatDoorSmps
import Derived.Test.YtgmdfkmmbcpikaaGreatDoorMem
import Derived.Test.YtgmdfkmmbcpikaaGreatDoorSer
import Derived.Test.YtgmdfkmmbcpikaaGreatDoorSer2
import Derived.Test.YtgmdfkmmbcpikaaGreatDoorPd
import Derived.Test.YtgmdfkmmbcpikaaGreatDoorPds
import Derived.Test.YtgmdfkmmbcpikaaGreatDoorGl
import Derived.Test.YtgmdfkmmbcpikaaGreatDoorGls
import Derived.Test.YtgmdfkmmbcpikaaGreatDoorPl
import Derived.Test.YtgmdfkmmbcpikaaGreatDoorSet
import Derived.Test.YtgmdfkmmbcpikaaGreatDoorHdA
import Derived.Test.YtgmdfkmmbcpikaaGreatDoorRH
import Derived.Test.YtgmdfkmmbcpikaaGreatDoorTnA
import Derived.Test.YtgmdfkmmbcpikaaGreatDoorHokA
import Derived.Test.YtgmdfkmmbcpikaaGreatDoorTxA
namespace Go.Proofs.YtgmdfkmmbcpikaaGreatDoor.fnExactHerdText
open Go.ChangeShapes Go.WideShapes Go.ChangeAt Go.RowKit Go.Joins
open Go.ChangeMaps (open_string shut_string)
open Go.Proofs.YtgmdfkmmbcpikaaGreatDoor.C1
open Go.Proofs.YtgmdfkmmbcpikaaGreatDoor.C2
open Go.Proofs.YtgmdfkmmbcpikaaGreatDoor.Smps
open Go.Proofs.YtgmdfkmmbcpikaaGreatDoor.Mem
open Go.Proofs.YtgmdfkmmbcpikaaGreatDoor.Ser
open Go.Proofs.YtgmdfkmmbcpikaaGreatDoor.Ser2
open Go.Proofs.YtgmdfkmmbcpikaaGreatDoor.Pd
open Go.Proofs.YtgmdfkmmbcpikaaGreatDoor.Pds
open Go.Proofs.YtgmdfkmmbcpikaaGreatDoor.Gl
open Go.Proofs.YtgmdfkmmbcpikaaGreatDoor.Gls
open Go.Proofs.YtgmdfkmmbcpikaaGreatDoor.Pl
open Go.Proofs.YtgmdfkmmbcpikaaGreatDoor.Set
open Go.Proofs.YtgmdfkmmbcpikaaGreatDoor.Hd
open Go.Proofs.YtgmdfkmmbcpikaaGreatDoor.HdO
open Go.Proofs.YtgmdfkmmbcpikaaGreatDoor.RH
open Go.Proofs.YtgmdfkmmbcpikaaGreatDoor.Milli
open Go.Proofs.YtgmdfkmmbcpikaaGreatDoor.Mt
open Go.Proofs.YtgmdfkmmbcpikaaGreatDoor.Line
open Go.Proofs.YtgmdfkmmbcpikaaGreatDoor.Hok
open Go.Proofs.YtgmdfkmmbcpikaaGreatDoor.Htx
open Go.Proofs.YtgmdfkmmbcpikaaGreatDoor.Cnd
set_option linter.unusedVariables false

theorem own : ownKnob Tryz.prog.godebug = none := by kernel_rfl
theorem laidOut : laidOutB Tryz.prog = true := by kernel_rfl
theorem powType : (Tryz.prog.globals[4]?).map (·.type) = some 307 := by kernel_rfl
theorem cellsA : Tryz.prog.cellsOf 307 = 20 := by kernel_rfl
theorem cellsU : Tryz.prog.cellsOf 205 = 1 := by kernel_rfl
theorem powData : (Rows.laid_internal_strconv_uint64pow10 : DataW Unit) = Lib.tabData .u64 Lib.pow10Tab := by kernel_rfl
theorem met_of {W : World} (h : laidMetH Tryz.prog Rows.fnExactHerdTextRow.laid W) : laidMet Tryz.prog Rows.fnExactHerdTextRow.laid W := h
theorem tab_of {W : World} (h : laidMet Tryz.prog Rows.fnExactHerdTextRow.laid W) : Lib.TabIs Tryz.prog W "internal/strconv.uint64pow10" .u64 Lib.pow10Tab := by
  have h1 : laidMet Tryz.prog (("internal/strconv.uint64pow10", Lib.tabData .u64 Lib.pow10Tab) :: [("loop.example/g00808/impl.condNames", Rows.laid_loop_example_g00808_impl_condNames)]) W := by
    rw [← powData]
    exact h.tail.tail
  exact Lib.tabIs_of_head gPow powType Tryz.underlying307 Tryz.underlying205 cellsU cellsA h1
theorem listN {α : Type} {l : List α} (h : l.length = 6) : ∃ a0 a1 a2 a3 a4 a5, l = [a0, a1, a2, a3, a4, a5] := by
  match l, h with
  | [a0, a1, a2, a3, a4, a5], _ => exact ⟨a0, a1, a2, a3, a4, a5, rfl⟩
theorem condsC : Tryz.prog.cellsOf 9 = 1 := by kernel_rfl
theorem condsA : Tryz.prog.cellsOf 161 = 6 := by kernel_rfl
set_option maxRecDepth 100000 in
theorem conds_of {W : World} (h : laidMet Tryz.prog Rows.fnExactHerdTextRow.laid W) : Cnd.Conds W := by
  have h1 : laidMet Tryz.prog (("loop.example/g00808/impl.condNames", Rows.laid_loop_example_g00808_impl_condNames) :: []) W := h.tail.tail.tail
  obtain ⟨ps, ⟨g, t, cs, fuel, p, q, hg, ht, hv, hd, _, _⟩, _, _⟩ := h1
  obtain rfl := Option.some.inj ((show Tryz.prog.globalNamed "loop.example/g00808/impl.condNames" = some 0 by kernel_rfl).symm.trans hg)
  obtain rfl := Option.some.inj ((show (Tryz.prog.globals[0]?).map (·.type) = some 161 by kernel_rfl).symm.trans ht)
  obtain ⟨xs, m, _, ex, hlen, hl, hel⟩ := DataW.trod_array Tryz.underlying161 hd
  rw [condsA] at hlen
  obtain ⟨l⟩ := cs
  have hcs : W.var? Tryz.prog "loop.example/g00808/impl.condNames" = some #[.string (Milli.mk (Cnd.condL 0)), .string (Milli.mk (Cnd.condL 1)), .string (Milli.mk (Cnd.condL 2)), .string (Milli.mk (Cnd.condL 3)), .string (Milli.mk (Cnd.condL 4)), .string (Milli.mk (Cnd.condL 5))] := by
        obtain ⟨a0, a1, a2, a3, a4, a5, rfl⟩ := listN (show l.length = 6 from hlen)
        obtain ⟨x0, x1, x2, x3, x4, x5, rfl⟩ := listN hl
        have e3 := (DataW.agg.inj (Prod.mk.inj ex).1)
        simp only [List.map_cons, List.map_nil, List.cons.injEq, and_true] at e3
        have k0 := hel 0 (by omega); have k1 := hel 1 (by omega); have k2 := hel 2 (by omega); have k3 := hel 3 (by omega); have k4 := hel 4 (by omega); have k5 := hel 5 (by omega)
        rw [condsC] at k0 k1 k2 k3 k4 k5
        obtain ⟨z0, q0, b0, _⟩ := DataW.trod_string Tryz.underlying9 k0
        obtain ⟨z1, q1, b1, _⟩ := DataW.trod_string Tryz.underlying9 k1
        obtain ⟨z2, q2, b2, _⟩ := DataW.trod_string Tryz.underlying9 k2
        obtain ⟨z3, q3, b3, _⟩ := DataW.trod_string Tryz.underlying9 k3
        obtain ⟨z4, q4, b4, _⟩ := DataW.trod_string Tryz.underlying9 k4
        obtain ⟨z5, q5, b5, _⟩ := DataW.trod_string Tryz.underlying9 k5
        rw [hv]
        obtain ⟨e0_, e1_, e2_, e3_, e4_, e5_⟩ := e3
        rw [b0] at e0_
        rw [b1] at e1_
        rw [b2] at e2_
        rw [b3] at e3_
        rw [b4] at e4_
        rw [b5] at e5_
        have f0 : z0 = Milli.mk (Cnd.condL 0) := by rw [← Milli.mk_of z0, ← Lit.string.inj (DataW.lit.inj e0_)]; rfl
        have f1 : z1 = Milli.mk (Cnd.condL 1) := by rw [← Milli.mk_of z1, ← Lit.string.inj (DataW.lit.inj e1_)]; rfl
        have f2 : z2 = Milli.mk (Cnd.condL 2) := by rw [← Milli.mk_of z2, ← Lit.string.inj (DataW.lit.inj e2_)]; rfl
        have f3 : z3 = Milli.mk (Cnd.condL 3) := by rw [← Milli.mk_of z3, ← Lit.string.inj (DataW.lit.inj e3_)]; rfl
        have f4 : z4 = Milli.mk (Cnd.condL 4) := by rw [← Milli.mk_of z4, ← Lit.string.inj (DataW.lit.inj e4_)]; rfl
        have f5 : z5 = Milli.mk (Cnd.condL 5) := by rw [← Milli.mk_of z5, ← Lit.string.inj (DataW.lit.inj e5_)]; rfl
        have g0 : a0 = .string z0 := (List.cons.inj (show [a0] = [Value.string z0] from q0)).1
        have g1 : a1 = .string z1 := (List.cons.inj (show [a1] = [Value.string z1] from q1)).1
        have g2 : a2 = .string z2 := (List.cons.inj (show [a2] = [Value.string z2] from q2)).1
        have g3 : a3 = .string z3 := (List.cons.inj (show [a3] = [Value.string z3] from q3)).1
        have g4 : a4 = .string z4 := (List.cons.inj (show [a4] = [Value.string z4] from q4)).1
        have g5 : a5 = .string z5 := (List.cons.inj (show [a5] = [Value.string z5] from q5)).1
        rw [g0, g1, g2, g3, g4, g5, f0, f1, f2, f3, f4, f5]
  have hlt : 0 < W.heap.size := by
    have hc := World.var?_cell (show Tryz.prog.globalNamed "loop.example/g00808/impl.condNames" = some 0 by kernel_rfl) hcs 0
    by_cases hn : 0 < W.heap.size
    · exact hn
    · have hx : W.heap[0]? = none := Array.getElem?_eq_none (by omega)
      simp [World.cell?, hx] at hc
  refine ⟨hlt, fun k hk => ?_⟩
  rw [World.var?_cell (show Tryz.prog.globalNamed "loop.example/g00808/impl.condNames" = some 0 by kernel_rfl) hcs k]
  have : k = 0 ∨ k = 1 ∨ k = 2 ∨ k = 3 ∨ k = 4 ∨ k = 5 := by omega
  rcases this with rfl | rfl | rfl | rfl | rfl | rfl <;> rfl
set_option maxHeartbeats 4000000 in
set_option maxRecDepth 100000 in
theorem walk (x0 : Hd.Hd) (A0 : Hd.Ad) (w : World) (w0 : x0.wf ∧ Hd.HdAt w x0 A0) (hE : Env w) (hCd : Cnd.Conds w) :
    Calls Tryz.prog 3 #[Hd.hdV x0 A0] w fun e w' => e = .returned (.bool true) ∧ Below w.heap.size w w' := by
  obtain ⟨wf0, at0⟩ := w0
  have HAT := Lib.hid at0
  have HW0 := Lib.hid wf0
  clear wf0 at0
  have info_lh : (Tryz.prog.info? 37).map (·.size) = some 21 := by kernel_rfl
  have K_0 : Hid (CW21 (w.alloc (.cells #[.int .i64 x0.st.rl.dl, .int .i64 x0.st.rl.fr, .int .i64 x0.st.rl.wi, .slice A0.a0 x0.st.gs.length A0.c0, .slice A0.a1 x0.st.bh.up.ps.length A0.c1, .int .i64 x0.st.bh.up.sel, .int .i64 x0.st.bh.up.win, .slice A0.a2 x0.st.bh.dn.ps.length A0.c2, .int .i64 x0.st.bh.dn.sel, .int .i64 x0.st.bh.dn.win, .int .i64 x0.st.bh.mn, .int .i64 x0.st.bh.mx, .int .i64 x0.now, .int .i64 x0.cnt, .int .i64 x0.rev, .slice A0.a3 x0.ps.length A0.c3, .slice A0.a4 x0.ss.length A0.c4, .slice A0.a5 x0.ns.length A0.c5, .slice A0.a6 x0.ms.length A0.c6, .int .i64 x0.cnd, .int .i64 x0.flt] 37)) w.heap.size (.int .i64 x0.st.rl.dl) (.int .i64 x0.st.rl.fr) (.int .i64 x0.st.rl.wi) (.slice A0.a0 x0.st.gs.length A0.c0) (.slice A0.a1 x0.st.bh.up.ps.length A0.c1) (.int .i64 x0.st.bh.up.sel) (.int .i64 x0.st.bh.up.win) (.slice A0.a2 x0.st.bh.dn.ps.length A0.c2) (.int .i64 x0.st.bh.dn.sel) (.int .i64 x0.st.bh.dn.win) (.int .i64 x0.st.bh.mn) (.int .i64 x0.st.bh.mx) (.int .i64 x0.now) (.int .i64 x0.cnt) (.int .i64 x0.rev) (.slice A0.a3 x0.ps.length A0.c3) (.slice A0.a4 x0.ss.length A0.c4) (.slice A0.a5 x0.ns.length A0.c5) (.slice A0.a6 x0.ms.length A0.c6) (.int .i64 x0.cnd) (.int .i64 x0.flt)) := Ser2.cells_new w #[.int .i64 x0.st.rl.dl, .int .i64 x0.st.rl.fr, .int .i64 x0.st.rl.wi, .slice A0.a0 x0.st.gs.length A0.c0, .slice A0.a1 x0.st.bh.up.ps.length A0.c1, .int .i64 x0.st.bh.up.sel, .int .i64 x0.st.bh.up.win, .slice A0.a2 x0.st.bh.dn.ps.length A0.c2, .int .i64 x0.st.bh.dn.sel, .int .i64 x0.st.bh.dn.win, .int .i64 x0.st.bh.mn, .int .i64 x0.st.bh.mx, .int .i64 x0.now, .int .i64 x0.cnt, .int .i64 x0.rev, .slice A0.a3 x0.ps.length A0.c3, .slice A0.a4 x0.ss.length A0.c4, .slice A0.a5 x0.ns.length A0.c5, .slice A0.a6 x0.ms.length A0.c6, .int .i64 x0.cnd, .int .i64 x0.flt] 37
  unfold Hd.hdV
  go_enter Tryz.func3, Tryz.ntmps3
  go_wp2_with (first | (refine wpList_load_mid rfl 37 _ rfl w.heap.size 0 rfl [.int .i64 x0.st.rl.dl, .int .i64 x0.st.rl.fr, .int .i64 x0.st.rl.wi, .slice A0.a0 x0.st.gs.length A0.c0, .slice A0.a1 x0.st.bh.up.ps.length A0.c1, .int .i64 x0.st.bh.up.sel, .int .i64 x0.st.bh.up.win, .slice A0.a2 x0.st.bh.dn.ps.length A0.c2, .int .i64 x0.st.bh.dn.sel, .int .i64 x0.st.bh.dn.win, .int .i64 x0.st.bh.mn, .int .i64 x0.st.bh.mx, .int .i64 x0.now, .int .i64 x0.cnt, .int .i64 x0.rev, .slice A0.a3 x0.ps.length A0.c3, .slice A0.a4 x0.ss.length A0.c4, .slice A0.a5 x0.ns.length A0.c5, .slice A0.a6 x0.ms.length A0.c6, .int .i64 x0.cnd, .int .i64 x0.flt] _ (range_all K_0.out) Tryz.underlying37 rfl info_lh ?_))
  refine (sz_herd x0 HW0.out A0 _ (HAT.out.kept (box_below _ _ _))).mono ?_
  rintro e u1 ⟨r, rfl, hb, hr⟩
  obtain ⟨k0, hB, hz⟩ := one_read hb
  have K_1 : Hid (CW21 u1 w.heap.size (.int .i64 x0.st.rl.dl) (.int .i64 x0.st.rl.fr) (.int .i64 x0.st.rl.wi) (.slice A0.a0 x0.st.gs.length A0.c0) (.slice A0.a1 x0.st.bh.up.ps.length A0.c1) (.int .i64 x0.st.bh.up.sel) (.int .i64 x0.st.bh.up.win) (.slice A0.a2 x0.st.bh.dn.ps.length A0.c2) (.int .i64 x0.st.bh.dn.sel) (.int .i64 x0.st.bh.dn.win) (.int .i64 x0.st.bh.mn) (.int .i64 x0.st.bh.mx) (.int .i64 x0.now) (.int .i64 x0.cnt) (.int .i64 x0.rev) (.slice A0.a3 x0.ps.length A0.c3) (.slice A0.a4 x0.ss.length A0.c4) (.slice A0.a5 x0.ns.length A0.c5) (.slice A0.a6 x0.ms.length A0.c6) (.int .i64 x0.cnd) (.int .i64 x0.flt)) := k0
  have B_1 := Lib.hid hB
  clear k0 hB hz hb K_0
  rcases hr with hr | ⟨hr0, hsm⟩
  · go_wp2
    go_ret
    exact ⟨rfl, B_1.out⟩
  · have HSM := Lib.hid hsm
    clear hsm
    have HE := Lib.hid hE
    have HCD := Lib.hid hCd
    clear hE hCd
    have hsp := fun A w k (hc : x0.st.gs.length ≤ A.c0) => Htx.spec_htext x0 HW0.out HSM.out A w k
    have him := fun A w k (hc : x0.st.gs.length ≤ A.c0) he hcd => Htx.impl_htext x0 HW0.out HSM.out A w k hc he hcd
    obtain ⟨v, hv⟩ : ∃ v, Milli.mk (Htx.textV x0) = v := ⟨_, rfl⟩
    simp only [hv] at hsp him
    clear hv
    have HSP := Lib.hid hsp
    have HIM := Lib.hid him
    clear hsp him
    unfold hdV at HSP HIM
    go_wp2_with (first | (refine wpList_load_mid rfl 37 _ rfl w.heap.size 0 rfl [.int .i64 x0.st.rl.dl, .int .i64 x0.st.rl.fr, .int .i64 x0.st.rl.wi, .slice A0.a0 x0.st.gs.length A0.c0, .slice A0.a1 x0.st.bh.up.ps.length A0.c1, .int .i64 x0.st.bh.up.sel, .int .i64 x0.st.bh.up.win, .slice A0.a2 x0.st.bh.dn.ps.length A0.c2, .int .i64 x0.st.bh.dn.sel, .int .i64 x0.st.bh.dn.win, .int .i64 x0.st.bh.mn, .int .i64 x0.st.bh.mx, .int .i64 x0.now, .int .i64 x0.cnt, .int .i64 x0.rev, .slice A0.a3 x0.ps.length A0.c3, .slice A0.a4 x0.ss.length A0.c4, .slice A0.a5 x0.ns.length A0.c5, .slice A0.a6 x0.ms.length A0.c6, .int .i64 x0.cnd, .int .i64 x0.flt] _ (range_all K_1.out) Tryz.underlying37 rfl info_lh ?_))
    refine (to_herd x0 HSM.out A0 _ (HAT.out.kept B_1.out)).mono ?_
    rintro e u2 ⟨A1, T1, T2, T3, T4, T5, rfl, hat, -, ⟨hcp, -⟩, hb⟩
    have B_2 := Lib.hid (B_1.out.trans (hb.mono B_1.out.size))
    have K_2 := Lib.hid (K_1.out.kept hb)
    clear B_1 K_1 hb
    unfold hdV
    have G_2 := Lib.hid hat
    have HCA1 := Lib.hid (show x0.st.gs.length ≤ A1.c0 by omega)
    clear hat hcp
    clear T1 T2 T3 T4 T5
    go_wp2_with (first | (refine wpList_load_mid rfl 37 _ rfl w.heap.size 0 rfl [.int .i64 x0.st.rl.dl, .int .i64 x0.st.rl.fr, .int .i64 x0.st.rl.wi, .slice A0.a0 x0.st.gs.length A0.c0, .slice A0.a1 x0.st.bh.up.ps.length A0.c1, .int .i64 x0.st.bh.up.sel, .int .i64 x0.st.bh.up.win, .slice A0.a2 x0.st.bh.dn.ps.length A0.c2, .int .i64 x0.st.bh.dn.sel, .int .i64 x0.st.bh.dn.win, .int .i64 x0.st.bh.mn, .int .i64 x0.st.bh.mx, .int .i64 x0.now, .int .i64 x0.cnt, .int .i64 x0.rev, .slice A0.a3 x0.ps.length A0.c3, .slice A0.a4 x0.ss.length A0.c4, .slice A0.a5 x0.ns.length A0.c5, .slice A0.a6 x0.ms.length A0.c6, .int .i64 x0.cnd, .int .i64 x0.flt] _ (range_all K_2.out) Tryz.underlying37 rfl info_lh ?_))
    refine (HSP.out A1 _ G_2.out HCA1.out).mono ?_
    rintro e u3 ⟨rfl, hb⟩
    have B_3 := Lib.hid (B_2.out.trans (hb.mono B_2.out.size))
    have K_3 := Lib.hid (K_2.out.kept hb)
    have G_3 := Lib.hid (G_2.out.kept hb)
    clear B_2 K_2 G_2 hb
    clear G_3
    go_wp2_with (first | (refine wpList_load_mid rfl 37 _ rfl w.heap.size 0 rfl [.int .i64 x0.st.rl.dl, .int .i64 x0.st.rl.fr, .int .i64 x0.st.rl.wi, .slice A0.a0 x0.st.gs.length A0.c0, .slice A0.a1 x0.st.bh.up.ps.length A0.c1, .int .i64 x0.st.bh.up.sel, .int .i64 x0.st.bh.up.win, .slice A0.a2 x0.st.bh.dn.ps.length A0.c2, .int .i64 x0.st.bh.dn.sel, .int .i64 x0.st.bh.dn.win, .int .i64 x0.st.bh.mn, .int .i64 x0.st.bh.mx, .int .i64 x0.now, .int .i64 x0.cnt, .int .i64 x0.rev, .slice A0.a3 x0.ps.length A0.c3, .slice A0.a4 x0.ss.length A0.c4, .slice A0.a5 x0.ns.length A0.c5, .slice A0.a6 x0.ms.length A0.c6, .int .i64 x0.cnd, .int .i64 x0.flt] _ (range_all K_3.out) Tryz.underlying37 rfl info_lh ?_))
    refine (to_herd x0 HSM.out A0 _ (HAT.out.kept B_3.out)).mono ?_
    rintro e u4 ⟨A2, T1, T2, T3, T4, T5, rfl, hat, -, ⟨hcp, -⟩, hb⟩
    have B_4 := Lib.hid (B_3.out.trans (hb.mono B_3.out.size))
    have K_4 := Lib.hid (K_3.out.kept hb)
    clear B_3 K_3 hb
    unfold hdV
    have G_4 := Lib.hid hat
    have HCA2 := Lib.hid (show x0.st.gs.length ≤ A2.c0 by omega)
    clear hat hcp
    clear T1 T2 T3 T4 T5
    go_wp2_with (first | (refine wpList_load_mid rfl 37 _ rfl w.heap.size 0 rfl [.int .i64 x0.st.rl.dl, .int .i64 x0.st.rl.fr, .int .i64 x0.st.rl.wi, .slice A0.a0 x0.st.gs.length A0.c0, .slice A0.a1 x0.st.bh.up.ps.length A0.c1, .int .i64 x0.st.bh.up.sel, .int .i64 x0.st.bh.up.win, .slice A0.a2 x0.st.bh.dn.ps.length A0.c2, .int .i64 x0.st.bh.dn.sel, .int .i64 x0.st.bh.dn.win, .int .i64 x0.st.bh.mn, .int .i64 x0.st.bh.mx, .int .i64 x0.now, .int .i64 x0.cnt, .int .i64 x0.rev, .slice A0.a3 x0.ps.length A0.c3, .slice A0.a4 x0.ss.length A0.c4, .slice A0.a5 x0.ns.length A0.c5, .slice A0.a6 x0.ms.length A0.c6, .int .i64 x0.cnd, .int .i64 x0.flt] _ (range_all K_5.out) Tryz.underlying37 rfl info_lh ?_) | (refine wpList_load_mid rfl 54 _ rfl u4.heap.size 0 rfl [.int .i64 x0.st.rl.dl, .int .i64 x0.st.rl.fr, .int .i64 x0.st.rl.wi, .slice A2.a0 x0.st.gs.length A2.c0, .slice A2.a1 x0.st.bh.up.ps.length A2.c1, .int .i64 x0.st.bh.up.sel, .int .i64 x0.st.bh.up.win, .slice A2.a2 x0.st.bh.dn.ps.length A2.c2, .int .i64 x0.st.bh.dn.sel, .int .i64 x0.st.bh.dn.win, .int .i64 x0.st.bh.mn, .int .i64 x0.st.bh.mx, .int .i64 x0.now, .int .i64 x0.cnt, .int .i64 x0.rev, .slice A2.a3 x0.ps.length A2.c3, .slice A2.a4 x0.ss.length A2.c4, .slice A2.a5 x0.ns.length A2.c5, .slice A2.a6 x0.ms.length A2.c6, .int .i64 x0.cnd, .int .i64 x0.flt] _ (range_all KX_5.out) Tryz.underlying54 rfl info_hd ?_) | (refine store_head rfl 54 _ _ rfl u4.heap.size #[.int .i64 x0.st.rl.dl, .int .i64 x0.st.rl.fr, .int .i64 x0.st.rl.wi, .slice A2.a0 x0.st.gs.length A2.c0, .slice A2.a1 x0.st.bh.up.ps.length A2.c1, .int .i64 x0.st.bh.up.sel, .int .i64 x0.st.bh.up.win, .slice A2.a2 x0.st.bh.dn.ps.length A2.c2, .int .i64 x0.st.bh.dn.sel, .int .i64 x0.st.bh.dn.win, .int .i64 x0.st.bh.mn, .int .i64 x0.st.bh.mx, .int .i64 x0.now, .int .i64 x0.cnt, .int .i64 x0.rev, .slice A2.a3 x0.ps.length A2.c3, .slice A2.a4 x0.ss.length A2.c4, .slice A2.a5 x0.ns.length A2.c5, .slice A2.a6 x0.ms.length A2.c6, .int .i64 x0.cnd, .int .i64 x0.flt] rfl rfl [.int .i64 0, .int .i64 0, .int .i64 0, .slice none 0 0, .slice none 0 0, .int .i64 0, .int .i64 0, .slice none 0 0, .int .i64 0, .int .i64 0, .int .i64 0, .int .i64 0, .int .i64 0, .int .i64 0, .int .i64 0, .slice none 0 0, .slice none 0 0, .slice none 0 0, .slice none 0 0, .int .i64 0, .int .i64 0] [] (Ser2.cells_new _ _ _) rfl info_hd (by simp [Value.oneCell']) ?_; intro u5 hc ho; have hb : Below u4.heap.size u4 u5 := (box_below u4 _ _).trans (Only.below ho (Nat.le_refl _) (by simp)); have B_5 := Lib.hid (B_4.out.trans (hb.mono B_4.out.size)); have K_5 := Lib.hid (K_4.out.kept hb); have G_5 := Lib.hid (G_4.out.kept hb); have KX_5 : Hid (CW21 u5 u4.heap.size (.int .i64 x0.st.rl.dl) (.int .i64 x0.st.rl.fr) (.int .i64 x0.st.rl.wi) (.slice A2.a0 x0.st.gs.length A2.c0) (.slice A2.a1 x0.st.bh.up.ps.length A2.c1) (.int .i64 x0.st.bh.up.sel) (.int .i64 x0.st.bh.up.win) (.slice A2.a2 x0.st.bh.dn.ps.length A2.c2) (.int .i64 x0.st.bh.dn.sel) (.int .i64 x0.st.bh.dn.win) (.int .i64 x0.st.bh.mn) (.int .i64 x0.st.bh.mx) (.int .i64 x0.now) (.int .i64 x0.cnt) (.int .i64 x0.rev) (.slice A2.a3 x0.ps.length A2.c3) (.slice A2.a4 x0.ss.length A2.c4) (.slice A2.a5 x0.ns.length A2.c5) (.slice A2.a6 x0.ms.length A2.c6) (.int .i64 x0.cnd) (.int .i64 x0.flt)) := hc; clear B_4 K_4 G_4 hb hc ho))
    refine (HIM.out A2 _ G_5.out HCA2.out (HE.out.kept B_5.out) (HCD.out.kept B_5.out)).mono ?_
    rintro e u6 ⟨rfl, hb⟩
    have B_6 := Lib.hid (B_5.out.trans (hb.mono B_5.out.size))
    have K_6 := Lib.hid (K_5.out.kept hb)
    have G_6 := Lib.hid (G_5.out.kept hb)
    have KX_6 := Lib.hid (KX_5.out.kept hb)
    clear B_5 K_5 G_5 KX_5 hb
    go_wp2_with fail
    have hb : Below u6.heap.size u6 u6.drew := (Below.refl _ _).drew
    have B_7 := Lib.hid (B_6.out.trans (hb.mono B_6.out.size))
    have K_7 := Lib.hid (K_6.out.kept hb)
    have G_7 := Lib.hid (G_6.out.kept hb)
    have KX_7 := Lib.hid (KX_6.out.kept hb)
    clear B_6 K_6 G_6 KX_6 hb
    refine wp_region_held_drew (S := fun W => CW21 W w.heap.size (.int .i64 x0.st.rl.dl) (.int .i64 x0.st.rl.fr) (.int .i64 x0.st.rl.wi) (.slice A0.a0 x0.st.gs.length A0.c0) (.slice A0.a1 x0.st.bh.up.ps.length A0.c1) (.int .i64 x0.st.bh.up.sel) (.int .i64 x0.st.bh.up.win) (.slice A0.a2 x0.st.bh.dn.ps.length A0.c2) (.int .i64 x0.st.bh.dn.sel) (.int .i64 x0.st.bh.dn.win) (.int .i64 x0.st.bh.mn) (.int .i64 x0.st.bh.mx) (.int .i64 x0.now) (.int .i64 x0.cnt) (.int .i64 x0.rev) (.slice A0.a3 x0.ps.length A0.c3) (.slice A0.a4 x0.ss.length A0.c4) (.slice A0.a5 x0.ns.length A0.c5) (.slice A0.a6 x0.ms.length A0.c6) (.int .i64 x0.cnd) (.int .i64 x0.flt) ∧ CW21 W u4.heap.size (.int .i64 x0.st.rl.dl) (.int .i64 x0.st.rl.fr) (.int .i64 x0.st.rl.wi) (.slice A2.a0 x0.st.gs.length A2.c0) (.slice A2.a1 x0.st.bh.up.ps.length A2.c1) (.int .i64 x0.st.bh.up.sel) (.int .i64 x0.st.bh.up.win) (.slice A2.a2 x0.st.bh.dn.ps.length A2.c2) (.int .i64 x0.st.bh.dn.sel) (.int .i64 x0.st.bh.dn.win) (.int .i64 x0.st.bh.mn) (.int .i64 x0.st.bh.mx) (.int .i64 x0.now) (.int .i64 x0.cnt) (.int .i64 x0.rev) (.slice A2.a3 x0.ps.length A2.c3) (.slice A2.a4 x0.ss.length A2.c4) (.slice A2.a5 x0.ns.length A2.c5) (.slice A2.a6 x0.ms.length A2.c6) (.int .i64 x0.cnd) (.int .i64 x0.flt)) (by kernel_rfl) ⟨K_7.out, KX_7.out⟩ (fun hHeld => ?_)
    refine' wpAnyH_take (i := 0) (oi := _) (v := _) rfl (by kernel_rfl) (by kernel_rfl) (by kernel_rfl) (fun _ _ _ h => h) (yieldsIf_load_mid (by rfl) _ _ rfl _ _ rfl [.int .i64 x0.st.rl.dl, .int .i64 x0.st.rl.fr, .int .i64 x0.st.rl.wi, .slice A2.a0 x0.st.gs.length A2.c0, .slice A2.a1 x0.st.bh.up.ps.length A2.c1, .int .i64 x0.st.bh.up.sel, .int .i64 x0.st.bh.up.win, .slice A2.a2 x0.st.bh.dn.ps.length A2.c2, .int .i64 x0.st.bh.dn.sel, .int .i64 x0.st.bh.dn.win, .int .i64 x0.st.bh.mn, .int .i64 x0.st.bh.mx, .int .i64 x0.now, .int .i64 x0.cnt, .int .i64 x0.rev, .slice A2.a3 x0.ps.length A2.c3, .slice A2.a4 x0.ss.length A2.c4, .slice A2.a5 x0.ns.length A2.c5, .slice A2.a6 x0.ms.length A2.c6, .int .i64 x0.cnd, .int .i64 x0.flt] _ (fun W h => range_all h.2) Tryz.underlying54 rfl info_hd) hHeld ?_
    refine' wpAnyH_take (i := 1) (oi := _) (v := _) rfl (by kernel_rfl) (by kernel_rfl) (by kernel_rfl) (fun _ _ _ h => h) (yieldsIf_load_mid (by rfl) _ _ rfl _ _ rfl [.int .i64 x0.st.rl.dl, .int .i64 x0.st.rl.fr, .int .i64 x0.st.rl.wi, .slice A0.a0 x0.st.gs.length A0.c0, .slice A0.a1 x0.st.bh.up.ps.length A0.c1, .int .i64 x0.st.bh.up.sel, .int .i64 x0.st.bh.up.win, .slice A0.a2 x0.st.bh.dn.ps.length A0.c2, .int .i64 x0.st.bh.dn.sel, .int .i64 x0.st.bh.dn.win, .int .i64 x0.st.bh.mn, .int .i64 x0.st.bh.mx, .int .i64 x0.now, .int .i64 x0.cnt, .int .i64 x0.rev, .slice A0.a3 x0.ps.length A0.c3, .slice A0.a4 x0.ss.length A0.c4, .slice A0.a5 x0.ns.length A0.c5, .slice A0.a6 x0.ms.length A0.c6, .int .i64 x0.cnd, .int .i64 x0.flt] _ (fun W h => range_all h.1) Tryz.underlying37 rfl info_lh) hHeld ?_
    refine wpAnyH_ready (rs := [2]) (by kernel_rfl) (by simp) ?_
    refine AllReadyH.cons (o := _) rfl (fun K hK => ?_) AllReadyH.nil
    go_simp
    go_at_call 9
    refine (to_herd x0 HSM.out A0 _ (HAT.out.kept B_7.out)).mono ?_
    rintro e u8 ⟨A3, T1, T2, T3, T4, T5, rfl, hat, -, -, hb⟩
    have B_8 := Lib.hid (B_7.out.trans (hb.mono B_7.out.size))
    have K_8 := Lib.hid (K_7.out.kept hb)
    have G_8 := Lib.hid (G_7.out.kept hb)
    have KX_8 := Lib.hid (KX_7.out.kept hb)
    unfold hdV
    have GZ := Lib.hid hat
    clear hat T1 T2 T3 T4 T5
    clear B_7 K_7 G_7 KX_7 hb
    refine hK.out _ _ ⟨K_8.out, KX_8.out⟩ (fun hHeld => ?_)
    clear hK K
    refine wpAnyH_ready (rs := [3]) (by kernel_rfl) (by simp) ?_
    refine AllReadyH.cons (o := _) rfl (fun K hK => ?_) AllReadyH.nil
    go_simp
    go_at_call 11
    refine (eq_herd x0 HSM.out A2 A3 _ G_8.out GZ.out).mono ?_
    rintro e u9 ⟨rfl, hb⟩
    have B_9 := Lib.hid (B_8.out.trans (hb.mono B_8.out.size))
    have K_9 := Lib.hid (K_8.out.kept hb)
    have G_9 := Lib.hid (G_8.out.kept hb)
    have KX_9 := Lib.hid (KX_8.out.kept hb)
    skip
    clear B_8 K_8 G_8 KX_8 hb
    refine hK.out _ _ ⟨K_9.out, KX_9.out⟩ (fun hHeld => ?_)
    clear hK K
    refine wpAnyH_ready (rs := [4]) (by kernel_rfl) (by simp) ?_
    refine AllReadyH.cons (o := _) rfl (fun K hK => ?_) AllReadyH.nil
    go_simp
    refine hK.out _ _ ⟨K_9.out, KX_9.out⟩ (fun hHeld => ?_)
    clear hK K
    refine wpAnyH_done (by kernel_rfl) ?_ _
    go_wp2
    go_ret
    exact ⟨rfl, B_9.out⟩

set_option maxRecDepth 100000 in
theorem contract (H : Type) (enc : TypeId × Value → H) (W : World) (base : Nat) (args : Array Value) (ds gs : List (DataW H)) (before : List MemPlace)
    (hval : ∀ (j : Nat) t v, Tryz.f3.params[j]? = some t → args[j]? = some v → Value.okWide Tryz.prog W .any base t v)
    (hW : DataW.Whole enc Tryz.prog Tryz.f3.params.toList Rows.fnExactHerdTextSpec.vars false W args.toList ds gs before) (hL : laidMetH Tryz.prog Rows.fnExactHerdTextRow.laid W) (hsh : W.ShapedOpen Tryz.prog) :
    Calls Tryz.prog 3 args W fun e W' => ∃ v, e = .returned v ∧ Rows.fnExactHerdTextSpec.post enc Tryz.prog Tryz.f3 false true false false W args v W' := by
  have hW' := hW
  obtain ⟨p, q, hA0, hV, rfl, hfz, hnd⟩ := hW
  have hA : DataW.TrodAll enc Tryz.prog W 0 (fun _ => true) true Tryz.f3.params.toList args.toList ds p := hA0
  rw [Tryz.params3] at hA hval
  obtain ⟨v0, vs0, d0, ds0, p0, q0, hargs, rfl, rfl, h0, r0⟩ := trodAll_cons hA
  obtain ⟨rfl, rfl, rfl⟩ := trodAll_nil r0
  obtain rfl : args = #[v0] := by cases args; simp_all
  obtain ⟨g9, t9, cs9, fu9, d9, p9, rfl, -⟩ := trodVars_one hV
  have k0 := h0
  have lt0 : ∀ x ∈ p0, x.block < W.heap.size := by obtain ⟨m, hm⟩ := k0; exact DataW.trod_lt m _ _ _ hm
  obtain ⟨x0, A0, rfl, wf0, wa0⟩ := HdO.open_herd Tryz.underlying37 (by kernel_rfl) ⟨rfl, rfl, rfl, rfl, rfl, rfl, rfl, rfl, rfl, rfl⟩ ⟨rfl, rfl, rfl, rfl, rfl, rfl, rfl, rfl, rfl, rfl⟩ ⟨by kernel_rfl, by kernel_rfl, by kernel_rfl, by kernel_rfl, by kernel_rfl, by kernel_rfl⟩ Tryz.underlying3 Tryz.underlying32 Tryz.underlying33 Tryz.underlying34 Tryz.underlying35
    (fun _ _ _ _ _ _ _ _ _ _ _ _ _ _ h => HdO.open_setup_cells Tryz.underlying31 (by kernel_rfl) ⟨rfl, rfl, rfl⟩ ⟨rfl, rfl, rfl⟩ (by kernel_rfl) (by kernel_rfl) Tryz.underlying23 (by kernel_rfl) (by kernel_rfl) ⟨rfl, rfl, rfl⟩
      Tryz.underlying24 Tryz.underlying167 (by kernel_rfl) (by kernel_rfl) ⟨rfl, rfl, rfl⟩ Tryz.underlying9 Tryz.underlying29 ⟨rfl, rfl, rfl, rfl⟩ ⟨rfl, rfl, rfl, rfl⟩ (by kernel_rfl) Tryz.underlying27 (by kernel_rfl) (by kernel_rfl) ⟨rfl, rfl, rfl⟩ Tryz.underlying25 Tryz.underlying272 (by kernel_rfl) (by kernel_rfl) ⟨rfl, rfl, rfl⟩ Tryz.underlying3 h)
    (fun _ _ _ _ _ h => open_pds Tryz.underlying32 Tryz.underlying135 (by kernel_rfl) (by kernel_rfl) ⟨rfl, rfl, rfl, rfl⟩ Tryz.underlying9 Tryz.underlying3 Tryz.underlying4 h)
    (fun _ _ _ _ _ h => open_srs Tryz.underlying33 Tryz.underlying139 (by kernel_rfl) (by kernel_rfl) ⟨rfl, rfl, rfl⟩ Tryz.underlying9 Tryz.underlying137 Tryz.underlying258 (by kernel_rfl) (by kernel_rfl) ⟨rfl, rfl⟩ Tryz.underlying3 h)
    (fun _ _ _ _ _ h => Pl.open_row2 Tryz.underlying34 Tryz.underlying157 (by kernel_rfl) (by kernel_rfl) ⟨rfl, rfl⟩ Tryz.underlying3 h)
    (fun _ _ _ _ _ h => Pl.open_row2 Tryz.underlying35 Tryz.underlying159 (by kernel_rfl) (by kernel_rfl) ⟨rfl, rfl⟩ Tryz.underlying3 h) (hval 0 37 v0 rfl rfl) h0
  have w0 := And.intro wf0 wa0
  have hE : Env W := ⟨tab_of (met_of hL), hsh⟩
  clear hA0
  refine (walk x0 A0 W w0 hE (conds_of (met_of hL))).mono fun e W' ⟨he, bel⟩ => ?_
  subst he
  exact ⟨_, rfl, _, _, _, [], _, q, hW', trodAll_mk1 (shut_bool Tryz.underlying4 _), (trodAll_cons_mk (Below.trod laidOut (by kernel_rfl) (of_decide_eq_true (by kernel_rfl)) k0 bel lt0) trodAll_mk0), bel.trodVars laidOut (by kernel_rfl) hV, bel.frame _, fun h => by cases h⟩

/-- A world for the witness: the settled one, each listed variable laid. -/
noncomputable def laidWorld (os : Os) : World :=
  { World.holding Tryz.prog os ⟨#[], #[], []⟩ with heap := (((((World.holding Tryz.prog os ⟨#[], #[], []⟩).heap.modify 6 fun
      | .cells _ t frozen => .cells #[.int .u8 0, .int .u8 1, .int .u8 28, .int .u8 2, .int .u8 29, .int .u8 14, .int .u8 24, .int .u8 3, .int .u8 30, .int .u8 22, .int .u8 20, .int .u8 15, .int .u8 25, .int .u8 17, .int .u8 4, .int .u8 8, .int .u8 31, .int .u8 27, .int .u8 13, .int .u8 23, .int .u8 21, .int .u8 19, .int .u8 16, .int .u8 7, .int .u8 26, .int .u8 12, .int .u8 18, .int .u8 6, .int .u8 11, .int .u8 5, .int .u8 10, .int .u8 9] t frozen
      | o => o).modify 7 fun
      | .cells _ t frozen => .cells #[.int .u8 0, .int .u8 1, .int .u8 56, .int .u8 2, .int .u8 57, .int .u8 49, .int .u8 28, .int .u8 3, .int .u8 61, .int .u8 58, .int .u8 42, .int .u8 50, .int .u8 38, .int .u8 29, .int .u8 17, .int .u8 4, .int .u8 62, .int .u8 47, .int .u8 59, .int .u8 36, .int .u8 45, .int .u8 43, .int .u8 51, .int .u8 22, .int .u8 53, .int .u8 39, .int .u8 33, .int .u8 30, .int .u8 24, .int .u8 18, .int .u8 12, .int .u8 5, .int .u8 63, .int .u8 55, .int .u8 48, .int .u8 27, .int .u8 60, .int .u8 41, .int .u8 37, .int .u8 16, .int .u8 46, .int .u8 35, .int .u8 44, .int .u8 21, .int .u8 52, .int .u8 32, .int .u8 23, .int .u8 11, .int .u8 54, .int .u8 26, .int .u8 40, .int .u8 15, .int .u8 34, .int .u8 20, .int .u8 31, .int .u8 10, .int .u8 25, .int .u8 14, .int .u8 19, .int .u8 9, .int .u8 13, .int .u8 8, .int .u8 7, .int .u8 6] t frozen
      | o => o).modify 4 fun
      | .cells _ t frozen => .cells #[.int .u64 1, .int .u64 10, .int .u64 100, .int .u64 1000, .int .u64 10000, .int .u64 100000, .int .u64 1000000, .int .u64 10000000, .int .u64 100000000, .int .u64 1000000000, .int .u64 10000000000, .int .u64 100000000000, .int .u64 1000000000000, .int .u64 10000000000000, .int .u64 100000000000000, .int .u64 1000000000000000, .int .u64 10000000000000000, .int .u64 100000000000000000, .int .u64 1000000000000000000, .int .u64 10000000000000000000] t frozen
      | o => o).modify 0 fun
      | .cells _ t frozen => .cells #[.string ⟨#[110, 111, 110, 101]⟩, .string ⟨#[111, 102, 102]⟩, .string ⟨#[98, 108, 105, 110, 100]⟩, .string ⟨#[115, 116, 101, 97, 100, 121]⟩, .string ⟨#[109, 111, 118, 101, 100]⟩, .string ⟨#[102, 97, 117, 108, 116]⟩] t frozen
      | o => o) }
theorem laid_met (os : Os) : laidMet Tryz.prog Rows.fnExactHerdTextRow.laid ((laidWorld os).forCall (fun _ _ => 0) ⟨#[], #[.agg #[.int .i64 0, .int .i64 0, .int .i64 0, .slice none 0 0, .slice none 0 0, .int .i64 0, .int .i64 0, .slice none 0 0, .int .i64 0, .int .i64 0, .int .i64 0, .int .i64 0, .int .i64 0, .int .i64 0, .int .i64 0, .slice none 0 0, .slice none 0 0, .slice none 0 0, .slice none 0 0, .int .i64 0, .int .i64 0]], []⟩).memory :=
  laidMet_of_run' 8 (by kernel_rfl) (by kernel_rfl)
theorem reads (os : Os) {H : Type} (enc : TypeId × Value → H) : ∃ places, DataW.whole enc Tryz.prog ((laidWorld os).forCall (fun _ _ => 0) ⟨#[], #[.agg #[.int .i64 0, .int .i64 0, .int .i64 0, .slice none 0 0, .slice none 0 0, .int .i64 0, .int .i64 0, .slice none 0 0, .int .i64 0, .int .i64 0, .int .i64 0, .int .i64 0, .int .i64 0, .int .i64 0, .int .i64 0, .slice none 0 0, .slice none 0 0, .slice none 0 0, .slice none 0 0, .int .i64 0, .int .i64 0]], []⟩).memory Tryz.f3.params.toList Rows.fnExactHerdTextSpec.vars false (#[.agg #[.int .i64 0, .int .i64 0, .int .i64 0, .slice none 0 0, .slice none 0 0, .int .i64 0, .int .i64 0, .slice none 0 0, .int .i64 0, .int .i64 0, .int .i64 0, .int .i64 0, .int .i64 0, .int .i64 0, .int .i64 0, .slice none 0 0, .slice none 0 0, .slice none 0 0, .slice none 0 0, .int .i64 0, .int .i64 0]] : Array Value).toList 8 = some ([.agg [.agg [.agg [.lit (.int .i64 0), .lit (.int .i64 0), .lit (.int .i64 0)], .nil, .agg [.agg [.nil, .lit (.int .i64 0), .lit (.int .i64 0)], .agg [.nil, .lit (.int .i64 0), .lit (.int .i64 0)], .lit (.int .i64 0), .lit (.int .i64 0)]], .lit (.int .i64 0), .lit (.int .i64 0), .lit (.int .i64 0), .nil, .nil, .nil, .nil, .lit (.int .i64 0), .lit (.int .i64 0)]], [Rows.laid_loop_example_g00808_impl_condNames], places) :=
  ⟨MemPlace.row ⟨0, 0, none⟩ 6 ++ [], by kernel_rfl⟩

set_option maxRecDepth 100000 in
theorem lifted (os : Os) (started : os.Started) (H : Type) (enc : TypeId × Value → H) (F : Stop.Interp) :
    ReturnsInHanded {} Tryz.checked os 3 .any ((OpenSpec.ofChange Rows.fnExactHerdTextSpec).preRow enc Tryz.prog Tryz.f3 Rows.fnExactHerdTextRow.domain false Rows.fnExactHerdTextRow.laid) (((OpenSpec.ofChange Rows.fnExactHerdTextSpec).at F).post enc Tryz.prog Tryz.f3 false true false false) := by
  obtain ⟨places, hx⟩ := reads os enc
  refine returnsInHanded_of_row (C := Tryz.checked) (s := OpenSpec.ofChange Rows.fnExactHerdTextSpec) own started (by kernel_rfl) Tryz.func3
    (witness_row_at (enc := enc) (C := Tryz.checked) false (laidWorld os) #[.agg #[.int .i64 0, .int .i64 0, .int .i64 0, .slice none 0 0, .slice none 0 0, .int .i64 0, .int .i64 0, .slice none 0 0, .int .i64 0, .int .i64 0, .int .i64 0, .int .i64 0, .int .i64 0, .int .i64 0, .int .i64 0, .slice none 0 0, .slice none 0 0, .slice none 0 0, .slice none 0 0, .int .i64 0, .int .i64 0]] rfl (by kernel_rfl) (by kernel_rfl) (by kernel_rfl)
      (OpenSpec.preRow_of_cond 8 hx (by kernel_rfl) (fun k hk => by cases hk) (by kernel_rfl) (laid_met os))) ?_
  intro W base args ds gs before hval hW _ _ _ hL hsh _
  exact contract H enc W base args ds gs before hval hW hL hsh

theorem named : Tryz.pinned.checked.prog.funcNamed Rows.fnExactHerdTextRow.func = some 3 := by kernel_rfl
theorem band {a b : Bool} (h : a = true) (k : b = true) : (a && b) = true := by rw [h, k]; rfl
set_option maxHeartbeats 4000000 in
theorem joined : joinedFacts Tryz.pinned.checked.prog 3 Tryz.f3 (OpenSpec.ofChange Rows.fnExactHerdTextSpec).bare Rows.fnExactHerdTextRow = true := by
  unfold joinedFacts
  repeat' (with_reducible refine band ?_ ?_)
  all_goals (as_aux_lemma => kernel_rfl)
theorem said : Rows.FnExactHerdTextSaid :=
  OpenClaim.holds_of_cond 3 Tryz.f3 rfl rfl rfl rfl rfl rfl rfl ⟨rfl, rfl, rfl, rfl, rfl⟩ rfl rfl rfl rfl rfl named Tryz.func3 joined
    (of_decide_eq_true (by kernel_rfl)) (by unfold Func.isWrapper; first | (rw [if_pos (by decide +kernel)]; kernel_rfl) | (rw [if_neg (by decide +kernel)]; exact ⟨rfl, rfl⟩))
    (fun os started H enc _ F => by rw [OpenClaim.pre_eq_preRow]; exact lifted os started H enc F)

theorem plain (f : FuncId) (fn : Func) (hf : Tryz.pinned.checked.prog.funcNamed "loop.example/g00808/laws.FnExactHerdText" = some f) (hfn : Tryz.pinned.checked.prog.funcs[f]? = some fn) :
    true = Tryz.pinned.checked.prog.looks [] ∧ ∀ (j : Nat) t, fn.params[j]? = some t → Tryz.pinned.checked.prog.wantsStandIn t = false := by
  obtain rfl : f = 3 := Option.some.inj ((show Tryz.prog.funcNamed "loop.example/g00808/laws.FnExactHerdText" = some 3 by kernel_rfl).symm.trans hf) |>.symm
  obtain rfl : fn = Tryz.f3 := (Option.some.inj (Tryz.func3.symm.trans hfn)).symm
  refine ⟨by kernel_rfl, fun j t ht => ?_⟩
  rw [Tryz.params3] at ht
  have hm := Array.mem_of_getElem? ht
  simp at hm
  subst hm
  exact (show Tryz.prog.wantsStandIn 37 = false by kernel_rfl)
/-- THE CARD. -/
theorem proved : Rows.FnExactHerdTextCardSaid :=
  Claim7.holds_tied_plain_at .later [] _ _ _ _ said (fun _ h => by cases h) (by kernel_rfl) (fun _ h => by cases h) fnExactHerdText_row_tie rfl ⟨rfl, rfl⟩ (by kernel_rfl) rfl plain (by kernel_rfl)
end Go.Proofs.YtgmdfkmmbcpikaaGreatDoor.fnExactHerdText
