/- For every input that can be read, the Go function laws.FnExactDefaultSetup returns true and leaves its arguments as they read: the statement Rows.FnExactDefaultSetupSaid, without a condition of ours. -/
import Derived.Test.YtcjjdnfikccnmaaRows
import Derived.WalkKit
import Derived.ProofKit
import Derived.OpenShut
import Derived.ShutString
import Derived.ChangeOld
import Derived.Below
import Derived.Test.YtcjjdnfikccnmaaC1
import Derived.Test.YtcjjdnfikccnmaaC2
import Derived.Test.YtcjjdnfikccnmaaSmps
import Derived.Test.YtcjjdnfikccnmaaMem
import Derived.Test.YtcjjdnfikccnmaaSer
import Derived.Test.YtcjjdnfikccnmaaSer2
import Derived.Test.YtcjjdnfikccnmaaNt
import Derived.Test.YtcjjdnfikccnmaaPd
import Derived.Test.YtcjjdnfikccnmaaGl
import Derived.Test.YtcjjdnfikccnmaaGls
import Derived.Test.YtcjjdnfikccnmaaMk
import Derived.Test.YtcjjdnfikccnmaaPl
import Derived.Test.YtcjjdnfikccnmaaSdT
import Derived.Test.YtcjjdnfikccnmaaSet
import Derived.Test.YtcjjdnfikccnmaaMkS
import Derived.Test.YtcjjdnfikccnmaaDef
namespace Go.Proofs.Ytcjjdnfikccnmaa.fnExactDefaultSetup
open Go.ChangeShapes Go.WideShapes Go.ChangeAt Go.RowKit
open Go.ChangeMaps (open_string shut_string)
open Go.Proofs.Ytcjjdnfikccnmaa.C1
open Go.Proofs.Ytcjjdnfikccnmaa.C2
open Go.Proofs.Ytcjjdnfikccnmaa.Smps
open Go.Proofs.Ytcjjdnfikccnmaa.Mem
open Go.Proofs.Ytcjjdnfikccnmaa.Ser
open Go.Proofs.Ytcjjdnfikccnmaa.Ser2
open Go.Proofs.Ytcjjdnfikccnmaa.Nt
open Go.Proofs.Ytcjjdnfikccnmaa.Pd
open Go.Proofs.Ytcjjdnfikccnmaa.Gl
open Go.Proofs.Ytcjjdnfikccnmaa.Gls
open Go.Proofs.Ytcjjdnfikccnmaa.Mk
open Go.Proofs.Ytcjjdnfikccnmaa.Pl
open Go.Proofs.Ytcjjdnfikccnmaa.SdT
open Go.Proofs.Ytcjjdnfikccnmaa.Set
open Go.Proofs.Ytcjjdnfikccnmaa.MkS
open Go.Proofs.Ytcjjdnfikccnmaa.Def
set_option linter.unusedVariables false

theorem own : ownKnob Try.prog.godebug = none := by kernel_rfl
theorem laidOut : laidOutB Try.prog = true := by kernel_rfl
set_option maxHeartbeats 4000000 in
set_option maxRecDepth 100000 in
theorem walk  (w : World)   :
    Calls Try.prog 7 #[] w fun e w' => e = .returned (.bool true) ∧ Below w.heap.size w w' := by
  have hsp := spec_def2
  have him := impl_def2
  have hsm := def_small
  obtain ⟨s, hs⟩ : ∃ s, defS = s := ⟨_, rfl⟩
  rw [hs] at hsp him hsm
  have HSP := Lib.hid hsp
  have HIM := Lib.hid him
  have HSM := Lib.hid hsm
  obtain ⟨hn0, hn1, hn2, -⟩ := hsm
  obtain ⟨q, hq⟩ : ∃ q, 1 + 3 * s.gs.length + 3 * s.bh.up.ps.length + 3 * s.bh.dn.ps.length = q := ⟨_, rfl⟩
  have hq0 : ¬ (q : Int) < 0 := by omega
  have hqq : ((q : Int) != (q : Int)) = false := by simp
  clear hsp him hs
  go_enter Try.func7, Try.ntmps7
  go_wp2_with fail
  refine (HSP.out _).mono ?_
  rintro e ua ⟨g, rfl, hg, hr, hb⟩
  unfold stV
  have hS := hr
  have hbx := box_below ua #[.int .i64 s.rl.dl, .int .i64 s.rl.fr, .int .i64 s.rl.wi, .slice (some ⟨g, 0, none⟩) s.gs.length s.gs.length, .slice (some ⟨g + 1, 0, none⟩) s.bh.up.ps.length s.bh.up.ps.length, .int .i64 s.bh.up.sel, .int .i64 s.bh.up.win, .slice (some ⟨g + 2, 0, none⟩) s.bh.dn.ps.length s.bh.dn.ps.length, .int .i64 s.bh.dn.sel, .int .i64 s.bh.dn.win, .int .i64 s.bh.mn, .int .i64 s.bh.mx] 71
  have K1 : Hid (CW12 (ua.alloc (.cells #[.int .i64 s.rl.dl, .int .i64 s.rl.fr, .int .i64 s.rl.wi, .slice (some ⟨g, 0, none⟩) s.gs.length s.gs.length, .slice (some ⟨g + 1, 0, none⟩) s.bh.up.ps.length s.bh.up.ps.length, .int .i64 s.bh.up.sel, .int .i64 s.bh.up.win, .slice (some ⟨g + 2, 0, none⟩) s.bh.dn.ps.length s.bh.dn.ps.length, .int .i64 s.bh.dn.sel, .int .i64 s.bh.dn.win, .int .i64 s.bh.mn, .int .i64 s.bh.mx] 71)) ua.heap.size (.int .i64 s.rl.dl) (.int .i64 s.rl.fr) (.int .i64 s.rl.wi) (.slice (some ⟨g, 0, none⟩) s.gs.length s.gs.length) (.slice (some ⟨g + 1, 0, none⟩) s.bh.up.ps.length s.bh.up.ps.length) (.int .i64 s.bh.up.sel) (.int .i64 s.bh.up.win) (.slice (some ⟨g + 2, 0, none⟩) s.bh.dn.ps.length s.bh.dn.ps.length) (.int .i64 s.bh.dn.sel) (.int .i64 s.bh.dn.win) (.int .i64 s.bh.mn) (.int .i64 s.bh.mx)) := Ser2.cells_new ua #[.int .i64 s.rl.dl, .int .i64 s.rl.fr, .int .i64 s.rl.wi, .slice (some ⟨g, 0, none⟩) s.gs.length s.gs.length, .slice (some ⟨g + 1, 0, none⟩) s.bh.up.ps.length s.bh.up.ps.length, .int .i64 s.bh.up.sel, .int .i64 s.bh.up.win, .slice (some ⟨g + 2, 0, none⟩) s.bh.dn.ps.length s.bh.dn.ps.length, .int .i64 s.bh.dn.sel, .int .i64 s.bh.dn.win, .int .i64 s.bh.mn, .int .i64 s.bh.mx] 71
  have BX := Lib.hid (hb.trans (hbx.mono hb.size))
  have S1 := Lib.hid (Def.SRows.kept hS hbx)
  clear hb hbx hS hr
  go_wp2_with fail
  obtain ⟨ux, hw⟩ : ∃ yy : World, ua.alloc (.cells #[.int .i64 s.rl.dl, .int .i64 s.rl.fr, .int .i64 s.rl.wi, .slice (some ⟨g, 0, none⟩) s.gs.length s.gs.length, .slice (some ⟨g + 1, 0, none⟩) s.bh.up.ps.length s.bh.up.ps.length, .int .i64 s.bh.up.sel, .int .i64 s.bh.up.win, .slice (some ⟨g + 2, 0, none⟩) s.bh.dn.ps.length s.bh.dn.ps.length, .int .i64 s.bh.dn.sel, .int .i64 s.bh.dn.win, .int .i64 s.bh.mn, .int .i64 s.bh.mx] 71) = yy := ⟨_, rfl⟩
  obtain ⟨G1, hG⟩ : ∃ G, ua.heap.size = G := ⟨_, rfl⟩
  rw [hw] at K1 BX S1 ⊢
  rw [hG] at K1 ⊢
  clear hw hG
  refine (HIM.out _).mono ?_
  rintro e ub ⟨h, rfl, hh, hr, hb⟩
  unfold stV
  have hbx := box_below ub #[.int .i64 s.rl.dl, .int .i64 s.rl.fr, .int .i64 s.rl.wi, .slice (some ⟨h, 0, none⟩) s.gs.length s.gs.length, .slice (some ⟨h + 1, 0, none⟩) s.bh.up.ps.length s.bh.up.ps.length, .int .i64 s.bh.up.sel, .int .i64 s.bh.up.win, .slice (some ⟨h + 2, 0, none⟩) s.bh.dn.ps.length s.bh.dn.ps.length, .int .i64 s.bh.dn.sel, .int .i64 s.bh.dn.win, .int .i64 s.bh.mn, .int .i64 s.bh.mx] 71
  have K2 : Hid (CW12 (ub.alloc (.cells #[.int .i64 s.rl.dl, .int .i64 s.rl.fr, .int .i64 s.rl.wi, .slice (some ⟨h, 0, none⟩) s.gs.length s.gs.length, .slice (some ⟨h + 1, 0, none⟩) s.bh.up.ps.length s.bh.up.ps.length, .int .i64 s.bh.up.sel, .int .i64 s.bh.up.win, .slice (some ⟨h + 2, 0, none⟩) s.bh.dn.ps.length s.bh.dn.ps.length, .int .i64 s.bh.dn.sel, .int .i64 s.bh.dn.win, .int .i64 s.bh.mn, .int .i64 s.bh.mx] 71)) ub.heap.size (.int .i64 s.rl.dl) (.int .i64 s.rl.fr) (.int .i64 s.rl.wi) (.slice (some ⟨h, 0, none⟩) s.gs.length s.gs.length) (.slice (some ⟨h + 1, 0, none⟩) s.bh.up.ps.length s.bh.up.ps.length) (.int .i64 s.bh.up.sel) (.int .i64 s.bh.up.win) (.slice (some ⟨h + 2, 0, none⟩) s.bh.dn.ps.length s.bh.dn.ps.length) (.int .i64 s.bh.dn.sel) (.int .i64 s.bh.dn.win) (.int .i64 s.bh.mn) (.int .i64 s.bh.mx)) := Ser2.cells_new ub #[.int .i64 s.rl.dl, .int .i64 s.rl.fr, .int .i64 s.rl.wi, .slice (some ⟨h, 0, none⟩) s.gs.length s.gs.length, .slice (some ⟨h + 1, 0, none⟩) s.bh.up.ps.length s.bh.up.ps.length, .int .i64 s.bh.up.sel, .int .i64 s.bh.up.win, .slice (some ⟨h + 2, 0, none⟩) s.bh.dn.ps.length s.bh.dn.ps.length, .int .i64 s.bh.dn.sel, .int .i64 s.bh.dn.win, .int .i64 s.bh.mn, .int .i64 s.bh.mx] 71
  have D_1 := Lib.hid (hb.trans (hbx.mono hb.size))
  have S2_1 := Lib.hid (Def.SRows.kept hr hbx)
  have hhb := (OwnL.lt hr.2.2).2
  have K1_1 : Hid (CW12 _ G1 _ _ _ _ _ _ _ _ _ _ _ _) := (K1.out.kept hb).kept hbx
  have hsz : ux.heap.size + 1 ≤ ub.heap.size := by have := (OwnL.lt hr.2.2).1; omega
  clear hb hbx hr
  obtain ⟨⟨x0, x1, x2, x3, x4, x5, x6, x7, x8, x9, x10, x11⟩, -⟩ := K1_1.out.get
  obtain ⟨⟨y0, y1, y2, y3, y4, y5, y6, y7, y8, y9, y10, y11⟩, -⟩ := K2.out.get
  go_wp2_with fail
  clear x0 x1 x2 x3 x4 x5 x6 x7 x8 x9 x10 x11 y0 y1 y2 y3 y4 y5 y6 y7 y8 y9 y10 y11
  obtain ⟨uc, hw⟩ : ∃ yy : World, ub.alloc (.cells #[.int .i64 s.rl.dl, .int .i64 s.rl.fr, .int .i64 s.rl.wi, .slice (some ⟨h, 0, none⟩) s.gs.length s.gs.length, .slice (some ⟨h + 1, 0, none⟩) s.bh.up.ps.length s.bh.up.ps.length, .int .i64 s.bh.up.sel, .int .i64 s.bh.up.win, .slice (some ⟨h + 2, 0, none⟩) s.bh.dn.ps.length s.bh.dn.ps.length, .int .i64 s.bh.dn.sel, .int .i64 s.bh.dn.win, .int .i64 s.bh.mn, .int .i64 s.bh.mx] 71) = yy := ⟨_, rfl⟩
  obtain ⟨G2, hG⟩ : ∃ G, ub.heap.size = G := ⟨_, rfl⟩
  rw [hw] at K2 D_1 S2_1 K1_1 ⊢
  rw [hG] at K2 hsz hhb ⊢
  have HG2 := Lib.hid hG
  clear hw hG
  have K2_1 : Hid (CW12 _ G2 _ _ _ _ _ _ _ _ _ _ _ _) := K2.out
  clear K2
  obtain ⟨l0, l1, l2⟩ := srows_of2 S2_1.out
  obtain ⟨r0, r1, r2⟩ := (srows_of2 (Def.SRows.kept S1.out D_1.out))
  refine (eq_setup s HSM.out _ _ _ _ _ _ _ _ _ _ _ _ _ l0 l1 l2 r0 r1 r2).mono ?_
  rintro e ud ⟨rfl, hb⟩
  clear l0 l1 l2 r0 r1 r2
  have D_2 := Lib.hid (D_1.out.trans (hb.mono D_1.out.size))
  have S2_2 := Lib.hid (Def.SRows.kept S2_1.out hb)
  have K1_2 : Hid (CW12 _ G1 _ _ _ _ _ _ _ _ _ _ _ _) := K1_1.out.kept hb
  have K2_2 : Hid (CW12 _ G2 _ _ _ _ _ _ _ _ _ _ _ _) := K2_1.out.kept hb
  clear hb D_1 S2_1 K1_1 K2_1
  obtain ⟨⟨y0, y1, y2, y3, y4, y5, y6, y7, y8, y9, y10, y11⟩, -⟩ := K2_2.out.get
  go_wp2_with fail
  clear y0 y1 y2 y3 y4 y5 y6 y7 y8 y9 y10 y11
  refine (mark_setup s.gs.length s.bh.up.ps.length s.bh.dn.ps.length s.gs s.bh.up.ps s.bh.dn.ps rfl rfl rfl _ _ _ _ _ _ _ _ _ _ _ _ _ _ _ (def_apart _ _ (by omega)) (def_apart _ _ (by omega)) (def_apart _ _ (by omega)) (ux.heap.size + 1) 1 (by omega) (by omega) _ (by have := D_2.out.size; have := K2_2.out.1; omega) S2_2.out).mono ?_
  rintro e ue ⟨rfl, hm, hw, hfr⟩
  rw [hq]
  have S2_3 := Lib.hid hm
  have D_3 := Lib.hid (D_2.out.trans (hw.mono (Nat.le_succ _)))
  have K2_3 : Hid (CW12 _ G2 _ _ _ _ _ _ _ _ _ _ _ _) := cells_at K2_2.out hw.size (hfr G2 K2_2.out.1 (fun b o s e => by cases e; omega) (fun b o s e => by cases e; omega) (fun b o s e => by cases e; omega))
  have K1_3 : Hid (CW12 _ G1 _ _ _ _ _ _ _ _ _ _ _ _) := K1.out.kept D_3.out
  clear hm hw hfr S2_2 D_2 K2_2 K1_2
  obtain ⟨⟨y0, y1, y2, y3, y4, y5, y6, y7, y8, y9, y10, y11⟩, -⟩ := K2_3.out.get
  go_wp2_with fail
  clear y0 y1 y2 y3 y4 y5 y6 y7 y8 y9 y10 y11
  refine (held_setup s.gs.length s.bh.up.ps.length s.bh.dn.ps.length _ _ _ _ _ _ _ _ _ _ _ _ _ _ _ (ux.heap.size + 1) 1 (by omega) (by omega) _ S2_3.out).mono ?_
  rintro e uf ⟨rfl, hb⟩
  rw [hq]
  have D_4 := Lib.hid (D_3.out.trans (hb.mono D_3.out.size))
  have S2_4 := Lib.hid (Def.SRows.kept S2_3.out hb)
  have K1_4 : Hid (CW12 _ G1 _ _ _ _ _ _ _ _ _ _ _ _) := K1_3.out.kept hb
  have K2_4 : Hid (CW12 _ G2 _ _ _ _ _ _ _ _ _ _ _ _) := K2_3.out.kept hb
  clear hb D_3 S2_3 K1_3 K2_3
  go_wp2_with fail
  refine (HIM.out _).mono ?_
  rintro e ug ⟨h3, rfl, hh3, hr, hb⟩
  unfold stV
  have hbx := box_below ug #[.int .i64 s.rl.dl, .int .i64 s.rl.fr, .int .i64 s.rl.wi, .slice (some ⟨h3, 0, none⟩) s.gs.length s.gs.length, .slice (some ⟨h3 + 1, 0, none⟩) s.bh.up.ps.length s.bh.up.ps.length, .int .i64 s.bh.up.sel, .int .i64 s.bh.up.win, .slice (some ⟨h3 + 2, 0, none⟩) s.bh.dn.ps.length s.bh.dn.ps.length, .int .i64 s.bh.dn.sel, .int .i64 s.bh.dn.win, .int .i64 s.bh.mn, .int .i64 s.bh.mx] 71
  have K3 : Hid (CW12 (ug.alloc (.cells #[.int .i64 s.rl.dl, .int .i64 s.rl.fr, .int .i64 s.rl.wi, .slice (some ⟨h3, 0, none⟩) s.gs.length s.gs.length, .slice (some ⟨h3 + 1, 0, none⟩) s.bh.up.ps.length s.bh.up.ps.length, .int .i64 s.bh.up.sel, .int .i64 s.bh.up.win, .slice (some ⟨h3 + 2, 0, none⟩) s.bh.dn.ps.length s.bh.dn.ps.length, .int .i64 s.bh.dn.sel, .int .i64 s.bh.dn.win, .int .i64 s.bh.mn, .int .i64 s.bh.mx] 71)) ug.heap.size (.int .i64 s.rl.dl) (.int .i64 s.rl.fr) (.int .i64 s.rl.wi) (.slice (some ⟨h3, 0, none⟩) s.gs.length s.gs.length) (.slice (some ⟨h3 + 1, 0, none⟩) s.bh.up.ps.length s.bh.up.ps.length) (.int .i64 s.bh.up.sel) (.int .i64 s.bh.up.win) (.slice (some ⟨h3 + 2, 0, none⟩) s.bh.dn.ps.length s.bh.dn.ps.length) (.int .i64 s.bh.dn.sel) (.int .i64 s.bh.dn.win) (.int .i64 s.bh.mn) (.int .i64 s.bh.mx)) := Ser2.cells_new ug #[.int .i64 s.rl.dl, .int .i64 s.rl.fr, .int .i64 s.rl.wi, .slice (some ⟨h3, 0, none⟩) s.gs.length s.gs.length, .slice (some ⟨h3 + 1, 0, none⟩) s.bh.up.ps.length s.bh.up.ps.length, .int .i64 s.bh.up.sel, .int .i64 s.bh.up.win, .slice (some ⟨h3 + 2, 0, none⟩) s.bh.dn.ps.length s.bh.dn.ps.length, .int .i64 s.bh.dn.sel, .int .i64 s.bh.dn.win, .int .i64 s.bh.mn, .int .i64 s.bh.mx] 71
  have hbb := hb.trans (hbx.mono hb.size)
  have D_5 := Lib.hid (D_4.out.trans (hbb.mono D_4.out.size))
  have S3_5 := Lib.hid (Def.SRows.kept hr hbx)
  have S2_5 := Lib.hid (Def.SRows.kept S2_4.out hbb)
  have K1_5 : Hid (CW12 _ G1 _ _ _ _ _ _ _ _ _ _ _ _) := K1_4.out.kept hbb
  have K2_5 : Hid (CW12 _ G2 _ _ _ _ _ _ _ _ _ _ _ _) := K2_4.out.kept hbb
  clear hb hbx hbb hr D_4 S2_4 K1_4 K2_4
  obtain ⟨⟨x0, x1, x2, x3, x4, x5, x6, x7, x8, x9, x10, x11⟩, -⟩ := K1_5.out.get
  obtain ⟨⟨y0, y1, y2, y3, y4, y5, y6, y7, y8, y9, y10, y11⟩, -⟩ := K3.out.get
  go_wp2_with fail
  clear x0 x1 x2 x3 x4 x5 x6 x7 x8 x9 x10 x11
  clear y0 y1 y2 y3 y4 y5 y6 y7 y8 y9 y10 y11
  obtain ⟨uh, hw⟩ : ∃ yy : World, ug.alloc (.cells #[.int .i64 s.rl.dl, .int .i64 s.rl.fr, .int .i64 s.rl.wi, .slice (some ⟨h3, 0, none⟩) s.gs.length s.gs.length, .slice (some ⟨h3 + 1, 0, none⟩) s.bh.up.ps.length s.bh.up.ps.length, .int .i64 s.bh.up.sel, .int .i64 s.bh.up.win, .slice (some ⟨h3 + 2, 0, none⟩) s.bh.dn.ps.length s.bh.dn.ps.length, .int .i64 s.bh.dn.sel, .int .i64 s.bh.dn.win, .int .i64 s.bh.mn, .int .i64 s.bh.mx] 71) = yy := ⟨_, rfl⟩
  obtain ⟨G3, hG⟩ : ∃ G, ug.heap.size = G := ⟨_, rfl⟩
  rw [hw] at K3 D_5 S3_5 S2_5 K1_5 K2_5 ⊢
  clear hw hG
  obtain ⟨l0, l1, l2⟩ := srows_of2 S3_5.out
  obtain ⟨r0, r1, r2⟩ := (srows_of2 (Def.SRows.kept S1.out D_5.out))
  refine (eq_setup s HSM.out _ _ _ _ _ _ _ _ _ _ _ _ _ l0 l1 l2 r0 r1 r2).mono ?_
  rintro e ui ⟨rfl, hb⟩
  clear l0 l1 l2 r0 r1 r2
  have D_6 := Lib.hid (D_5.out.trans (hb.mono D_5.out.size))
  have S2_6 := Lib.hid (Def.SRows.kept S2_5.out hb)
  have K2_6 : Hid (CW12 _ G2 _ _ _ _ _ _ _ _ _ _ _ _) := K2_5.out.kept hb
  clear hb D_5 S2_5 K2_5
  obtain ⟨⟨y0, y1, y2, y3, y4, y5, y6, y7, y8, y9, y10, y11⟩, -⟩ := K2_6.out.get
  go_wp2_with fail
  clear y0 y1 y2 y3 y4 y5 y6 y7 y8 y9 y10 y11
  refine (held_setup s.gs.length s.bh.up.ps.length s.bh.dn.ps.length _ _ _ _ _ _ _ _ _ _ _ _ _ _ _ (ux.heap.size + 1) 1 (by omega) (by omega) _ S2_6.out).mono ?_
  rintro e uj ⟨rfl, hb⟩
  rw [hq]
  have D_7 := Lib.hid (D_6.out.trans (hb.mono D_6.out.size))
  have S2_7 := Lib.hid (Def.SRows.kept S2_6.out hb)
  have K2_7 : Hid (CW12 _ G2 _ _ _ _ _ _ _ _ _ _ _ _) := K2_6.out.kept hb
  clear hb D_6 S2_6 K2_6
  have HBE := Lib.hid (BX.out.trans (D_7.out.mono BX.out.size))
  go_wp2
  go_ret
  exact ⟨rfl, HBE.out⟩

set_option maxRecDepth 100000 in
theorem lifted (os : Os) (started : os.Started) (H : Type) (enc : TypeId × Value → H) :
    ReturnsInHanded {} Try.checked os 7 .any (Rows.fnExactDefaultSetupSpec.pre6 enc Try.prog Try.f7 Rows.fnExactDefaultSetupRow.domain false) (Rows.fnExactDefaultSetupSpec.post enc Try.prog Try.f7 false true false false) := by
  refine returnsInHanded_of_change (C := Try.checked) own started (by kernel_rfl) Try.func7
    (ChangeSpec.witness6 (enc := enc) (C := Try.checked) false ⟨#[], #[], []⟩ 8 (by kernel_rfl) (by kernel_rfl) (by kernel_rfl) (by kernel_rfl)) ?_
  intro W base args ds gs before hval0 hW hcnd _
  have hval : ∀ (j : Nat) t v, Try.f7.params[j]? = some t → args[j]? = some v → Value.okWide Try.prog W .any base t v := hval0
  clear hval0
  have hW' := hW
  obtain ⟨p, q, hA0, hV, rfl, hfz, hnd⟩ := hW
  have hA : DataW.TrodAll enc Try.prog W 0 (fun _ => true) true Try.f7.params.toList args.toList ds p := hA0
  rw [Try.params7] at hA hval
  obtain ⟨hnil, rfl, rfl⟩ := trodAll_nil hA
  obtain rfl : args = #[] := by cases args; simp_all
  obtain ⟨rfl, rfl⟩ := trodVars_none hV
  clear hA0
  refine (walk  W ).mono fun e W' ⟨he, bel⟩ => ?_
  subst he
  exact ⟨_, rfl, _, _, _, [], _, [], hW', trodAll_mk1 (shut_bool Try.underlying4 _), trodAll_mk0, rfl, bel.frame _, fun h => by cases h⟩

theorem over : Rows.fnExactDefaultSetupRow.holds Try.pinned (OpenSpec.ofChange Rows.fnExactDefaultSetupSpec) :=
  OpenClaim.holds_of_wide 7 Try.f7 rfl rfl rfl rfl rfl rfl rfl ⟨rfl, rfl, rfl, rfl, rfl⟩ rfl rfl rfl rfl rfl (by kernel_rfl) Try.func7 (by kernel_rfl)
    (of_decide_eq_true (by kernel_rfl)) (by unfold Func.isWrapper; first | (rw [if_pos (by decide +kernel)]; kernel_rfl) | (rw [if_neg (by decide +kernel)]; exact ⟨rfl, rfl⟩))
    (fun os started H enc _ => lifted os started H enc)

/-- THE STATEMENT. -/
theorem proved : Rows.FnExactDefaultSetupSaid := over
end Go.Proofs.Ytcjjdnfikccnmaa.fnExactDefaultSetup
