/- The wants of a herd: both sides. -/
import Derived.Test.YtgmdfkmmbcpikaaGreatHdA
import Derived.Test.YtgmdfkmmbcpikaaGreatTlA
import Derived.Test.YtgmdfkmmbcpikaaGreatWtA
import Derived.BigFrame
import Derived.Deep.MidRow
import Derived.Deep.Cut
import Derived.Test.YtgmdfkmmbcpikaaGreatHokA
namespace Go.Proofs.YtgmdfkmmbcpikaaGreat.Wnt
open Go.RowKit Go.Deep
open Go.Proofs.YtgmdfkmmbcpikaaGreat.C1
open Go.Proofs.YtgmdfkmmbcpikaaGreat.C2
open Go.Proofs.YtgmdfkmmbcpikaaGreat.Smps
open Go.Proofs.YtgmdfkmmbcpikaaGreat.Mem
open Go.Proofs.YtgmdfkmmbcpikaaGreat.Ser
open Go.Proofs.YtgmdfkmmbcpikaaGreat.Ser2 (cells_new)
open Go.Proofs.YtgmdfkmmbcpikaaGreat.Pd
open Go.Proofs.YtgmdfkmmbcpikaaGreat.Pds
open Go.Proofs.YtgmdfkmmbcpikaaGreat.Gl
open Go.Proofs.YtgmdfkmmbcpikaaGreat.Gls
open Go.Proofs.YtgmdfkmmbcpikaaGreat.Pl (Pls one_read two_read)
open Go.Proofs.YtgmdfkmmbcpikaaGreat.Set
open Go.Proofs.YtgmdfkmmbcpikaaGreat.Hd
open Go.Proofs.YtgmdfkmmbcpikaaGreat.OwnI
open Go.Proofs.YtgmdfkmmbcpikaaGreat.Tal
open Go.Proofs.YtgmdfkmmbcpikaaGreat.Want
open Go.Proofs.YtgmdfkmmbcpikaaGreat.Clss (bsz)
set_option linter.unusedVariables false

def tyT (T : Tl) : Ty := ⟨T.rdy, T.unr, T.mis, T.sum⟩
noncomputable def wantH (h : Hd) (g : Gl) : Int := if tallyOk h.ps h.ss g.met h.now h.st.rl = true then wantV h.cnt (tyT (tallyV h.ps h.ss g.met h.now h.st.rl)) g else -1
noncomputable def wantsH (h : Hd) : List Int := h.st.gs.map (wantH h)
theorem want_yes {h : Hd} {g : Gl} (c : tallyOk h.ps h.ss g.met h.now h.st.rl = true) {v : Int} (hv : wantV h.cnt (tyT (tallyV h.ps h.ss g.met h.now h.st.rl)) g = v) : wantH h g = v := by unfold wantH; rw [if_pos c, hv]
theorem want_nil {h : Hd} {g : Gl} (c : tallyOk h.ps h.ss g.met h.now h.st.rl = false) : wantH h g = -1 := by unfold wantH; rw [if_neg (by rw [c]; exact Bool.false_ne_true)]
theorem wants_next (h : Hd) (k : Nat) (hk : k < h.st.gs.length) {g : Gl} (hg : h.st.gs[k] = g) : (h.st.gs.take (k + 1)).map (wantH h) = (h.st.gs.take k).map (wantH h) ++ [wantH h g] := by
  rw [List.take_succ_eq_append_getElem hk, List.map_append, hg]
  rfl
theorem spec_tallyS (h : Hd) (hw : h.wf) (hs : h.small) (m : ByteArray) (a3 : Option Addr) (c3 : Nat) (a4 : Option Addr) (c4 : Nat) (ms : List Sv) (hms : ms.map Sv.s = h.ss) (w : World) (kp : Pds w a3 h.ps) (ks : Srs w a4 ms) {T : Tl} {b : Bool} (hT : tallyV h.ps h.ss m h.now h.st.rl = T) (hb : tallyOk h.ps h.ss m h.now h.st.rl = b) :
    Calls Tryz.prog 100 #[.slice a3 h.ps.length c3, .slice a4 h.ss.length c4, .string m, .int .i64 h.now, .agg #[.int .i64 h.st.rl.dl, .int .i64 h.st.rl.fr, .int .i64 h.st.rl.wi]] w fun e w' => e = .returned (.tuple #[.agg #[.int .i64 T.rdy, .int .i64 T.unr, .int .i64 T.mis, .int .i64 T.sum], .bool b]) ∧ Below w.heap.size w w' := by
  subst hT hb
  have hl : ms.length = h.ss.length := by rw [← hms, List.length_map]
  have key := Tal.spec_tally h.ps hw.ps a3 c3 ms a4 c4 m h.now h.st.rl w kp hs.ps (fun l hl => hw.ss _ (by rw [← hms]; exact List.mem_map_of_mem hl)) (fun l hl => hs.pt _ (by rw [← hms]; exact List.mem_map_of_mem hl)) ks (by rw [hl]; exact hs.ss)
  rw [hl, hms] at key
  exact key
theorem impl_tallyS (h : Hd) (hw : h.wf) (hs : h.small) (m : ByteArray) (a3 : Option Addr) (c3 : Nat) (a4 : Option Addr) (c4 : Nat) (ms : List Sv) (hms : ms.map Sv.s = h.ss) (w : World) (kp : Pds w a3 h.ps) (ks : Srs w a4 ms) {T : Tl} {b : Bool} (hT : tallyV h.ps h.ss m h.now h.st.rl = T) (hb : tallyOk h.ps h.ss m h.now h.st.rl = b) :
    Calls Tryz.prog 141 #[.slice a3 h.ps.length c3, .slice a4 h.ss.length c4, .string m, .int .i64 h.now, .agg #[.int .i64 h.st.rl.dl, .int .i64 h.st.rl.fr, .int .i64 h.st.rl.wi]] w fun e w' => e = .returned (.tuple #[.agg #[.int .i64 T.rdy, .int .i64 T.unr, .int .i64 T.mis, .int .i64 T.sum], .bool b]) ∧ Below w.heap.size w w' := by
  subst hT hb
  have hl : ms.length = h.ss.length := by rw [← hms, List.length_map]
  have key := TalI.impl_tally h.ps hw.ps a3 c3 ms a4 c4 m h.now h.st.rl w kp hs.ps (fun l hl => hw.ss _ (by rw [← hms]; exact List.mem_map_of_mem hl)) (fun l hl => hs.pt _ (by rw [← hms]; exact List.mem_map_of_mem hl)) ks (by rw [hl]; exact hs.ss)
  rw [hl, hms] at key
  exact key
set_option maxHeartbeats 4000000 in
set_option maxRecDepth 20000 in
theorem impl_want1 (h : Hd) (hw : h.wf) (hs : h.small) (A : Ad) (g : Gl) (hg : g.wf) (w : World) (k : HdAt w h A) :
    Calls Tryz.prog 102 #[hdV h A, glV g] w fun e w' => e = .returned (.int .i64 (wantH h g)) ∧ Below w.heap.size w w' := by
  obtain ⟨a0, c0, a1, c1, a2, c2, a3, c3, a4, c4, a5, c5, a6, c6⟩ := A
  obtain ⟨ms, hms, hsr⟩ := k.s
  obtain ⟨T, hT⟩ : ∃ T, tallyV h.ps h.ss g.met h.now h.st.rl = T := ⟨_, rfl⟩
  obtain ⟨ok, hok⟩ : ∃ b, tallyOk h.ps h.ss g.met h.now h.st.rl = b := ⟨_, rfl⟩
  have hct := fun W kp ks => impl_tallyS h hw hs g.met a3 c3 a4 c4 ms hms W kp ks hT hok
  have HCT := Lib.hid hct
  have hwo : ∀ W, Calls Tryz.prog 142 #[.int .i64 h.cnt, .agg #[.int .i64 T.rdy, .int .i64 T.unr, .int .i64 T.mis, .int .i64 T.sum], .agg #[.string g.met, .int .i64 g.tar, .int .i64 g.tol]] W fun e w' => e = .returned (.int .i64 (wantV h.cnt (tyT T) g)) ∧ Below W.heap.size W w' := fun W => impl_wantof h.cnt (tyT T) g hg _ rfl W
  have HWO := Lib.hid hwo
  have HR : Hid (wantH h g = if ok = true then wantV h.cnt (tyT T) g else -1) := by show _ = _; unfold wantH; rw [hok, hT]
  obtain ⟨V, hV⟩ : ∃ V, wantH h g = V := ⟨_, rfl⟩
  rw [hV] at HR ⊢
  have HP := Lib.hid (HdAt.p k)
  have HS := Lib.hid hsr
  have hb := box2_below w (.cells #[.int .i64 h.st.rl.dl, .int .i64 h.st.rl.fr, .int .i64 h.st.rl.wi, .slice a0 h.st.gs.length c0, .slice a1 h.st.bh.up.ps.length c1, .int .i64 h.st.bh.up.sel, .int .i64 h.st.bh.up.win, .slice a2 h.st.bh.dn.ps.length c2, .int .i64 h.st.bh.dn.sel, .int .i64 h.st.bh.dn.win, .int .i64 h.st.bh.mn, .int .i64 h.st.bh.mx, .int .i64 h.now, .int .i64 h.cnt, .int .i64 h.rev, .slice a3 h.ps.length c3, .slice a4 h.ss.length c4, .slice a5 h.ns.length c5, .slice a6 h.ms.length c6, .int .i64 h.cnd, .int .i64 h.flt] 54) (.cells #[.string g.met, .int .i64 g.tar, .int .i64 g.tol] 113)
  have HP1 := Lib.hid (HP.out.kept hb)
  have HS1 := Lib.hid (HS.out.kept hb)
  clear hct hwo hT hok hV hb hsr k hms
  dsimp only [hdV]
  unfold glV
  go_enter Tryz.func102, Tryz.ntmps102
  go_wp2_with fail
  refine (HCT.out _ HP1.out HS1.out).mono ?_
  rintro e w4 ⟨rfl, hb4⟩
  obtain ⟨k0, k1, hB, hz⟩ := two_read hb4
  have HB := Lib.hid hB
  have hbt := box_below w4 #[.int .i64 T.rdy, .int .i64 T.unr, .int .i64 T.mis, .int .i64 T.sum] 150
  have K0 : Hid (CW21 _ w.heap.size _ _ _ _ _ _ _ _ _ _ _ _ _ _ _ _ _ _ _ _ _) := CellsW.kept k0 hbt
  have K1 := Lib.hid (CellsW.kept k1 hbt)
  have HBT := Lib.hid (HB.out.trans (hbt.mono HB.out.size))
  clear k0 k1 hB hb4 HP1 HS1 hbt hz
  obtain ⟨⟨p0, p1, p2, p3, p4, p5, p6, p7, p8, p9, p10, p11, p12, p13, p14, p15, p16, p17, p18, p19, p20⟩, -⟩ := K0.out.get
  obtain ⟨q0, -⟩ := K1.out.2 0 (by simp)
  obtain ⟨q1, -⟩ := K1.out.2 1 (by simp)
  obtain ⟨q2, -⟩ := K1.out.2 2 (by simp)
  simp only [List.getElem_cons_zero, List.getElem_cons_succ] at q0 q1 q2
  cases ok
  · have HV : Hid (-1 = V) := by rw [HR.out]; exact Lib.hid rfl
    go_wp2
    go_ret
    exact ⟨ret1I HV.out, HBT.out⟩
  · have HV : Hid (wantV h.cnt (tyT T) g = V) := by rw [HR.out]; exact Lib.hid rfl
    go_wp2_with fail
    refine (HWO.out _).mono ?_
    rintro e w5 ⟨rfl, hb5⟩
    have HB5 := Lib.hid (HBT.out.trans (hb5.mono HBT.out.size))
    clear hb5 p0 p1 p2 p3 p4 p5 p6 p7 p8 p9 p10 p11 p12 p13 p14 p15 p16 p17 p18 p19 p20 q0 q1 q2
    go_wp2
    go_ret
    exact ⟨ret1I HV.out, HB5.out⟩
set_option maxHeartbeats 8000000 in
set_option maxRecDepth 20000 in
theorem spec_wants (h : Hd) (hw : h.wf) (hs : h.small) (hg3 : h.st.gs.length ≤ 3) (A : Ad) (w : World) (k : HdAt w h A) :
    Calls Tryz.prog 47 #[hdV h A] w fun e w' => (∃ v, e = .returned v ∧ OwnI w' w.heap.size v (wantsH h)) ∧ Below w.heap.size w w' := by
  obtain ⟨a0, c0, a1, c1, a2, c2, a3, c3, a4, c4, a5, c5, a6, c6⟩ := A
  obtain ⟨ms, hms, hsr⟩ := k.s
  obtain ⟨b, off, ha, hb, hcell⟩ := k.g.cells
  have HCT : Hid (∀ (g : Gl) W, Pds W a3 h.ps → Srs W a4 ms → Calls Tryz.prog 100 #[.slice a3 h.ps.length c3, .slice a4 h.ss.length c4, .string g.met, .int .i64 h.now, .agg #[.int .i64 h.st.rl.dl, .int .i64 h.st.rl.fr, .int .i64 h.st.rl.wi]] W fun e w' => e = .returned (.tuple #[.agg #[.int .i64 (tallyV h.ps h.ss g.met h.now h.st.rl).rdy, .int .i64 (tallyV h.ps h.ss g.met h.now h.st.rl).unr, .int .i64 (tallyV h.ps h.ss g.met h.now h.st.rl).mis, .int .i64 (tallyV h.ps h.ss g.met h.now h.st.rl).sum], .bool (tallyOk h.ps h.ss g.met h.now h.st.rl)]) ∧ Below W.heap.size W w') := fun g W kp ks => spec_tallyS h hw hs g.met a3 c3 a4 c4 ms hms W kp ks rfl rfl
  have HWO : Hid (∀ (g : Gl), g.wf → ∀ (T : Tl) W, Calls Tryz.prog 101 #[.int .i64 h.cnt, .agg #[.int .i64 T.rdy, .int .i64 T.unr, .int .i64 T.mis, .int .i64 T.sum], .agg #[.string g.met, .int .i64 g.tar, .int .i64 g.tol]] W fun e w' => e = .returned (.int .i64 (wantV h.cnt (tyT T) g)) ∧ Below W.heap.size W w') := fun g hg T W => WantS.spec_wantof h.cnt (tyT T) g hg _ rfl W
  have HGW := Lib.hid hw.st.gs
  have hkb := cells_new w #[.int .i64 h.st.rl.dl, .int .i64 h.st.rl.fr, .int .i64 h.st.rl.wi, .slice a0 h.st.gs.length c0, .slice a1 h.st.bh.up.ps.length c1, .int .i64 h.st.bh.up.sel, .int .i64 h.st.bh.up.win, .slice a2 h.st.bh.dn.ps.length c2, .int .i64 h.st.bh.dn.sel, .int .i64 h.st.bh.dn.win, .int .i64 h.st.bh.mn, .int .i64 h.st.bh.mx, .int .i64 h.now, .int .i64 h.cnt, .int .i64 h.rev, .slice a3 h.ps.length c3, .slice a4 h.ss.length c4, .slice a5 h.ns.length c5, .slice a6 h.ms.length c6, .int .i64 h.cnd, .int .i64 h.flt] 54
  have hbx := box_below w #[.int .i64 h.st.rl.dl, .int .i64 h.st.rl.fr, .int .i64 h.st.rl.wi, .slice a0 h.st.gs.length c0, .slice a1 h.st.bh.up.ps.length c1, .int .i64 h.st.bh.up.sel, .int .i64 h.st.bh.up.win, .slice a2 h.st.bh.dn.ps.length c2, .int .i64 h.st.bh.dn.sel, .int .i64 h.st.bh.dn.win, .int .i64 h.st.bh.mn, .int .i64 h.st.bh.mx, .int .i64 h.now, .int .i64 h.cnt, .int .i64 h.rev, .slice a3 h.ps.length c3, .slice a4 h.ss.length c4, .slice a5 h.ns.length c5, .slice a6 h.ms.length c6, .int .i64 h.cnd, .int .i64 h.flt] 54
  have Hc := Lib.hid hcell
  have Ha := Lib.hid ha
  have Hb := Lib.hid hb
  have HP := Lib.hid (HdAt.p k |>.kept hbx)
  have HS := Lib.hid (hsr.kept hbx)
  dsimp only [hdV]
  obtain ⟨W0, hW0⟩ : ∃ W0, w.alloc (.cells #[.int .i64 h.st.rl.dl, .int .i64 h.st.rl.fr, .int .i64 h.st.rl.wi, .slice a0 h.st.gs.length c0, .slice a1 h.st.bh.up.ps.length c1, .int .i64 h.st.bh.up.sel, .int .i64 h.st.bh.up.win, .slice a2 h.st.bh.dn.ps.length c2, .int .i64 h.st.bh.dn.sel, .int .i64 h.st.bh.dn.win, .int .i64 h.st.bh.mn, .int .i64 h.st.bh.mx, .int .i64 h.now, .int .i64 h.cnt, .int .i64 h.rev, .slice a3 h.ps.length c3, .slice a4 h.ss.length c4, .slice a5 h.ns.length c5, .slice a6 h.ms.length c6, .int .i64 h.cnd, .int .i64 h.flt] 54) = W0 := ⟨_, rfl⟩
  have HE : Hid (W0.heap.size = w.heap.size + 1) := by rw [← hW0]; exact Lib.hid (by simp)
  have hN := OwnI.new W0 (B := w.heap.size + 1) (by rw [HE.out]; exact Nat.le_refl _)
  have hby := box_below W0 #[] 3
  rw [HE.out] at hN hby
  rw [hW0] at hkb hbx HP HS
  have K0 : Hid (CW21 W0 w.heap.size _ _ _ _ _ _ _ _ _ _ _ _ _ _ _ _ _ _ _ _ _) := hkb
  have H0 := Lib.hid hbx
  have HN0 := Lib.hid hN
  have H1 := Lib.hid hby
  have HWE := Lib.hid hW0
  obtain ⟨i0, hi, hz0, hz1, hz2⟩ := info_int
  clear hN hby hW0 hkb hbx hcell ha hb hsr k hms hs hw
  go_enter Tryz.func47, Tryz.ntmps47
  go_wp2
  rw [HWE.out]
  go_loopw [3, 4] (fun v i wr => ∃ k : Nat, k ≤ h.st.gs.length ∧ i = .int .i64 k ∧ Hid (OwnI wr (w.heap.size + 1) v ((h.st.gs.take k).map (wantH h))) ∧ Hid (Below (w.heap.size + 1) W0 wr)) (fun _ i _ => h.st.gs.length - (intOf i).toNat)
  case atStart => exact ⟨0, Nat.zero_le _, rfl, HN0.out, H1.out⟩
  case round =>
    obtain ⟨k, hk, rfl, HO, HB⟩ := hrel
    have KR : Hid (CW21 wr w.heap.size _ _ _ _ _ _ _ _ _ _ _ _ _ _ _ _ _ _ _ _ _) := CW21.kept K0.out (by rw [HE.out]; exact HB.out)
    obtain ⟨⟨p0, p1, p2, p3, p4, p5, p6, p7, p8, p9, p10, p11, p12, p13, p14, p15, p16, p17, p18, p19, p20⟩, -⟩ := KR.out.get
    by_cases hlt : k < h.st.gs.length
    · obtain ⟨g, hg⟩ : ∃ g, h.st.gs[k] = g := ⟨_, rfl⟩
      have HGG := Lib.hid (show g.wf by rw [← hg]; exact HGW.out _ (List.getElem_mem hlt))
      have hq := ((Hc.out k hlt).kept H0.out (Hb.out (by omega))).kept HB.out (by have := Hb.out (by omega); omega)
      obtain rfl := Ha.out (by omega)
      rw [hg] at hq
      obtain ⟨q0, q1, q2⟩ := hq
      have HMN := Lib.hid (wants_next h k hlt hg)
      have HCT1 := Lib.hid (HCT.out g)
      have HWO1 := Lib.hid (HWO.out g HGG.out)
      obtain ⟨T, hT⟩ : ∃ T, tallyV h.ps h.ss g.met h.now h.st.rl = T := ⟨_, rfl⟩
      obtain ⟨ok, hok⟩ : ∃ b, tallyOk h.ps h.ss g.met h.now h.st.rl = b := ⟨_, rfl⟩
      have HR : Hid (wantH h g = if ok = true then wantV h.cnt (tyT T) g else -1) := by show _ = _; unfold wantH; rw [hok, hT]
      rw [hT, hok] at HCT1
      obtain ⟨x, hx⟩ : ∃ x, wantH h g = x := ⟨_, rfl⟩
      rw [hx] at HR HMN
      obtain ⟨ys, hys⟩ : ∃ ys, (h.st.gs.take k).map (wantH h) = ys := ⟨_, rfl⟩
      have hyl : ys.length ≤ 3 := by rw [← hys, List.length_map, List.length_take]; omega
      rw [hys] at HO HMN
      clear hT hok hx hys hg
      have hbg := box_below wr #[.string g.met, .int .i64 g.tar, .int .i64 g.tol] 113
      have HBG := Lib.hid (HB.out.alloc (bsz HE HB.out) (.cells #[.string g.met, .int .i64 g.tar, .int .i64 g.tol] 113))
      have HOG := Lib.hid (OwnI.kept HO.out hbg)
      have HPG := Lib.hid (HP.out.kept (by rw [HE.out]; exact HBG.out))
      have HSG := Lib.hid (HS.out.kept (by rw [HE.out]; exact HBG.out))
      have GG := Lib.hid (cells_new wr #[.string g.met, .int .i64 g.tar, .int .i64 g.tol] 113)
      have KG : Hid (CW21 _ w.heap.size _ _ _ _ _ _ _ _ _ _ _ _ _ _ _ _ _ _ _ _ _) := CW21.kept KR.out hbg
      clear hbg p0 p1 p2 p3 p4 p5 p6 p7 p8 p9 p10 p11 p12 p13 p14 p15 p16 p17 p18 p19 p20
      obtain ⟨⟨p0, p1, p2, -, -, -, -, -, -, -, -, -, p12, -, -, p15, p16, -⟩, -⟩ := KG.out.get
      obtain ⟨⟨-, -, -, p3, -⟩, -⟩ := KR.out.get
      go_wp2_with fail
      refine (HCT1.out _ HPG.out HSG.out).mono ?_
      rintro e w4 ⟨rfl, hb4⟩
      clear q0 q1 q2 p0 p1 p2 p3 p12 p15 p16
      have hbt := box_below w4 #[.int .i64 T.rdy, .int .i64 T.unr, .int .i64 T.mis, .int .i64 T.sum] 150
      have HB4 := Lib.hid (HBG.out.trans (hb4.mono (bsz HE HBG.out)))
      have HBT := Lib.hid (HB4.out.alloc (bsz HE HB4.out) (.cells #[.int .i64 T.rdy, .int .i64 T.unr, .int .i64 T.mis, .int .i64 T.sum] 150))
      have HOT := Lib.hid (OwnI.kept (OwnI.kept HOG.out hb4) hbt)
      have KT : Hid (CW21 _ w.heap.size _ _ _ _ _ _ _ _ _ _ _ _ _ _ _ _ _ _ _ _ _) := CW21.kept (CW21.kept KG.out hb4) hbt
      have GT := Lib.hid (CellsW.kept (CellsW.kept GG.out hb4) hbt)
      have TT := Lib.hid (cells_new w4 #[.int .i64 T.rdy, .int .i64 T.unr, .int .i64 T.mis, .int .i64 T.sum] 150)
      clear hb4 hbt HOG HPG HSG GG KG HBG HCT1
      go_upto_region 8 with fail
      obtain ⟨w5, hw5⟩ : ∃ x, w4.alloc (.cells #[.int .i64 T.rdy, .int .i64 T.unr, .int .i64 T.mis, .int .i64 T.sum] 150) = x := ⟨_, rfl⟩
      rw [hw5] at HBT HOT KT GT TT ⊢
      clear hw5
      obtain ⟨t0, -⟩ := TT.out.2 0 (by simp)
      obtain ⟨t1, -⟩ := TT.out.2 1 (by simp)
      obtain ⟨t2, -⟩ := TT.out.2 2 (by simp)
      obtain ⟨t3, -⟩ := TT.out.2 3 (by simp)
      simp only [List.getElem_cons_zero, List.getElem_cons_succ] at t0 t1 t2 t3
      obtain ⟨⟨-, -, -, -, -, -, -, -, -, -, -, -, -, p13, -⟩, -⟩ := KT.out.get
      obtain ⟨q0, -⟩ := GT.out.2 0 (by simp)
      obtain ⟨q1, -⟩ := GT.out.2 1 (by simp)
      obtain ⟨q2, -⟩ := GT.out.2 2 (by simp)
      simp only [List.getElem_cons_zero, List.getElem_cons_succ] at q0 q1 q2
      cases ok
      · have hx : x = -1 := by rw [HR.out]; rfl
        subst hx
        clear HR HWO1
        have HSX := Lib.hid (HBT.out.alloc (bsz HE HBT.out) (.cells #[.int .i64 (-1)] 3))
        have HSE := Lib.hid (bsz HE HSX.out)
        go_wp2_with (first
          | (at_builtin; refine wpList_append_own _ rfl _ _ 58 rfl (w.heap.size + 1) 3 i0 (.int .i64 0) 1 8 Tryz.underlying58 hi hz0 hz1 hz2 rfl (by decide) _ _ _ rfl (World.ownsRow.alloc HOT.out _) ⟨w5.heap.size, 0, none⟩ 1 1 [.int .i64 (-1)] rfl rfl (one_cell _ _ _) (by intro u hu; simp at hu; subst hu; rfl) (by unfold maxLen; omega) (by omega) HSE.out ?_; intro v' w8 hown' hgrow _; have HO8 := Lib.hid (OwnI.snoc hown'); have HB8 := Lib.hid (HSX.out.grown hgrow HSE.out (fun g hg => (World.ownsRow.lt HOT.out g hg).1)); clear hown' hgrow p13 q0 q1 q2 t0 t1 t2 t3)
          | go_in)
        go_roundw
        case rel => exact ⟨k + 1, by omega, by go_num, by rw [HMN.out]; exact HO8, HB8⟩
        case measure => simp [intOf]; omega
      · have hx : wantV h.cnt (tyT T) g = x := by rw [HR.out]; rfl
        have HW1 := Lib.hid (HWO1.out T)
        rw [hx] at HW1
        clear HR HWO1 hx
        go_wp2_with (first
          | (go_at_call 101; refine (HW1.out _).mono ?_; rintro e w6 ⟨rfl, hb6⟩; have HB6 := Lib.hid (HBT.out.trans (hb6.mono (bsz HE HBT.out))); have HO6 := Lib.hid (OwnI.kept HOT.out hb6); have HSX := Lib.hid (HB6.out.alloc (bsz HE HB6.out) (.cells #[.int .i64 x] 3)); have HSE := Lib.hid (bsz HE HSX.out); clear hb6 p13 q0 q1 q2 t0 t1 t2 t3)
          | (at_builtin; refine wpList_append_own _ rfl _ _ 58 rfl (w.heap.size + 1) 3 i0 (.int .i64 0) 1 8 Tryz.underlying58 hi hz0 hz1 hz2 rfl (by decide) _ _ _ rfl (World.ownsRow.alloc HO6.out _) ⟨w6.heap.size, 0, none⟩ 1 1 [.int .i64 x] rfl rfl (one_cell _ _ _) (by intro u hu; simp at hu; subst hu; rfl) (by unfold maxLen; omega) (by omega) HSE.out ?_; intro v' w8 hown' hgrow _; have HO8 := Lib.hid (OwnI.snoc hown'); have HB8 := Lib.hid (HSX.out.grown hgrow HSE.out (fun g hg => (World.ownsRow.lt HO6.out g hg).1)); clear hown' hgrow)
          | go_in)
        go_roundw
        case rel => exact ⟨k + 1, by omega, by go_num, by rw [HMN.out]; exact HO8, HB8⟩
        case measure => simp [intOf]; omega
    · obtain rfl : k = h.st.gs.length := by omega
      have HF : Hid (wantsH h = (h.st.gs.take h.st.gs.length).map (wantH h)) := by rw [List.take_of_length_le (Nat.le_refl _)]; exact Lib.hid rfl
      have HBF := Lib.hid (H0.out.trans (HB.out.mono (Nat.le_succ _)))
      go_wp2
      go_ret
      exact ⟨⟨_, rfl, by rw [HF.out]; exact HO.out.mono (Nat.le_succ _)⟩, HBF.out⟩
end Go.Proofs.YtgmdfkmmbcpikaaGreat.Wnt

/- The program's wants; LawNow, WantsNow: both sides. -/
namespace Go.Proofs.YtgmdfkmmbcpikaaGreat.Law8
open Go.RowKit Go.Deep
open Go.Proofs.YtgmdfkmmbcpikaaGreat.C1
open Go.Proofs.YtgmdfkmmbcpikaaGreat.C2
open Go.Proofs.YtgmdfkmmbcpikaaGreat.Smps
open Go.Proofs.YtgmdfkmmbcpikaaGreat.Mem
open Go.Proofs.YtgmdfkmmbcpikaaGreat.Ints
open Go.Proofs.YtgmdfkmmbcpikaaGreat.Ser2 (cells_new)
open Go.Proofs.YtgmdfkmmbcpikaaGreat.Pd
open Go.Proofs.YtgmdfkmmbcpikaaGreat.Gl
open Go.Proofs.YtgmdfkmmbcpikaaGreat.Gls
open Go.Proofs.YtgmdfkmmbcpikaaGreat.Pl (one_read two_read)
open Go.Proofs.YtgmdfkmmbcpikaaGreat.Set
open Go.Proofs.YtgmdfkmmbcpikaaGreat.To (row_kept row_weak)
open Go.Proofs.YtgmdfkmmbcpikaaGreat.Hd
open Go.Proofs.YtgmdfkmmbcpikaaGreat.Hok
open Go.Proofs.YtgmdfkmmbcpikaaGreat.OwnI
open Go.Proofs.YtgmdfkmmbcpikaaGreat.Clss (bsz)
open Go.Proofs.YtgmdfkmmbcpikaaGreat.Want
open Go.Proofs.YtgmdfkmmbcpikaaGreat.Rf (rS)
open Go.Proofs.YtgmdfkmmbcpikaaGreat.C1L
open Go.Proofs.YtgmdfkmmbcpikaaGreat.Comb
open Go.Proofs.YtgmdfkmmbcpikaaGreat.Wnt
set_option linter.unusedVariables false

/-! ### Plain mathematics. -/
theorem cl_nn {a b : Int} (ha : 0 ≤ a) (hb : 1 ≤ b) : 0 ≤ clD a b := by
  unfold clD
  rw [if_neg (by omega)]
  have : (-a) / b ≤ 0 := by
    rw [Int.ediv_le_iff_le_mul (by omega)]
    omega
  omega
theorem want_bd (c : Int) (t : Ty) (g : Gl) : -1 ≤ wantV c t g ∧ wantV c t g ≤ 1000 := by
  unfold wantV
  split
  · rename_i hh
    simp only [Bool.and_eq_true] at hh
    obtain ⟨⟨hc, hu⟩, hg⟩ := hh
    have hc2 : 0 ≤ c ∧ c ≤ 1000 := by simpa [inB] using hc
    obtain ⟨-, -, hm, hs⟩ := (okU_iff t).1 hu
    have ht := ((okG_iff g).1 hg).2.1
    have hrs : 0 ≤ rS t g.tar := by
      unfold rS
      split
      · have : 0 ≤ t.mis * g.tar := Int.mul_nonneg hm.1 (by omega)
        omega
      · exact hs.1
    have hcl := cl_nn hrs (show 1 ≤ g.tar by omega)
    unfold wV
    split
    · omega
    · split <;> omega
  · omega
theorem wantH_bd (h : Hd) (g : Gl) : -1 ≤ wantH h g ∧ wantH h g ≤ 1000 := by
  unfold wantH
  split
  · exact want_bd _ _ _
  · omega
theorem gs_len {h : Hd} (c : herdV h = true) : 1 ≤ h.st.gs.length ∧ h.st.gs.length ≤ 3 := by
  have h1 := (herd_parts c).2.2.1
  unfold Sup.setV Sup.goalsV at h1
  simp only [Bool.and_eq_true] at h1
  have := BhM.inV_iff.1 h1.2.2.1
  omega
theorem wants_len (h : Hd) : (wantsH h).length = h.st.gs.length := by unfold wantsH; rw [List.length_map]
theorem wants_ok {h : Hd} (c : herdV h = true) : wsOk (wantsH h) = true := by
  have := gs_len c
  unfold wsOk
  rw [Bool.and_eq_true, decide_eq_true_eq, List.all_eq_true, wants_len]
  refine ⟨by omega, fun x hx => ?_⟩
  unfold wantsH at hx
  obtain ⟨g, -, rfl⟩ := List.mem_map.1 hx
  have := wantH_bd h g
  unfold wOk inB
  exact decide_eq_true this
theorem mx_neg : ∀ (xs : List Int) (m : Int), m ≤ -1 → (∀ x ∈ xs, x ≤ -1) → xs.foldl mxS m ≤ -1
  | [], m, h, _ => h
  | x :: r, m, h, hx => by
    rw [List.foldl_cons]
    refine mx_neg r _ ?_ fun y hy => hx y (List.mem_cons_of_mem _ hy)
    unfold mxS
    have := hx x (by simp)
    split <;> omega
def blindB (xs : List Int) : Bool := xs.all fun x => decide (x < 0)
theorem blind_mx {xs : List Int} : blindB xs = (mxL xs == -1) := by
  have h0 := mx_low xs (-1) (Int.le_refl _)
  cases c : blindB xs
  · symm
    rw [beq_eq_false_iff_ne]
    intro e
    have : blindB xs = true := by
      unfold blindB
      rw [List.all_eq_true]
      intro x hx
      have := (mx_ge xs (-1)).2 x hx
      unfold mxL at e
      exact decide_eq_true (by omega)
    rw [c] at this
    cases this
  · symm
    rw [beq_iff_eq]
    unfold blindB at c
    rw [List.all_eq_true] at c
    have := mx_neg xs (-1) (Int.le_refl _) fun x hx => by have := of_decide_eq_true (c x hx); omega
    unfold mxL
    omega
noncomputable def wantsV (h : Hd) : List Int := if herdV h = true then wantsH h else []
noncomputable def lawH (h : Hd) : Int := if h.cnt = 0 ∨ mxL (wantsH h) = -1 then -1 else combV h.cnt (wantsH h)
noncomputable def lawV (h : Hd) : Int := if herdV h = true then lawH h else -1
set_option maxHeartbeats 8000000 in
set_option maxRecDepth 20000 in
theorem impl_wants (h : Hd) (hw : h.wf) (hs : h.small) (hg3 : h.st.gs.length ≤ 3) (A : Ad) (w : World) (k : HdAt w h A) (hcap : h.st.gs.length ≤ A.c0) :
    Calls Tryz.prog 48 #[hdV h A] w fun e w' => (∃ v, e = .returned v ∧ OwnI w' w.heap.size v (wantsH h)) ∧ Below w.heap.size w w' := by
  have HWT : Hid (∀ (g : Gl), g.wf → ∀ W, HdAt W h A → Calls Tryz.prog 102 #[hdV h A, glV g] W fun e w' => e = .returned (.int .i64 (wantH h g)) ∧ Below W.heap.size W w') := fun g hg W ka => impl_want1 h hw hs A g hg W ka
  obtain ⟨a0, c0, a1, c1, a2, c2, a3, c3, a4, c4, a5, c5, a6, c6⟩ := A
  obtain ⟨b, off, ha, hb, hcell⟩ := k.g.cells
  have hcap : h.st.gs.length ≤ c0 := hcap
  have HGW := Lib.hid hw.st.gs
  have hkb := cells_new w #[.int .i64 h.st.rl.dl, .int .i64 h.st.rl.fr, .int .i64 h.st.rl.wi, .slice a0 h.st.gs.length c0, .slice a1 h.st.bh.up.ps.length c1, .int .i64 h.st.bh.up.sel, .int .i64 h.st.bh.up.win, .slice a2 h.st.bh.dn.ps.length c2, .int .i64 h.st.bh.dn.sel, .int .i64 h.st.bh.dn.win, .int .i64 h.st.bh.mn, .int .i64 h.st.bh.mx, .int .i64 h.now, .int .i64 h.cnt, .int .i64 h.rev, .slice a3 h.ps.length c3, .slice a4 h.ss.length c4, .slice a5 h.ns.length c5, .slice a6 h.ms.length c6, .int .i64 h.cnd, .int .i64 h.flt] 54
  have hbx := box_below w #[.int .i64 h.st.rl.dl, .int .i64 h.st.rl.fr, .int .i64 h.st.rl.wi, .slice a0 h.st.gs.length c0, .slice a1 h.st.bh.up.ps.length c1, .int .i64 h.st.bh.up.sel, .int .i64 h.st.bh.up.win, .slice a2 h.st.bh.dn.ps.length c2, .int .i64 h.st.bh.dn.sel, .int .i64 h.st.bh.dn.win, .int .i64 h.st.bh.mn, .int .i64 h.st.bh.mx, .int .i64 h.now, .int .i64 h.cnt, .int .i64 h.rev, .slice a3 h.ps.length c3, .slice a4 h.ss.length c4, .slice a5 h.ns.length c5, .slice a6 h.ms.length c6, .int .i64 h.cnd, .int .i64 h.flt] 54
  have Hc := Lib.hid hcell
  have Ha := Lib.hid ha
  have Hb := Lib.hid hb
  have HAT := Lib.hid (k.kept hbx)
  have hln := wants_len h
  have hmk := run_make_row' (P := Tryz.prog) 58 3 (.int .i64 0) 8 Tryz.underlying58 info3 rfl .i64 .i64 h.st.gs.length (by omega) (by omega)
  unfold hdV glV at HWT
  dsimp only at HWT
  dsimp only [hdV]
  obtain ⟨W0, hW0⟩ : ∃ W0, w.alloc (.cells #[.int .i64 h.st.rl.dl, .int .i64 h.st.rl.fr, .int .i64 h.st.rl.wi, .slice a0 h.st.gs.length c0, .slice a1 h.st.bh.up.ps.length c1, .int .i64 h.st.bh.up.sel, .int .i64 h.st.bh.up.win, .slice a2 h.st.bh.dn.ps.length c2, .int .i64 h.st.bh.dn.sel, .int .i64 h.st.bh.dn.win, .int .i64 h.st.bh.mn, .int .i64 h.st.bh.mx, .int .i64 h.now, .int .i64 h.cnt, .int .i64 h.rev, .slice a3 h.ps.length c3, .slice a4 h.ss.length c4, .slice a5 h.ns.length c5, .slice a6 h.ms.length c6, .int .i64 h.cnd, .int .i64 h.flt] 54) = W0 := ⟨_, rfl⟩
  have HE : Hid (W0.heap.size = w.heap.size + 1) := by rw [← hW0]; exact Lib.hid (by simp)
  have hmade : (W0.alloc (.cells (madeCells #[Value.int .i64 0] h.st.gs.length) 3)).ownsRow W0.heap.size 3 1 (.slice (some ⟨W0.heap.size, 0, none⟩) h.st.gs.length h.st.gs.length) h.st.gs.length (fill (wantsH h) 0) := by
    rw [fill_none, wants_len]
    have := World.ownsRow_lit (e := 3) (size := 1) (base := W0.heap.size) W0 (madeCells #[Value.int .i64 0] h.st.gs.length) h.st.gs.length (Nat.le_refl _) (by unfold maxLen; omega) (by simp [madeCells])
    rw [toList_madeCells_one] at this
    exact this
  have hbel : Below W0.heap.size W0 (W0.alloc (.cells (madeCells #[Value.int .i64 0] h.st.gs.length) 3)) := (Below.refl _ _).alloc (Nat.le_refl _) _
  rw [hW0] at hkb hbx HAT
  have K0 : Hid (CW21 W0 w.heap.size _ _ _ _ _ _ _ _ _ _ _ _ _ _ _ _ _ _ _ _ _) := hkb
  have H0 := Lib.hid hbx
  have Hm := Lib.hid hmade
  have H1 := Lib.hid hbel
  have HWE := Lib.hid hW0
  obtain ⟨⟨p0, p1, p2, p3, p4, p5, p6, p7, p8, p9, p10, p11, p12, p13, p14, p15, p16, p17, p18, p19, p20⟩, -⟩ := K0.out.get
  clear hmade hbel hW0 hkb hbx hcell ha hb k hs hw
  go_enter Tryz.func48, Tryz.ntmps48
  go_upto_region 1 with fail
  rw [HWE.out]
  go_upto_region 2 with fail
  obtain ⟨W1, hW1⟩ : ∃ x, W0.alloc (.cells (madeCells #[Value.int .i64 0] h.st.gs.length) 3) = x := ⟨_, rfl⟩
  rw [hW1] at Hm H1 ⊢
  clear hW1 p0 p1 p2 p3 p4 p5 p6 p7 p8 p9 p10 p11 p12 p13 p14 p15 p16 p17 p18 p19 p20
  have K1 : Hid (CW21 W1 w.heap.size _ _ _ _ _ _ _ _ _ _ _ _ _ _ _ _ _ _ _ _ _) := CW21.kept K0.out H1.out
  obtain ⟨⟨-, -, -, p3, -⟩, -⟩ := K1.out.get
  go_wp2
  clear p3 K1
  go_loopw [15] (fun i wr => ∃ k : Nat, k ≤ h.st.gs.length ∧ i = .int .i64 k ∧ Hid (wr.ownsRow W0.heap.size 3 1 (.slice (some ⟨W0.heap.size, 0, none⟩) h.st.gs.length h.st.gs.length) h.st.gs.length (fill (wantsH h) k)) ∧ Hid (Below W0.heap.size W0 wr)) (fun i _ => h.st.gs.length - (intOf i).toNat)
  case atStart => exact ⟨0, Nat.zero_le _, rfl, Hm.out, H1.out⟩
  case round =>
    clear hmk
    obtain ⟨k, hk, rfl, HO, HB⟩ := hrel
    by_cases hlt : k < h.st.gs.length
    · obtain ⟨g, hg⟩ : ∃ g, h.st.gs[k] = g := ⟨_, rfl⟩
      have hq := ((Hc.out k hlt).kept H0.out (Hb.out (by omega))).kept HB.out (by have := Hb.out (by omega); have := HE.out; omega)
      obtain rfl := Ha.out (by omega)
      rw [hg] at hq
      obtain ⟨q0, q1, q2⟩ := hq
      have HW1 := Lib.hid (HWT.out g (by rw [← hg]; exact HGW.out _ (List.getElem_mem hlt)))
      have hxk : (wantsH h)[k]'(by omega) = wantH h g := by unfold wantsH; rw [List.getElem_map, hg]
      have hbg := box_below wr #[.string g.met, .int .i64 g.tar, .int .i64 g.tol] 113
      have HBG := Lib.hid (HB.out.alloc HB.out.size (.cells #[.string g.met, .int .i64 g.tar, .int .i64 g.tol] 113))
      have HAG := Lib.hid ((HAT.out.kept HB.out).kept hbg)
      have HOG := Lib.hid (row_kept HO.out hbg)
      have KG : Hid (CW21 _ w.heap.size _ _ _ _ _ _ _ _ _ _ _ _ _ _ _ _ _ _ _ _ _) := CW21.kept (CW21.kept K0.out HB.out) hbg
      clear hbg hg
      go_wp2_with (first | (refine wpList_load_mid rfl 54 _ rfl w.heap.size 0 rfl [.int .i64 h.st.rl.dl, .int .i64 h.st.rl.fr, .int .i64 h.st.rl.wi, .slice (some ⟨b, off, none⟩) h.st.gs.length c0, .slice a1 h.st.bh.up.ps.length c1, .int .i64 h.st.bh.up.sel, .int .i64 h.st.bh.up.win, .slice a2 h.st.bh.dn.ps.length c2, .int .i64 h.st.bh.dn.sel, .int .i64 h.st.bh.dn.win, .int .i64 h.st.bh.mn, .int .i64 h.st.bh.mx, .int .i64 h.now, .int .i64 h.cnt, .int .i64 h.rev, .slice a3 h.ps.length c3, .slice a4 h.ss.length c4, .slice a5 h.ns.length c5, .slice a6 h.ms.length c6, .int .i64 h.cnd, .int .i64 h.flt] _ (range_all KG.out) Tryz.underlying54 rfl info_hd ?_))
      refine (HW1.out _ HAG.out).mono ?_
      rintro e w4 ⟨rfl, hb4⟩
      have HB4 := Lib.hid (HBG.out.trans (hb4.mono HBG.out.size))
      have hown := row_kept HOG.out hb4
      clear hb4 HAG HOG KG HBG HW1 q0 q1 q2
      obtain ⟨v0, hv0⟩ := fill_get (wantsH h) k k (by omega) (by omega)
      have hy : w4.cell? ⟨W0.heap.size, k, none⟩ = some v0 := by rw [hown.cellAt k (by omega)]; exact hv0
      have hz : w4.frozen? ⟨W0.heap.size, k, none⟩ = false := hown.frozenAt k
      have hgd : (wantsH h).getD k 0 = wantH h g := by rw [← hxk]; simp [show k < (wantsH h).length by omega]
      have hfs := fill_set (wantsH h) k (by omega)
      rw [hgd] at hfs
      obtain ⟨x, hx⟩ : ∃ x, wantH h g = x := ⟨_, rfl⟩
      rw [hx] at hfs ⊢
      obtain ⟨S1, S2⟩ := hown.stored k (.int .i64 x)
      rw [hfs] at S1
      have S3 : Below W0.heap.size W0 (w4.setCell ⟨W0.heap.size, k, none⟩ (.int .i64 x)) := HB4.out.setCell (Nat.le_refl _) _
      have HS1 := Lib.hid S1
      have HS3 := Lib.hid S3
      clear S1 S2 S3 hown hv0 hxk hx hgd hfs
      go_wp2
      go_roundw
      case rel => exact ⟨k + 1, by omega, by go_num, HS1, HS3⟩
      case measure => simp [intOf]; omega
    · obtain rfl : k = h.st.gs.length := by omega
      have hF : OwnI wr W0.heap.size (.slice (some ⟨W0.heap.size, 0, none⟩) h.st.gs.length h.st.gs.length) (wantsH h) := by
        have := HO.out
        rw [← wants_len, fill_all, wants_len] at this
        unfold OwnI
        rw [wants_len]
        exact this
      have HF := Lib.hid (hF.mono (show w.heap.size ≤ W0.heap.size from H0.out.size))
      have HBF := Lib.hid (H0.out.trans (HB.out.mono H0.out.size))
      clear hF
      go_wp2
      go_ret
      exact ⟨⟨_, rfl, HF.out⟩, HBF.out⟩
theorem spec_blind (xs : List Int) (a : Option Addr) (cap : Nat) (w : World) (h : Ints w a xs) (hm : xs.length ≤ 1000) :
    Calls Tryz.prog 54 #[.slice a xs.length cap] w fun e w' => e = .returned (.bool (blindB xs)) ∧ w = w' := by
  obtain ⟨b, off, hc⟩ := C1L.Ints.cells h
  have HC := Lib.hid hc
  clear hc h
  go_enter Tryz.func54, Tryz.ntmps54
  go_wp2
  go_loopw [3] (fun i wr => ∃ k : Nat, k ≤ xs.length ∧ i = .int .i64 k ∧ Hid (∀ (j : Nat) (hj : j < xs.length), j < k → xs[j] < 0) ∧ wr = w) (fun i _ => xs.length - (intOf i).toNat)
  case atStart => exact ⟨0, Nat.zero_le _, rfl, fun j hj h => absurd h (by omega), rfl⟩
  case round =>
    obtain ⟨k, hk, rfl, HS, hwr⟩ := hrel
    subst hwr
    by_cases hlt : k < xs.length
    · obtain rfl := HC.out.1 (by omega)
      have hx := HC.out.2 k hlt
      obtain ⟨x, hxx⟩ : ∃ x, xs[k] = x := ⟨_, rfl⟩
      rw [hxx] at hx
      by_cases hn : x < 0
      · have HN : Hid (∀ (j : Nat) (hj : j < xs.length), j < k + 1 → xs[j] < 0) := fun j hj h => by
          by_cases e : j = k
          · subst e; rw [hxx]; exact hn
          · exact HS.out j hj (by omega)
        go_wp2
        go_roundw
        case rel => exact ⟨k + 1, by omega, by go_num, HN, by first | rfl | trivial⟩
        case measure => simp [intOf]; omega
      · have HF : Hid (false = blindB xs) := by
          show _ = _
          symm
          cases c : blindB xs
          · rfl
          · unfold blindB at c
            rw [List.all_eq_true] at c
            have := of_decide_eq_true (c _ (List.getElem_mem hlt))
            rw [hxx] at this
            exact absurd this hn
        go_wp2
        go_ret
        exact ⟨ret1B HF.out, rfl⟩
    · obtain rfl : k = xs.length := by omega
      have HF : Hid (true = blindB xs) := by
        show _ = _
        symm
        unfold blindB
        rw [List.all_eq_true]
        intro y hy
        obtain ⟨j, hj, rfl⟩ := List.getElem_of_mem hy
        exact decide_eq_true (HS.out j hj hj)
      go_wp2
      go_ret
      exact ⟨ret1B HF.out, rfl⟩
set_option maxHeartbeats 4000000 in
set_option maxRecDepth 20000 in
theorem spec_wantsnow (h : Hd) (hw : h.wf) (hs : h.small) (A : Ad) (w : World) (k : HdAt w h A) :
    Calls Tryz.prog 11 #[hdV h A] w fun e w' => (∃ v, e = .returned v ∧ OwnI w' w.heap.size v (wantsV h)) ∧ Below w.heap.size w w' := by
  have hok := fun W kk => spec_herdok h hw hs A W kk
  have hwt := fun (c : herdV h = true) W kk => spec_wants h hw hs (gs_len c).2 A W kk
  unfold hdV at hok hwt ⊢
  have HOK := Lib.hid hok
  have HWT := Lib.hid hwt
  clear hok hwt hw hs
  have hb := box_below w #[.int .i64 h.st.rl.dl, .int .i64 h.st.rl.fr, .int .i64 h.st.rl.wi, .slice A.a0 h.st.gs.length A.c0, .slice A.a1 h.st.bh.up.ps.length A.c1, .int .i64 h.st.bh.up.sel, .int .i64 h.st.bh.up.win, .slice A.a2 h.st.bh.dn.ps.length A.c2, .int .i64 h.st.bh.dn.sel, .int .i64 h.st.bh.dn.win, .int .i64 h.st.bh.mn, .int .i64 h.st.bh.mx, .int .i64 h.now, .int .i64 h.cnt, .int .i64 h.rev, .slice A.a3 h.ps.length A.c3, .slice A.a4 h.ss.length A.c4, .slice A.a5 h.ns.length A.c5, .slice A.a6 h.ms.length A.c6, .int .i64 h.cnd, .int .i64 h.flt] 54
  have hk := cells_new w #[.int .i64 h.st.rl.dl, .int .i64 h.st.rl.fr, .int .i64 h.st.rl.wi, .slice A.a0 h.st.gs.length A.c0, .slice A.a1 h.st.bh.up.ps.length A.c1, .int .i64 h.st.bh.up.sel, .int .i64 h.st.bh.up.win, .slice A.a2 h.st.bh.dn.ps.length A.c2, .int .i64 h.st.bh.dn.sel, .int .i64 h.st.bh.dn.win, .int .i64 h.st.bh.mn, .int .i64 h.st.bh.mx, .int .i64 h.now, .int .i64 h.cnt, .int .i64 h.rev, .slice A.a3 h.ps.length A.c3, .slice A.a4 h.ss.length A.c4, .slice A.a5 h.ns.length A.c5, .slice A.a6 h.ms.length A.c6, .int .i64 h.cnd, .int .i64 h.flt] 54
  have HB := Lib.hid hb
  have K0 : Hid (CW21 _ w.heap.size _ _ _ _ _ _ _ _ _ _ _ _ _ _ _ _ _ _ _ _ _) := hk
  have HAT := Lib.hid k
  clear hb hk k
  go_enter Tryz.func11, Tryz.ntmps11
  go_wp2_with (first | (refine wpList_load_mid rfl 54 _ rfl w.heap.size 0 rfl [.int .i64 h.st.rl.dl, .int .i64 h.st.rl.fr, .int .i64 h.st.rl.wi, .slice A.a0 h.st.gs.length A.c0, .slice A.a1 h.st.bh.up.ps.length A.c1, .int .i64 h.st.bh.up.sel, .int .i64 h.st.bh.up.win, .slice A.a2 h.st.bh.dn.ps.length A.c2, .int .i64 h.st.bh.dn.sel, .int .i64 h.st.bh.dn.win, .int .i64 h.st.bh.mn, .int .i64 h.st.bh.mx, .int .i64 h.now, .int .i64 h.cnt, .int .i64 h.rev, .slice A.a3 h.ps.length A.c3, .slice A.a4 h.ss.length A.c4, .slice A.a5 h.ns.length A.c5, .slice A.a6 h.ms.length A.c6, .int .i64 h.cnd, .int .i64 h.flt] _ (range_all K0.out) Tryz.underlying54 rfl info_hd ?_))
  refine (HOK.out _ (HAT.out.kept HB.out)).mono ?_
  rintro e u1 ⟨rfl, hb⟩
  have HBn := Lib.hid (HB.out.trans (hb.mono HB.out.size))
  have K0n : Hid (CW21 u1 w.heap.size _ _ _ _ _ _ _ _ _ _ _ _ _ _ _ _ _ _ _ _ _) := CW21.kept K0.out hb
  clear HB K0 hb
  have HB := HBn
  have K0 := K0n
  clear HBn K0n
  cases hv : herdV h
  · have HN : Hid (wantsV h = []) := by show _ = _; unfold wantsV; rw [hv]; rfl
    clear hv
    go_wp2
    go_ret
    exact ⟨⟨_, rfl, by rw [HN.out]; exact OwnI.nil _ _⟩, HB.out⟩
  · have HN : Hid (wantsV h = wantsH h) := by show _ = _; unfold wantsV; rw [if_pos hv]
    have HW1 := Lib.hid (HWT.out hv)
    clear hv
    go_wp2_with (first | (refine wpList_load_mid rfl 54 _ rfl w.heap.size 0 rfl [.int .i64 h.st.rl.dl, .int .i64 h.st.rl.fr, .int .i64 h.st.rl.wi, .slice A.a0 h.st.gs.length A.c0, .slice A.a1 h.st.bh.up.ps.length A.c1, .int .i64 h.st.bh.up.sel, .int .i64 h.st.bh.up.win, .slice A.a2 h.st.bh.dn.ps.length A.c2, .int .i64 h.st.bh.dn.sel, .int .i64 h.st.bh.dn.win, .int .i64 h.st.bh.mn, .int .i64 h.st.bh.mx, .int .i64 h.now, .int .i64 h.cnt, .int .i64 h.rev, .slice A.a3 h.ps.length A.c3, .slice A.a4 h.ss.length A.c4, .slice A.a5 h.ns.length A.c5, .slice A.a6 h.ms.length A.c6, .int .i64 h.cnd, .int .i64 h.flt] _ (range_all K0.out) Tryz.underlying54 rfl info_hd ?_))
    refine (HW1.out _ (HAT.out.kept HB.out)).mono ?_
    rintro e u2 ⟨⟨v, rfl, hown⟩, hb⟩
    have HO := Lib.hid (hown.mono HB.out.size)
    have HBn := Lib.hid (HB.out.trans (hb.mono HB.out.size))
    clear hown hb
    go_wp2
    go_ret
    exact ⟨⟨_, rfl, by rw [HN.out]; exact HO.out⟩, HBn.out⟩
set_option maxHeartbeats 4000000 in
set_option maxRecDepth 20000 in
theorem impl_wantsnow (h : Hd) (hw : h.wf) (hs : h.small) (A : Ad) (w : World) (k : HdAt w h A) (hcap : h.st.gs.length ≤ A.c0) :
    Calls Tryz.prog 12 #[hdV h A] w fun e w' => (∃ v, e = .returned v ∧ OwnI w' w.heap.size v (wantsV h)) ∧ Below w.heap.size w w' := by
  have hok := fun W kk => impl_herdok h hw hs A W kk hcap
  have hwt := fun (c : herdV h = true) W kk => impl_wants h hw hs (gs_len c).2 A W kk hcap
  unfold hdV at hok hwt ⊢
  have HOK := Lib.hid hok
  have HWT := Lib.hid hwt
  clear hok hwt hw hs
  have hb := box_below w #[.int .i64 h.st.rl.dl, .int .i64 h.st.rl.fr, .int .i64 h.st.rl.wi, .slice A.a0 h.st.gs.length A.c0, .slice A.a1 h.st.bh.up.ps.length A.c1, .int .i64 h.st.bh.up.sel, .int .i64 h.st.bh.up.win, .slice A.a2 h.st.bh.dn.ps.length A.c2, .int .i64 h.st.bh.dn.sel, .int .i64 h.st.bh.dn.win, .int .i64 h.st.bh.mn, .int .i64 h.st.bh.mx, .int .i64 h.now, .int .i64 h.cnt, .int .i64 h.rev, .slice A.a3 h.ps.length A.c3, .slice A.a4 h.ss.length A.c4, .slice A.a5 h.ns.length A.c5, .slice A.a6 h.ms.length A.c6, .int .i64 h.cnd, .int .i64 h.flt] 54
  have hk := cells_new w #[.int .i64 h.st.rl.dl, .int .i64 h.st.rl.fr, .int .i64 h.st.rl.wi, .slice A.a0 h.st.gs.length A.c0, .slice A.a1 h.st.bh.up.ps.length A.c1, .int .i64 h.st.bh.up.sel, .int .i64 h.st.bh.up.win, .slice A.a2 h.st.bh.dn.ps.length A.c2, .int .i64 h.st.bh.dn.sel, .int .i64 h.st.bh.dn.win, .int .i64 h.st.bh.mn, .int .i64 h.st.bh.mx, .int .i64 h.now, .int .i64 h.cnt, .int .i64 h.rev, .slice A.a3 h.ps.length A.c3, .slice A.a4 h.ss.length A.c4, .slice A.a5 h.ns.length A.c5, .slice A.a6 h.ms.length A.c6, .int .i64 h.cnd, .int .i64 h.flt] 54
  have HB := Lib.hid hb
  have K0 : Hid (CW21 _ w.heap.size _ _ _ _ _ _ _ _ _ _ _ _ _ _ _ _ _ _ _ _ _) := hk
  have HAT := Lib.hid k
  clear hb hk k
  go_enter Tryz.func12, Tryz.ntmps12
  go_wp2_with (first | (refine wpList_load_mid rfl 54 _ rfl w.heap.size 0 rfl [.int .i64 h.st.rl.dl, .int .i64 h.st.rl.fr, .int .i64 h.st.rl.wi, .slice A.a0 h.st.gs.length A.c0, .slice A.a1 h.st.bh.up.ps.length A.c1, .int .i64 h.st.bh.up.sel, .int .i64 h.st.bh.up.win, .slice A.a2 h.st.bh.dn.ps.length A.c2, .int .i64 h.st.bh.dn.sel, .int .i64 h.st.bh.dn.win, .int .i64 h.st.bh.mn, .int .i64 h.st.bh.mx, .int .i64 h.now, .int .i64 h.cnt, .int .i64 h.rev, .slice A.a3 h.ps.length A.c3, .slice A.a4 h.ss.length A.c4, .slice A.a5 h.ns.length A.c5, .slice A.a6 h.ms.length A.c6, .int .i64 h.cnd, .int .i64 h.flt] _ (range_all K0.out) Tryz.underlying54 rfl info_hd ?_))
  refine (HOK.out _ (HAT.out.kept HB.out)).mono ?_
  rintro e u1 ⟨rfl, hb⟩
  have HBn := Lib.hid (HB.out.trans (hb.mono HB.out.size))
  have K0n : Hid (CW21 u1 w.heap.size _ _ _ _ _ _ _ _ _ _ _ _ _ _ _ _ _ _ _ _ _) := CW21.kept K0.out hb
  clear HB K0 hb
  have HB := HBn
  have K0 := K0n
  clear HBn K0n
  cases hv : herdV h
  · have HN : Hid (wantsV h = []) := by show _ = _; unfold wantsV; rw [hv]; rfl
    clear hv
    go_wp2
    go_ret
    exact ⟨⟨_, rfl, by rw [HN.out]; exact OwnI.nil _ _⟩, HB.out⟩
  · have HN : Hid (wantsV h = wantsH h) := by show _ = _; unfold wantsV; rw [if_pos hv]
    have HW1 := Lib.hid (HWT.out hv)
    clear hv
    go_wp2_with (first | (refine wpList_load_mid rfl 54 _ rfl w.heap.size 0 rfl [.int .i64 h.st.rl.dl, .int .i64 h.st.rl.fr, .int .i64 h.st.rl.wi, .slice A.a0 h.st.gs.length A.c0, .slice A.a1 h.st.bh.up.ps.length A.c1, .int .i64 h.st.bh.up.sel, .int .i64 h.st.bh.up.win, .slice A.a2 h.st.bh.dn.ps.length A.c2, .int .i64 h.st.bh.dn.sel, .int .i64 h.st.bh.dn.win, .int .i64 h.st.bh.mn, .int .i64 h.st.bh.mx, .int .i64 h.now, .int .i64 h.cnt, .int .i64 h.rev, .slice A.a3 h.ps.length A.c3, .slice A.a4 h.ss.length A.c4, .slice A.a5 h.ns.length A.c5, .slice A.a6 h.ms.length A.c6, .int .i64 h.cnd, .int .i64 h.flt] _ (range_all K0.out) Tryz.underlying54 rfl info_hd ?_))
    refine (HW1.out _ (HAT.out.kept HB.out)).mono ?_
    rintro e u2 ⟨⟨v, rfl, hown⟩, hb⟩
    have HO := Lib.hid (hown.mono HB.out.size)
    have HBn := Lib.hid (HB.out.trans (hb.mono HB.out.size))
    clear hown hb
    go_wp2
    go_ret
    exact ⟨⟨_, rfl, by rw [HN.out]; exact HO.out⟩, HBn.out⟩
set_option maxHeartbeats 4000000 in
set_option maxRecDepth 20000 in
theorem impl_law (h : Hd) (hw : h.wf) (hs : h.small) (A : Ad) (w : World) (k : HdAt w h A) (hv : herdV h = true) (hcap : h.st.gs.length ≤ A.c0) :
    Calls Tryz.prog 56 #[hdV h A] w fun e w' => e = .returned (.int .i64 (lawH h)) ∧ Below w.heap.size w w' := by
  have hwt := fun W kk => impl_wants h hw hs (gs_len hv).2 A W kk hcap
  have hws := wants_ok hv
  have hxl : (wantsH h).length ≤ 3 := by rw [wants_len]; exact (gs_len hv).2
  have hlaw : lawH h = if h.cnt = 0 ∨ mxL (wantsH h) = -1 then -1 else combV h.cnt (wantsH h) := rfl
  obtain ⟨L, hL⟩ : ∃ L, lawH h = L := ⟨_, rfl⟩
  rw [hL] at hlaw ⊢
  clear hL
  unfold hdV at hwt ⊢
  have HWT := Lib.hid hwt
  clear hwt hw hs hcap hv
  have hb := box_below w #[.int .i64 h.st.rl.dl, .int .i64 h.st.rl.fr, .int .i64 h.st.rl.wi, .slice A.a0 h.st.gs.length A.c0, .slice A.a1 h.st.bh.up.ps.length A.c1, .int .i64 h.st.bh.up.sel, .int .i64 h.st.bh.up.win, .slice A.a2 h.st.bh.dn.ps.length A.c2, .int .i64 h.st.bh.dn.sel, .int .i64 h.st.bh.dn.win, .int .i64 h.st.bh.mn, .int .i64 h.st.bh.mx, .int .i64 h.now, .int .i64 h.cnt, .int .i64 h.rev, .slice A.a3 h.ps.length A.c3, .slice A.a4 h.ss.length A.c4, .slice A.a5 h.ns.length A.c5, .slice A.a6 h.ms.length A.c6, .int .i64 h.cnd, .int .i64 h.flt] 54
  have hk := cells_new w #[.int .i64 h.st.rl.dl, .int .i64 h.st.rl.fr, .int .i64 h.st.rl.wi, .slice A.a0 h.st.gs.length A.c0, .slice A.a1 h.st.bh.up.ps.length A.c1, .int .i64 h.st.bh.up.sel, .int .i64 h.st.bh.up.win, .slice A.a2 h.st.bh.dn.ps.length A.c2, .int .i64 h.st.bh.dn.sel, .int .i64 h.st.bh.dn.win, .int .i64 h.st.bh.mn, .int .i64 h.st.bh.mx, .int .i64 h.now, .int .i64 h.cnt, .int .i64 h.rev, .slice A.a3 h.ps.length A.c3, .slice A.a4 h.ss.length A.c4, .slice A.a5 h.ns.length A.c5, .slice A.a6 h.ms.length A.c6, .int .i64 h.cnd, .int .i64 h.flt] 54
  have HB := Lib.hid hb
  have K0 : Hid (CW21 _ w.heap.size _ _ _ _ _ _ _ _ _ _ _ _ _ _ _ _ _ _ _ _ _) := hk
  have HAT := Lib.hid k
  clear hb hk k
  go_enter Tryz.func56, Tryz.ntmps56
  go_wp2_with (first | (refine wpList_load_mid rfl 54 _ rfl w.heap.size 0 rfl [.int .i64 h.st.rl.dl, .int .i64 h.st.rl.fr, .int .i64 h.st.rl.wi, .slice A.a0 h.st.gs.length A.c0, .slice A.a1 h.st.bh.up.ps.length A.c1, .int .i64 h.st.bh.up.sel, .int .i64 h.st.bh.up.win, .slice A.a2 h.st.bh.dn.ps.length A.c2, .int .i64 h.st.bh.dn.sel, .int .i64 h.st.bh.dn.win, .int .i64 h.st.bh.mn, .int .i64 h.st.bh.mx, .int .i64 h.now, .int .i64 h.cnt, .int .i64 h.rev, .slice A.a3 h.ps.length A.c3, .slice A.a4 h.ss.length A.c4, .slice A.a5 h.ns.length A.c5, .slice A.a6 h.ms.length A.c6, .int .i64 h.cnd, .int .i64 h.flt] _ (range_all K0.out) Tryz.underlying54 rfl info_hd ?_))
  refine (HWT.out _ (HAT.out.kept HB.out)).mono ?_
  rintro e u1 ⟨⟨v, rfl, hown⟩, hb⟩
  have HBn := Lib.hid (HB.out.trans (hb.mono HB.out.size))
  have K0n : Hid (CW21 u1 w.heap.size _ _ _ _ _ _ _ _ _ _ _ _ _ _ _ _ _ _ _ _ _) := CW21.kept K0.out hb
  clear HB K0 hb
  have HB := HBn
  have K0 := K0n
  clear HBn K0n
  obtain ⟨xs, hxs⟩ : ∃ xs, wantsH h = xs := ⟨_, rfl⟩
  rw [hxs] at hown hws hxl hlaw
  obtain ⟨va, vc, rfl, hin⟩ := OwnI.ints hown
  have HI := Lib.hid hin
  have HX := Lib.hid hlaw
  have HWS := Lib.hid hws
  clear hlaw hxs hown hin HWT
  obtain ⟨⟨p0, p1, p2, p3, p4, p5, p6, p7, p8, p9, p10, p11, p12, p13, p14, p15, p16, p17, p18, p19, p20⟩, -⟩ := K0.out.get
  by_cases h0 : h.cnt = 0
  · have HN : Hid (-1 = L) := by show _ = _; rw [HX.out, if_pos (.inl h0)]
    have hc0 : (h.cnt == 0) = true := by simp [h0]
    clear h0 HX hws
    go_wp2
    go_ret
    exact ⟨ret1I HN.out, HB.out⟩
  · have hc0 : (h.cnt == 0) = false := by simp [h0]
    by_cases hm : mxL xs = -1
    · have HN : Hid (-1 = L) := by show _ = _; rw [HX.out, if_pos (.inr hm)]
      have hc1 : (mxL xs == -1) = true := by simp [hm]
      clear h0 HX hm hws
      go_wp2_with (go_at_call 107; refine (max_of xs va vc _ HI.out HWS.out).mono ?_; rintro e u2 ⟨rfl, rfl⟩)
      go_ret
      exact ⟨ret1I HN.out, HB.out⟩
    · have HN : Hid (combV h.cnt xs = L) := by show _ = _; rw [HX.out, if_neg (by rintro (e | e); exact h0 e; exact hm e)]
      have hc1 : (mxL xs == -1) = false := by simp [hm]
      clear h0 HX hm hws
      go_wp2_with (first
        | (go_at_call 107; refine (max_of xs va vc _ HI.out HWS.out).mono ?_; rintro e u2 ⟨rfl, rfl⟩)
        | (go_at_call 108; refine (impl_comb h.cnt xs va vc _ HI.out (by omega)).mono ?_; rintro e u3 ⟨rfl, rfl⟩))
      go_ret
      exact ⟨ret1I HN.out, HB.out⟩
set_option maxHeartbeats 4000000 in
set_option maxRecDepth 20000 in
theorem impl_lawnow (h : Hd) (hw : h.wf) (hs : h.small) (A : Ad) (w : World) (k : HdAt w h A) (hcap : h.st.gs.length ≤ A.c0) :
    Calls Tryz.prog 18 #[hdV h A] w fun e w' => e = .returned (.int .i64 (lawV h)) ∧ Below w.heap.size w w' := by
  have hok := fun W kk => impl_herdok h hw hs A W kk hcap
  have hlw := fun (c : herdV h = true) W kk => impl_law h hw hs A W kk c hcap
  unfold hdV at hok hlw ⊢
  have HOK := Lib.hid hok
  have HLW := Lib.hid hlw
  clear hok hlw hw hs hcap
  have hb := box_below w #[.int .i64 h.st.rl.dl, .int .i64 h.st.rl.fr, .int .i64 h.st.rl.wi, .slice A.a0 h.st.gs.length A.c0, .slice A.a1 h.st.bh.up.ps.length A.c1, .int .i64 h.st.bh.up.sel, .int .i64 h.st.bh.up.win, .slice A.a2 h.st.bh.dn.ps.length A.c2, .int .i64 h.st.bh.dn.sel, .int .i64 h.st.bh.dn.win, .int .i64 h.st.bh.mn, .int .i64 h.st.bh.mx, .int .i64 h.now, .int .i64 h.cnt, .int .i64 h.rev, .slice A.a3 h.ps.length A.c3, .slice A.a4 h.ss.length A.c4, .slice A.a5 h.ns.length A.c5, .slice A.a6 h.ms.length A.c6, .int .i64 h.cnd, .int .i64 h.flt] 54
  have hk := cells_new w #[.int .i64 h.st.rl.dl, .int .i64 h.st.rl.fr, .int .i64 h.st.rl.wi, .slice A.a0 h.st.gs.length A.c0, .slice A.a1 h.st.bh.up.ps.length A.c1, .int .i64 h.st.bh.up.sel, .int .i64 h.st.bh.up.win, .slice A.a2 h.st.bh.dn.ps.length A.c2, .int .i64 h.st.bh.dn.sel, .int .i64 h.st.bh.dn.win, .int .i64 h.st.bh.mn, .int .i64 h.st.bh.mx, .int .i64 h.now, .int .i64 h.cnt, .int .i64 h.rev, .slice A.a3 h.ps.length A.c3, .slice A.a4 h.ss.length A.c4, .slice A.a5 h.ns.length A.c5, .slice A.a6 h.ms.length A.c6, .int .i64 h.cnd, .int .i64 h.flt] 54
  have HB := Lib.hid hb
  have K0 : Hid (CW21 _ w.heap.size _ _ _ _ _ _ _ _ _ _ _ _ _ _ _ _ _ _ _ _ _) := hk
  have HAT := Lib.hid k
  clear hb hk k
  go_enter Tryz.func18, Tryz.ntmps18
  go_wp2_with (first | (refine wpList_load_mid rfl 54 _ rfl w.heap.size 0 rfl [.int .i64 h.st.rl.dl, .int .i64 h.st.rl.fr, .int .i64 h.st.rl.wi, .slice A.a0 h.st.gs.length A.c0, .slice A.a1 h.st.bh.up.ps.length A.c1, .int .i64 h.st.bh.up.sel, .int .i64 h.st.bh.up.win, .slice A.a2 h.st.bh.dn.ps.length A.c2, .int .i64 h.st.bh.dn.sel, .int .i64 h.st.bh.dn.win, .int .i64 h.st.bh.mn, .int .i64 h.st.bh.mx, .int .i64 h.now, .int .i64 h.cnt, .int .i64 h.rev, .slice A.a3 h.ps.length A.c3, .slice A.a4 h.ss.length A.c4, .slice A.a5 h.ns.length A.c5, .slice A.a6 h.ms.length A.c6, .int .i64 h.cnd, .int .i64 h.flt] _ (range_all K0.out) Tryz.underlying54 rfl info_hd ?_))
  refine (HOK.out _ (HAT.out.kept HB.out)).mono ?_
  rintro e u1 ⟨rfl, hb⟩
  have HBn := Lib.hid (HB.out.trans (hb.mono HB.out.size))
  have K0n : Hid (CW21 u1 w.heap.size _ _ _ _ _ _ _ _ _ _ _ _ _ _ _ _ _ _ _ _ _) := CW21.kept K0.out hb
  clear HB K0 hb
  have HB := HBn
  have K0 := K0n
  clear HBn K0n
  cases hv : herdV h
  · have HN : Hid (-1 = lawV h) := by show _ = _; unfold lawV; rw [hv]; rfl
    clear hv
    go_wp2
    go_ret
    exact ⟨ret1I HN.out, HB.out⟩
  · have HN : Hid (lawH h = lawV h) := by show _ = _; unfold lawV; rw [if_pos hv]
    have HW1 := Lib.hid (HLW.out hv)
    clear hv
    go_wp2_with (first | (refine wpList_load_mid rfl 54 _ rfl w.heap.size 0 rfl [.int .i64 h.st.rl.dl, .int .i64 h.st.rl.fr, .int .i64 h.st.rl.wi, .slice A.a0 h.st.gs.length A.c0, .slice A.a1 h.st.bh.up.ps.length A.c1, .int .i64 h.st.bh.up.sel, .int .i64 h.st.bh.up.win, .slice A.a2 h.st.bh.dn.ps.length A.c2, .int .i64 h.st.bh.dn.sel, .int .i64 h.st.bh.dn.win, .int .i64 h.st.bh.mn, .int .i64 h.st.bh.mx, .int .i64 h.now, .int .i64 h.cnt, .int .i64 h.rev, .slice A.a3 h.ps.length A.c3, .slice A.a4 h.ss.length A.c4, .slice A.a5 h.ns.length A.c5, .slice A.a6 h.ms.length A.c6, .int .i64 h.cnd, .int .i64 h.flt] _ (range_all K0.out) Tryz.underlying54 rfl info_hd ?_))
    refine (HW1.out _ (HAT.out.kept HB.out)).mono ?_
    rintro e u2 ⟨rfl, hb⟩
    have HBn := Lib.hid (HB.out.trans (hb.mono HB.out.size))
    clear hb
    go_wp2
    go_ret
    exact ⟨ret1I HN.out, HBn.out⟩
set_option maxHeartbeats 4000000 in
set_option maxRecDepth 20000 in
theorem spec_lawnow (h : Hd) (hw : h.wf) (hs : h.small) (A : Ad) (w : World) (k : HdAt w h A) :
    Calls Tryz.prog 17 #[hdV h A] w fun e w' => e = .returned (.int .i64 (lawV h)) ∧ Below w.heap.size w w' := by
  have hok := fun W kk => spec_herdok h hw hs A W kk
  have hwn := fun W kk => spec_wantsnow h hw hs A W kk
  obtain ⟨L, hL⟩ : ∃ L, lawV h = L := ⟨_, rfl⟩
  have HLL := Lib.hid hL
  rw [hL]
  clear hL
  unfold hdV at hok hwn ⊢
  have HOK := Lib.hid hok
  have HWN := Lib.hid hwn
  clear hok hwn hw hs
  have hb := box_below w #[.int .i64 h.st.rl.dl, .int .i64 h.st.rl.fr, .int .i64 h.st.rl.wi, .slice A.a0 h.st.gs.length A.c0, .slice A.a1 h.st.bh.up.ps.length A.c1, .int .i64 h.st.bh.up.sel, .int .i64 h.st.bh.up.win, .slice A.a2 h.st.bh.dn.ps.length A.c2, .int .i64 h.st.bh.dn.sel, .int .i64 h.st.bh.dn.win, .int .i64 h.st.bh.mn, .int .i64 h.st.bh.mx, .int .i64 h.now, .int .i64 h.cnt, .int .i64 h.rev, .slice A.a3 h.ps.length A.c3, .slice A.a4 h.ss.length A.c4, .slice A.a5 h.ns.length A.c5, .slice A.a6 h.ms.length A.c6, .int .i64 h.cnd, .int .i64 h.flt] 54
  have hk := cells_new w #[.int .i64 h.st.rl.dl, .int .i64 h.st.rl.fr, .int .i64 h.st.rl.wi, .slice A.a0 h.st.gs.length A.c0, .slice A.a1 h.st.bh.up.ps.length A.c1, .int .i64 h.st.bh.up.sel, .int .i64 h.st.bh.up.win, .slice A.a2 h.st.bh.dn.ps.length A.c2, .int .i64 h.st.bh.dn.sel, .int .i64 h.st.bh.dn.win, .int .i64 h.st.bh.mn, .int .i64 h.st.bh.mx, .int .i64 h.now, .int .i64 h.cnt, .int .i64 h.rev, .slice A.a3 h.ps.length A.c3, .slice A.a4 h.ss.length A.c4, .slice A.a5 h.ns.length A.c5, .slice A.a6 h.ms.length A.c6, .int .i64 h.cnd, .int .i64 h.flt] 54
  have HB := Lib.hid hb
  have K0 : Hid (CW21 _ w.heap.size _ _ _ _ _ _ _ _ _ _ _ _ _ _ _ _ _ _ _ _ _) := hk
  have HAT := Lib.hid k
  clear hb hk k
  go_enter Tryz.func17, Tryz.ntmps17
  go_wp2_with (first | (refine wpList_load_mid rfl 54 _ rfl w.heap.size 0 rfl [.int .i64 h.st.rl.dl, .int .i64 h.st.rl.fr, .int .i64 h.st.rl.wi, .slice A.a0 h.st.gs.length A.c0, .slice A.a1 h.st.bh.up.ps.length A.c1, .int .i64 h.st.bh.up.sel, .int .i64 h.st.bh.up.win, .slice A.a2 h.st.bh.dn.ps.length A.c2, .int .i64 h.st.bh.dn.sel, .int .i64 h.st.bh.dn.win, .int .i64 h.st.bh.mn, .int .i64 h.st.bh.mx, .int .i64 h.now, .int .i64 h.cnt, .int .i64 h.rev, .slice A.a3 h.ps.length A.c3, .slice A.a4 h.ss.length A.c4, .slice A.a5 h.ns.length A.c5, .slice A.a6 h.ms.length A.c6, .int .i64 h.cnd, .int .i64 h.flt] _ (range_all K0.out) Tryz.underlying54 rfl info_hd ?_))
  refine (HWN.out _ (HAT.out.kept HB.out)).mono ?_
  rintro e u1 ⟨⟨v, rfl, hown⟩, hb⟩
  have HBn := Lib.hid (HB.out.trans (hb.mono HB.out.size))
  have K0n : Hid (CW21 u1 w.heap.size _ _ _ _ _ _ _ _ _ _ _ _ _ _ _ _ _ _ _ _ _) := CW21.kept K0.out hb
  clear HB K0 hb
  have HB := HBn
  have K0 := K0n
  clear HBn K0n
  obtain ⟨va, vc, rfl, hin⟩ := OwnI.ints hown
  have HI := Lib.hid hin
  clear hown hin
  go_wp2_with (first | (refine wpList_load_mid rfl 54 _ rfl w.heap.size 0 rfl [.int .i64 h.st.rl.dl, .int .i64 h.st.rl.fr, .int .i64 h.st.rl.wi, .slice A.a0 h.st.gs.length A.c0, .slice A.a1 h.st.bh.up.ps.length A.c1, .int .i64 h.st.bh.up.sel, .int .i64 h.st.bh.up.win, .slice A.a2 h.st.bh.dn.ps.length A.c2, .int .i64 h.st.bh.dn.sel, .int .i64 h.st.bh.dn.win, .int .i64 h.st.bh.mn, .int .i64 h.st.bh.mx, .int .i64 h.now, .int .i64 h.cnt, .int .i64 h.rev, .slice A.a3 h.ps.length A.c3, .slice A.a4 h.ss.length A.c4, .slice A.a5 h.ns.length A.c5, .slice A.a6 h.ms.length A.c6, .int .i64 h.cnd, .int .i64 h.flt] _ (range_all K0.out) Tryz.underlying54 rfl info_hd ?_))
  refine (HOK.out _ (HAT.out.kept HB.out)).mono ?_
  rintro e u2 ⟨rfl, hb⟩
  have HI2 := Lib.hid (HI.out.kept hb)
  have HBn := Lib.hid (HB.out.trans (hb.mono HB.out.size))
  have K0n : Hid (CW21 u2 w.heap.size _ _ _ _ _ _ _ _ _ _ _ _ _ _ _ _ _ _ _ _ _) := CW21.kept K0.out hb
  clear HB K0 hb
  have HB := HBn
  have K0 := K0n
  clear HBn K0n
  clear HI
  obtain ⟨⟨p0, p1, p2, p3, p4, p5, p6, p7, p8, p9, p10, p11, p12, p13, p14, p15, p16, p17, p18, p19, p20⟩, -⟩ := K0.out.get
  cases hv : herdV h
  · have HN : Hid (-1 = L) := by show _ = _; rw [← HLL.out]; unfold lawV; rw [hv]; rfl
    clear hv
    go_wp2
    go_ret
    exact ⟨ret1I HN.out, HB.out⟩
  · have hws := wants_ok hv
    have hxl : (wantsH h).length ≤ 3 := by rw [wants_len]; exact (gs_len hv).2
    have hlaw : lawV h = if h.cnt = 0 ∨ mxL (wantsH h) = -1 then -1 else combV h.cnt (wantsH h) := by unfold lawV; rw [if_pos hv]; rfl
    have hwv : wantsV h = wantsH h := by unfold wantsV; rw [if_pos hv]
    obtain ⟨xs, hxs⟩ : ∃ xs, wantsH h = xs := ⟨_, rfl⟩
    rw [hwv] at HI2 ⊢
    rw [hxs] at HI2 hxl hlaw ⊢
    rw [HLL.out] at hlaw
    have HX := Lib.hid hlaw
    have hbl := fun W hi => spec_blind xs va vc W hi (by omega)
    rw [blind_mx] at hbl
    have HBL := Lib.hid hbl
    clear hlaw hxs hv hws hwv hbl HLL
    by_cases h0 : h.cnt = 0
    · have HN : Hid (-1 = L) := by show _ = _; rw [HX.out, if_pos (.inl h0)]
      have hc0 : (h.cnt == 0) = true := by simp [h0]
      clear h0 HX
      go_wp2
      go_ret
      exact ⟨ret1I HN.out, HB.out⟩
    · have hc0 : (h.cnt == 0) = false := by simp [h0]
      by_cases hm : mxL xs = -1
      · have HN : Hid (-1 = L) := by show _ = _; rw [HX.out, if_pos (.inr hm)]
        have hc1 : (mxL xs == -1) = true := by simp [hm]
        rw [hc1] at HBL
        clear h0 HX hm
        go_wp2_with (go_at_call 54; refine (HBL.out _ HI2.out).mono ?_; rintro e u3 ⟨rfl, rfl⟩)
        go_ret
        exact ⟨ret1I HN.out, HB.out⟩
      · have HN : Hid (combV h.cnt xs = L) := by show _ = _; rw [HX.out, if_neg (by rintro (e | e); exact h0 e; exact hm e)]
        have hc1 : (mxL xs == -1) = false := by simp [hm]
        rw [hc1] at HBL
        clear h0 HX hm
        go_wp2_with (first
          | (go_at_call 54; refine (HBL.out _ HI2.out).mono ?_; rintro e u3 ⟨rfl, rfl⟩)
          | (go_at_call 55; refine (spec_comb h.cnt xs va vc _ HI2.out (by omega)).mono ?_; rintro e u4 ⟨rfl, rfl⟩))
        go_ret
        exact ⟨ret1I HN.out, HB.out⟩
end Go.Proofs.YtgmdfkmmbcpikaaGreat.Law8
