/- HerdOk: both sides. -/
import Derived.Test.YtgmdfkmmbcpikaaGreatHdA
import Derived.Test.YtgmdfkmmbcpikaaGreatSup
import Derived.Test.YtgmdfkmmbcpikaaGreatRosA
import Derived.Test.YtgmdfkmmbcpikaaGreatStoL
import Derived.Test.YtgmdfkmmbcpikaaGreatLogS
import Derived.Test.YtgmdfkmmbcpikaaGreatLogI
import Derived.BigQuiet
import Derived.BigFrame
import Derived.Deep.MidRow
namespace Go.Proofs.YtgmdfkmmbcpikaaGreat.Hok
open Go.RowKit Go.Deep
open Go.Proofs.YtgmdfkmmbcpikaaGreat.C1
open Go.Proofs.YtgmdfkmmbcpikaaGreat.C2
open Go.Proofs.YtgmdfkmmbcpikaaGreat.Smps
open Go.Proofs.YtgmdfkmmbcpikaaGreat.Mem
open Go.Proofs.YtgmdfkmmbcpikaaGreat.Ser
open Go.Proofs.YtgmdfkmmbcpikaaGreat.Ser2 (cells_new zeroP)
open Go.Proofs.YtgmdfkmmbcpikaaGreat.Pd
open Go.Proofs.YtgmdfkmmbcpikaaGreat.Pds
open Go.Proofs.YtgmdfkmmbcpikaaGreat.Gl
open Go.Proofs.YtgmdfkmmbcpikaaGreat.Gls
open Go.Proofs.YtgmdfkmmbcpikaaGreat.Pl
open Go.Proofs.YtgmdfkmmbcpikaaGreat.BhM
open Go.Proofs.YtgmdfkmmbcpikaaGreat.Set
open Go.Proofs.YtgmdfkmmbcpikaaGreat.Hd
set_option linter.unusedVariables false

/-- No entry is later than now, in a log whose last one is its latest. -/
def endV (ls : List Pt) (now : Int) : Bool := decide (ls.length = 0) || decide ((ls.getD (ls.length - 1) zeroP).tick ≤ now)
theorem end_nil {ls : List Pt} {now : Int} (h : ls.length = 0) : endV ls now = true := by unfold endV; simp [h]
theorem end_at {ls : List Pt} {now : Int} (k : Nat) (hk : k + 1 = ls.length) : endV ls now = decide (ls[k].tick ≤ now) := by
  unfold endV
  have e : ls.length - 1 = k := by omega
  have e0 : ¬ ls.length = 0 := by omega
  have hkl : k < ls.length := by omega
  rw [e]
  simp [e0, List.getD, hkl]
noncomputable def partsV (h : Hd) : List Bool := [endV h.ns h.now, endV h.ms h.now, Sup.setV h.st, tickV h.now, countV h.cnt, tickV h.rev, Ros.podsV h.ps, Sto.storeV h.ss, logV noteV h.ns, logV moveV h.ms, inV h.cnd 0 5, inV h.flt 0 10]
noncomputable def herdV (h : Hd) : Bool := (partsV h).all id
theorem herd_no {h : Hd} {b : Bool} (hm : b ∈ partsV h) (hb : b = false) : herdV h = false := by
  subst hb
  cases c : herdV h
  · rfl
  · have := List.all_eq_true.1 c false hm
    cases this
theorem herd_yes {h : Hd} (h0 : endV h.ns h.now = true) (h1 : endV h.ms h.now = true) (h2 : Sup.setV h.st = true) (h3 : tickV h.now = true) (h4 : countV h.cnt = true) (h5 : tickV h.rev = true) (h6 : Ros.podsV h.ps = true) (h7 : Sto.storeV h.ss = true) (h8 : logV noteV h.ns = true) (h9 : logV moveV h.ms = true) (h10 : inV h.cnd 0 5 = true) (h11 : inV h.flt 0 10 = true) : herdV h = true := by
  unfold herdV partsV
  simp [h0, h1, h2, h3, h4, h5, h6, h7, h8, h9, h10, h11]
/-- What a valid herd's parts say. -/
theorem herd_parts {h : Hd} (c : herdV h = true) : endV h.ns h.now = true ∧ endV h.ms h.now = true ∧ Sup.setV h.st = true ∧ tickV h.now = true ∧ countV h.cnt = true ∧ tickV h.rev = true ∧ Ros.podsV h.ps = true ∧ Sto.storeV h.ss = true ∧ logV noteV h.ns = true ∧ logV moveV h.ms = true ∧ inV h.cnd 0 5 = true ∧ inV h.flt 0 10 = true := by
  unfold herdV partsV at c
  simpa using c
/-! ### Stores told by their series. -/
theorem spec_storeS (ss : List Ser) (ms : List Sv) (hs : ms.map Sv.s = ss) (hwf : ∀ s ∈ ss, s.wf) (a : Option Addr) (cap : Nat) (w : World) (h : Srs w a ms) (hm : ss.length ≤ 1048576) :
    Calls Tryz.prog 28 #[.slice a ss.length cap] w fun e w' => e = .returned (.bool (Sto.storeV ss)) ∧ Below w.heap.size w w' := by
  subst hs
  rw [List.length_map] at *
  exact StoS.spec_store ms a cap w (fun l hl => hwf _ (List.mem_map_of_mem hl)) h hm
theorem impl_storeS (ss : List Ser) (ms : List Sv) (hs : ms.map Sv.s = ss) (hwf : ∀ s ∈ ss, s.wf) (hpl : ∀ s ∈ ss, s.pts.length ≤ 1048576) (a : Option Addr) (cap : Nat) (w : World) (h : Srs w a ms) (hm : ss.length ≤ 1048576) :
    Calls Tryz.prog 40 #[.slice a ss.length cap] w fun e w' => e = .returned (.bool (Sto.storeV ss)) ∧ Below w.heap.size w w' := by
  subst hs
  rw [List.length_map] at *
  exact StoI.impl_store ms a cap w (fun l hl => hwf _ (List.mem_map_of_mem hl)) (fun l hl => hpl _ (List.mem_map_of_mem hl)) h hm
/-! ### The program's endsBy. -/
theorem ends_note (ls : List Pt) (a : Option Addr) (cap : Nat) (now : Int) (w : World) (h : Pts w a ls) (hm : ls.length ≤ 1048576) :
    Calls Tryz.prog 91 #[.slice a ls.length cap, .int .i64 now] w fun e w' => e = .returned (.bool (endV ls now)) ∧ Below w.heap.size w w' := by
  obtain ⟨b, off, ha, hb, hcell⟩ := h.cells
  by_cases h0 : ls.length = 0
  · rw [end_nil h0]
    have hl : ls = [] := List.eq_nil_of_length_eq_zero h0
    subst hl
    clear h0 hcell hb ha h
    go_enter Tryz.func91, Tryz.ntmps91
    go_wp2
    go_ret
    exact ⟨rfl, Below.refl _ _⟩
  · obtain ⟨k, hk⟩ : ∃ k, k + 1 = ls.length := ⟨ls.length - 1, by omega⟩
    rw [end_at k hk]
    have hkl : k < ls.length := by omega
    obtain ⟨p, hp⟩ : ∃ p, ls[k] = p := ⟨_, rfl⟩
    obtain ⟨q0, q1⟩ := hcell k hkl
    rw [hp] at q0 q1 ⊢
    obtain rfl := ha (by omega)
    have hb := hb (by omega)
    obtain ⟨n, hn⟩ : ∃ n, ls.length = n := ⟨_, rfl⟩
    rw [hn] at hk hm ⊢
    have hpos : 0 < n := by omega
    have hkn : k < n := by omega
    have hn1 : ((n : Int) - 1) = (k : Int) := by omega
    have hne : ((n : Int) == 0) = false := by simp; omega
    have hkw : IntKind.i64.wrap (k : Int) = k := by rw [IntKind.wrap_i64]; omega
    have mixed : Tryz.prog.follows .mixedOrders = true := by kernel_rfl
    have hm1 := fun W => LogI.note_mtick p W
    have ht := fun W => LogI.note_tick p W
    clear h0 hcell hp hn h
    go_enter Tryz.func91, Tryz.ntmps91
    go_wp2_with (go_at_call 296; refine (ht _).mono ?_; rintro e w2 ⟨rfl, hb2⟩)
    go_ret
    exact ⟨rfl, hb2⟩
theorem ends_move (ls : List Pt) (a : Option Addr) (cap : Nat) (now : Int) (w : World) (h : Pts w a ls) (hm : ls.length ≤ 1048576) :
    Calls Tryz.prog 92 #[.slice a ls.length cap, .int .i64 now] w fun e w' => e = .returned (.bool (endV ls now)) ∧ Below w.heap.size w w' := by
  obtain ⟨b, off, ha, hb, hcell⟩ := h.cells
  by_cases h0 : ls.length = 0
  · rw [end_nil h0]
    have hl : ls = [] := List.eq_nil_of_length_eq_zero h0
    subst hl
    clear h0 hcell hb ha h
    go_enter Tryz.func92, Tryz.ntmps92
    go_wp2
    go_ret
    exact ⟨rfl, Below.refl _ _⟩
  · obtain ⟨k, hk⟩ : ∃ k, k + 1 = ls.length := ⟨ls.length - 1, by omega⟩
    rw [end_at k hk]
    have hkl : k < ls.length := by omega
    obtain ⟨p, hp⟩ : ∃ p, ls[k] = p := ⟨_, rfl⟩
    obtain ⟨q0, q1⟩ := hcell k hkl
    rw [hp] at q0 q1 ⊢
    obtain rfl := ha (by omega)
    have hb := hb (by omega)
    obtain ⟨n, hn⟩ : ∃ n, ls.length = n := ⟨_, rfl⟩
    rw [hn] at hk hm ⊢
    have hpos : 0 < n := by omega
    have hkn : k < n := by omega
    have hn1 : ((n : Int) - 1) = (k : Int) := by omega
    have hne : ((n : Int) == 0) = false := by simp; omega
    have hkw : IntKind.i64.wrap (k : Int) = k := by rw [IntKind.wrap_i64]; omega
    have mixed : Tryz.prog.follows .mixedOrders = true := by kernel_rfl
    have hm1 := fun W => LogI.move_mtick p W
    have ht := fun W => LogI.move_tick p W
    clear h0 hcell hp hn h
    go_enter Tryz.func92, Tryz.ntmps92
    go_wp2_with (go_at_call 298; refine (ht _).mono ?_; rintro e w2 ⟨rfl, hb2⟩)
    go_ret
    exact ⟨rfl, hb2⟩
end Go.Proofs.YtgmdfkmmbcpikaaGreat.Hok

/- HerdOk: the model, a case. -/
namespace Go.Proofs.YtgmdfkmmbcpikaaGreat.Hok
open Go.RowKit Go.Deep
open Go.Proofs.YtgmdfkmmbcpikaaGreat.C1
open Go.Proofs.YtgmdfkmmbcpikaaGreat.C2
open Go.Proofs.YtgmdfkmmbcpikaaGreat.Smps
open Go.Proofs.YtgmdfkmmbcpikaaGreat.Mem
open Go.Proofs.YtgmdfkmmbcpikaaGreat.Ser
open Go.Proofs.YtgmdfkmmbcpikaaGreat.Ser2 (cells_new zeroP)
open Go.Proofs.YtgmdfkmmbcpikaaGreat.Pd
open Go.Proofs.YtgmdfkmmbcpikaaGreat.Pds
open Go.Proofs.YtgmdfkmmbcpikaaGreat.Gl
open Go.Proofs.YtgmdfkmmbcpikaaGreat.Gls
open Go.Proofs.YtgmdfkmmbcpikaaGreat.Pl
open Go.Proofs.YtgmdfkmmbcpikaaGreat.BhM
open Go.Proofs.YtgmdfkmmbcpikaaGreat.Set
open Go.Proofs.YtgmdfkmmbcpikaaGreat.Hd
set_option linter.unusedVariables false

set_option maxHeartbeats 4000000 in
set_option maxRecDepth 20000 in
theorem spec_herdok00 (h : Hd) (hw : h.wf) (hs : h.small) (A : Ad) (w : World) (k : HdAt w h A) (hn0 : h.ns.length = 0) (hm0 : h.ms.length = 0) :
    Calls Tryz.prog 7 #[hdV h A] w fun e w' => e = .returned (.bool (herdV h)) ∧ Below w.heap.size w w' := by
  obtain ⟨a0, c0, a1, c1, a2, c2, a3, c3, a4, c4, a5, c5, a6, c6⟩ := A
  have HK := Lib.hid k
  have HW := Lib.hid hw
  have HS := Lib.hid hs
  clear k hw hs
  obtain ⟨ls, hls, hsr⟩ := HK.out.s
  have HLS := Lib.hid hls
  have HSR := Lib.hid hsr
  clear hls hsr
  have key : ∀ (lg : List Pt) (a : Option Addr) (h0 : Pts w a lg), (lg.length = 0) ∨ (∃ (k b off : Nat) (t : Int), k + 1 = lg.length ∧ a = some ⟨b, off, none⟩ ∧ b < w.heap.size ∧ w.cell? ⟨b, off + k * 2, none⟩ = some (.int .i64 t) ∧ endV lg h.now = decide (t ≤ h.now)) := by
    intro lg a h0
    obtain ⟨b, off, ha, hb, hcell⟩ := h0.cells
    by_cases e : lg.length = 0
    · exact .inl e
    · have hk : lg.length - 1 + 1 = lg.length := by omega
      exact .inr ⟨lg.length - 1, b, off, lg[lg.length - 1].tick, hk, ha (by omega), hb (by omega), (hcell _ (by omega)).1, end_at _ hk⟩
  have hN := key h.ns a5 HK.out.n
  have hM := key h.ms a6 HK.out.m
  clear key
  have hnl := HS.out.ns
  have hml := HS.out.ms
  obtain ⟨nn, hnn⟩ : ∃ n, h.ns.length = n := ⟨_, rfl⟩
  obtain ⟨mm, hmm⟩ : ∃ n, h.ms.length = n := ⟨_, rfl⟩
  have mixed : Tryz.prog.follows .mixedOrders = true := by kernel_rfl
  have hb := box_below w #[.int .i64 h.st.rl.dl, .int .i64 h.st.rl.fr, .int .i64 h.st.rl.wi, .slice a0 h.st.gs.length c0, .slice a1 h.st.bh.up.ps.length c1, .int .i64 h.st.bh.up.sel, .int .i64 h.st.bh.up.win, .slice a2 h.st.bh.dn.ps.length c2, .int .i64 h.st.bh.dn.sel, .int .i64 h.st.bh.dn.win, .int .i64 h.st.bh.mn, .int .i64 h.st.bh.mx, .int .i64 h.now, .int .i64 h.cnt, .int .i64 h.rev, .slice a3 h.ps.length c3, .slice a4 h.ss.length c4, .slice a5 h.ns.length c5, .slice a6 h.ms.length c6, .int .i64 h.cnd, .int .i64 h.flt] 54
  have hk := cells_new w #[.int .i64 h.st.rl.dl, .int .i64 h.st.rl.fr, .int .i64 h.st.rl.wi, .slice a0 h.st.gs.length c0, .slice a1 h.st.bh.up.ps.length c1, .int .i64 h.st.bh.up.sel, .int .i64 h.st.bh.up.win, .slice a2 h.st.bh.dn.ps.length c2, .int .i64 h.st.bh.dn.sel, .int .i64 h.st.bh.dn.win, .int .i64 h.st.bh.mn, .int .i64 h.st.bh.mx, .int .i64 h.now, .int .i64 h.cnt, .int .i64 h.rev, .slice a3 h.ps.length c3, .slice a4 h.ss.length c4, .slice a5 h.ns.length c5, .slice a6 h.ms.length c6, .int .i64 h.cnd, .int .i64 h.flt] 54
  have HB := Lib.hid hb
  have K0 : Hid (CW21 _ w.heap.size _ _ _ _ _ _ _ _ _ _ _ _ _ _ _ _ _ _ _ _ _) := hk
  clear hb hk
  dsimp only [hdV]
  have CN : Hid (∀ W, Pts W a5 h.ns → Calls Tryz.prog 29 #[.slice a5 nn c5] W fun e w' => e = .returned (.bool (logV noteV h.ns)) ∧ Below W.heap.size W w') := fun W hp => by
    have := LogS.spec_notesok h.ns a5 c5 W hp HS.out.ns
    rw [hnn] at this
    exact this
  have CM : Hid (∀ W, Pts W a6 h.ms → Calls Tryz.prog 30 #[.slice a6 mm c6] W fun e w' => e = .returned (.bool (logV moveV h.ms)) ∧ Below W.heap.size W w') := fun W hp => by
    have := LogS.spec_movesok h.ms a6 c6 W hp HS.out.ms
    rw [hmm] at this
    exact this
  have HE0 : Hid (nn = 0 → endV h.ns h.now = true) := fun e => end_nil (by omega)
  have HE9 : Hid (mm = 0 → endV h.ms h.now = true) := fun e => end_nil (by omega)
  simp only [hnn, hmm] at hN hM hnl hml hn0 hm0 HB K0 ⊢
  clear hnn hmm
  rcases hN with hN | ⟨kn, bn, fn, tn, hkn, han, hbn, hcn, hen⟩
  · have HE1 := Lib.hid (HE0.out hN)
    clear HE0
    subst hN
    rcases hM with hM | ⟨km, bm, fm, tm, hkm, ham, hbm, hcm, hem⟩
    · have HE2 := Lib.hid (HE9.out hM)
      clear HE9
      subst hM
      go_enter Tryz.func7, Tryz.ntmps7
      go_wp2_with fail
      have yl := later_cell K0.out.1 (K0.out.2 17 (by simp)).1
      have yn := later_cell K0.out.1 (K0.out.2 12 (by simp)).1
      simp only [List.getElem_cons_zero, List.getElem_cons_succ] at yl yn
      refine region_later mixed (by kernel_rfl) ?_
      repeat (go_big_quiet_step (fail))
      refine wpQuiet_nil ?_
      intro wd1 hw'
      obtain ⟨⟨wd1, hwd⟩, rfl⟩ := hw'
      have HBn := Lib.hid (HB.out.trans (hwd.mono HB.out.size))
      have K0n : Hid (CW21 wd1 w.heap.size _ _ _ _ _ _ _ _ _ _ _ _ _ _ _ _ _ _ _ _ _) := CW21.kept K0.out hwd
      clear HB K0 yl yn hwd   
      have HB := HBn
      have K0 := K0n
      clear HBn K0n
      obtain ⟨⟨p0, p1, p2, p3, p4, p5, p6, p7, p8, p9, p10, p11, p12, p13, p14, p15, p16, p17, p18, p19, p20⟩, -⟩ := K0.out.get
      go_wp2_with fail
      have yl := later_cell K0.out.1 (K0.out.2 18 (by simp)).1
      have yn := later_cell K0.out.1 (K0.out.2 12 (by simp)).1
      simp only [List.getElem_cons_zero, List.getElem_cons_succ] at yl yn
      refine region_later mixed (by kernel_rfl) ?_
      repeat (go_big_quiet_step (fail))
      refine wpQuiet_nil ?_
      intro wd2 hw'
      obtain ⟨⟨wd2, hwd⟩, rfl⟩ := hw'
      have HBn := Lib.hid (HB.out.trans (hwd.mono HB.out.size))
      have K0n : Hid (CW21 wd2 w.heap.size _ _ _ _ _ _ _ _ _ _ _ _ _ _ _ _ _ _ _ _ _) := CW21.kept K0.out hwd
      clear HB K0 yl yn hwd   p0 p1 p2 p3 p4 p5 p6 p7 p8 p9 p10 p11 p12 p13 p14 p15 p16 p17 p18 p19 p20
      have HB := HBn
      have K0 := K0n
      clear HBn K0n
      obtain ⟨⟨p0, p1, p2, p3, p4, p5, p6, p7, p8, p9, p10, p11, p12, p13, p14, p15, p16, p17, p18, p19, p20⟩, -⟩ := K0.out.get
      go_wp2_with fail
      refine (Sup.spec_setupok h.st HW.out.st.gs a0 c0 a1 c1 a2 c2 _ (HK.out.g.kept HB.out) (HK.out.u.kept HB.out) (HK.out.d.kept HB.out) HS.out.st.1 HS.out.st.2.1 HS.out.st.2.2.1).mono ?_
      rintro e u1 ⟨rfl, hb⟩
      have HBn := Lib.hid (HB.out.trans (hb.mono HB.out.size))
      have K0n : Hid (CW21 u1 w.heap.size _ _ _ _ _ _ _ _ _ _ _ _ _ _ _ _ _ _ _ _ _) := CW21.kept K0.out hb
      clear HB K0 hb p0 p1 p2 p3 p4 p5 p6 p7 p8 p9 p10 p11 p12 p13 p14 p15 p16 p17 p18 p19 p20
      have HB := HBn
      have K0 := K0n
      clear HBn K0n
      cases hv : Sup.setV h.st
      · have HN := Lib.hid (herd_no (h := h) (by simp [partsV]) hv)
        clear hv
        obtain ⟨⟨p0, p1, p2, p3, p4, p5, p6, p7, p8, p9, p10, p11, p12, p13, p14, p15, p16, p17, p18, p19, p20⟩, -⟩ := K0.out.get
        go_wp2
        go_ret
        exact ⟨ret1B HN.out.symm, HB.out⟩
      · have HV1 := Lib.hid hv
        clear hv
        obtain ⟨⟨p0, p1, p2, p3, p4, p5, p6, p7, p8, p9, p10, p11, p12, p13, p14, p15, p16, p17, p18, p19, p20⟩, -⟩ := K0.out.get
        go_wp2_with fail
        refine (LogS.spec_tick6 h.now _).mono ?_
        rintro e u2 ⟨rfl, rfl⟩
        clear p0 p1 p2 p3 p4 p5 p6 p7 p8 p9 p10 p11 p12 p13 p14 p15 p16 p17 p18 p19 p20
        cases hv : tickV h.now
        · have HN := Lib.hid (herd_no (h := h) (by simp [partsV]) hv)
          clear hv
          obtain ⟨⟨p0, p1, p2, p3, p4, p5, p6, p7, p8, p9, p10, p11, p12, p13, p14, p15, p16, p17, p18, p19, p20⟩, -⟩ := K0.out.get
          go_wp2
          go_ret
          exact ⟨ret1B HN.out.symm, HB.out⟩
        · have HV2 := Lib.hid hv
          clear hv
          obtain ⟨⟨p0, p1, p2, p3, p4, p5, p6, p7, p8, p9, p10, p11, p12, p13, p14, p15, p16, p17, p18, p19, p20⟩, -⟩ := K0.out.get
          go_wp2_with fail
          refine (LogS.spec_count6 h.cnt _).mono ?_
          rintro e u3 ⟨rfl, rfl⟩
          clear p0 p1 p2 p3 p4 p5 p6 p7 p8 p9 p10 p11 p12 p13 p14 p15 p16 p17 p18 p19 p20
          cases hv : countV h.cnt
          · have HN := Lib.hid (herd_no (h := h) (by simp [partsV]) hv)
            clear hv
            obtain ⟨⟨p0, p1, p2, p3, p4, p5, p6, p7, p8, p9, p10, p11, p12, p13, p14, p15, p16, p17, p18, p19, p20⟩, -⟩ := K0.out.get
            go_wp2
            go_ret
            exact ⟨ret1B HN.out.symm, HB.out⟩
          · have HV3 := Lib.hid hv
            clear hv
            obtain ⟨⟨p0, p1, p2, p3, p4, p5, p6, p7, p8, p9, p10, p11, p12, p13, p14, p15, p16, p17, p18, p19, p20⟩, -⟩ := K0.out.get
            go_wp2_with fail
            refine (LogS.spec_tick6 h.rev _).mono ?_
            rintro e u4 ⟨rfl, rfl⟩
            clear p0 p1 p2 p3 p4 p5 p6 p7 p8 p9 p10 p11 p12 p13 p14 p15 p16 p17 p18 p19 p20
            cases hv : tickV h.rev
            · have HN := Lib.hid (herd_no (h := h) (by simp [partsV]) hv)
              clear hv
              obtain ⟨⟨p0, p1, p2, p3, p4, p5, p6, p7, p8, p9, p10, p11, p12, p13, p14, p15, p16, p17, p18, p19, p20⟩, -⟩ := K0.out.get
              go_wp2
              go_ret
              exact ⟨ret1B HN.out.symm, HB.out⟩
            · have HV4 := Lib.hid hv
              clear hv
              obtain ⟨⟨p0, p1, p2, p3, p4, p5, p6, p7, p8, p9, p10, p11, p12, p13, p14, p15, p16, p17, p18, p19, p20⟩, -⟩ := K0.out.get
              go_wp2_with fail
              refine (Pok.spec_podsok h.ps HW.out.ps a3 c3 _ (HK.out.p.kept HB.out) HS.out.ps).mono ?_
              rintro e u5 ⟨rfl, hb⟩
              have HBn := Lib.hid (HB.out.trans (hb.mono HB.out.size))
              have K0n : Hid (CW21 u5 w.heap.size _ _ _ _ _ _ _ _ _ _ _ _ _ _ _ _ _ _ _ _ _) := CW21.kept K0.out hb
              clear HB K0 hb p0 p1 p2 p3 p4 p5 p6 p7 p8 p9 p10 p11 p12 p13 p14 p15 p16 p17 p18 p19 p20
              have HB := HBn
              have K0 := K0n
              clear HBn K0n
              cases hv : Ros.podsV h.ps
              · have HN := Lib.hid (herd_no (h := h) (by simp [partsV]) hv)
                clear hv
                obtain ⟨⟨p0, p1, p2, p3, p4, p5, p6, p7, p8, p9, p10, p11, p12, p13, p14, p15, p16, p17, p18, p19, p20⟩, -⟩ := K0.out.get
                go_wp2
                go_ret
                exact ⟨ret1B HN.out.symm, HB.out⟩
              · have HV5 := Lib.hid hv
                clear hv
                obtain ⟨⟨p0, p1, p2, p3, p4, p5, p6, p7, p8, p9, p10, p11, p12, p13, p14, p15, p16, p17, p18, p19, p20⟩, -⟩ := K0.out.get
                go_wp2_with fail
                refine (spec_storeS h.ss ls HLS.out HW.out.ss a4 c4 _ (HSR.out.kept HB.out) HS.out.ss).mono ?_
                rintro e u6 ⟨rfl, hb⟩
                have HBn := Lib.hid (HB.out.trans (hb.mono HB.out.size))
                have K0n : Hid (CW21 u6 w.heap.size _ _ _ _ _ _ _ _ _ _ _ _ _ _ _ _ _ _ _ _ _) := CW21.kept K0.out hb
                clear HB K0 hb p0 p1 p2 p3 p4 p5 p6 p7 p8 p9 p10 p11 p12 p13 p14 p15 p16 p17 p18 p19 p20
                have HB := HBn
                have K0 := K0n
                clear HBn K0n
                cases hv : Sto.storeV h.ss
                · have HN := Lib.hid (herd_no (h := h) (by simp [partsV]) hv)
                  clear hv
                  obtain ⟨⟨p0, p1, p2, p3, p4, p5, p6, p7, p8, p9, p10, p11, p12, p13, p14, p15, p16, p17, p18, p19, p20⟩, -⟩ := K0.out.get
                  go_wp2
                  go_ret
                  exact ⟨ret1B HN.out.symm, HB.out⟩
                · have HV6 := Lib.hid hv
                  clear hv
                  obtain ⟨⟨p0, p1, p2, p3, p4, p5, p6, p7, p8, p9, p10, p11, p12, p13, p14, p15, p16, p17, p18, p19, p20⟩, -⟩ := K0.out.get
                  go_wp2_with fail
                  refine (CN.out _ (HK.out.n.kept HB.out)).mono ?_
                  rintro e u7 ⟨rfl, hb⟩
                  have HBn := Lib.hid (HB.out.trans (hb.mono HB.out.size))
                  have K0n : Hid (CW21 u7 w.heap.size _ _ _ _ _ _ _ _ _ _ _ _ _ _ _ _ _ _ _ _ _) := CW21.kept K0.out hb
                  clear HB K0 hb p0 p1 p2 p3 p4 p5 p6 p7 p8 p9 p10 p11 p12 p13 p14 p15 p16 p17 p18 p19 p20
                  have HB := HBn
                  have K0 := K0n
                  clear HBn K0n
                  cases hv : logV noteV h.ns
                  · have HN := Lib.hid (herd_no (h := h) (by simp [partsV]) hv)
                    clear hv
                    obtain ⟨⟨p0, p1, p2, p3, p4, p5, p6, p7, p8, p9, p10, p11, p12, p13, p14, p15, p16, p17, p18, p19, p20⟩, -⟩ := K0.out.get
                    go_wp2
                    go_ret
                    exact ⟨ret1B HN.out.symm, HB.out⟩
                  · have HV7 := Lib.hid hv
                    clear hv
                    obtain ⟨⟨p0, p1, p2, p3, p4, p5, p6, p7, p8, p9, p10, p11, p12, p13, p14, p15, p16, p17, p18, p19, p20⟩, -⟩ := K0.out.get
                    go_wp2_with fail
                    refine (CM.out _ (HK.out.m.kept HB.out)).mono ?_
                    rintro e u8 ⟨rfl, hb⟩
                    have HBn := Lib.hid (HB.out.trans (hb.mono HB.out.size))
                    have K0n : Hid (CW21 u8 w.heap.size _ _ _ _ _ _ _ _ _ _ _ _ _ _ _ _ _ _ _ _ _) := CW21.kept K0.out hb
                    clear HB K0 hb p0 p1 p2 p3 p4 p5 p6 p7 p8 p9 p10 p11 p12 p13 p14 p15 p16 p17 p18 p19 p20
                    have HB := HBn
                    have K0 := K0n
                    clear HBn K0n
                    cases hv : logV moveV h.ms
                    · have HN := Lib.hid (herd_no (h := h) (by simp [partsV]) hv)
                      clear hv
                      obtain ⟨⟨p0, p1, p2, p3, p4, p5, p6, p7, p8, p9, p10, p11, p12, p13, p14, p15, p16, p17, p18, p19, p20⟩, -⟩ := K0.out.get
                      go_wp2
                      go_ret
                      exact ⟨ret1B HN.out.symm, HB.out⟩
                    · have HV8 := Lib.hid hv
                      clear hv
                      obtain ⟨⟨p0, p1, p2, p3, p4, p5, p6, p7, p8, p9, p10, p11, p12, p13, p14, p15, p16, p17, p18, p19, p20⟩, -⟩ := K0.out.get
                      go_wp2_with fail
                      refine (LogS.spec_in6 h.cnd 0 5 _).mono ?_
                      rintro e u9 ⟨rfl, rfl⟩
                      clear p0 p1 p2 p3 p4 p5 p6 p7 p8 p9 p10 p11 p12 p13 p14 p15 p16 p17 p18 p19 p20
                      cases hv : inV h.cnd 0 5
                      · have HN := Lib.hid (herd_no (h := h) (by simp [partsV]) hv)
                        clear hv
                        obtain ⟨⟨p0, p1, p2, p3, p4, p5, p6, p7, p8, p9, p10, p11, p12, p13, p14, p15, p16, p17, p18, p19, p20⟩, -⟩ := K0.out.get
                        go_wp2
                        go_ret
                        exact ⟨ret1B HN.out.symm, HB.out⟩
                      · have HV9 := Lib.hid hv
                        clear hv
                        obtain ⟨⟨p0, p1, p2, p3, p4, p5, p6, p7, p8, p9, p10, p11, p12, p13, p14, p15, p16, p17, p18, p19, p20⟩, -⟩ := K0.out.get
                        go_wp2_with fail
                        refine (LogS.spec_in6 h.flt 0 10 _).mono ?_
                        rintro e u10 ⟨rfl, rfl⟩
                        clear p0 p1 p2 p3 p4 p5 p6 p7 p8 p9 p10 p11 p12 p13 p14 p15 p16 p17 p18 p19 p20
                        have HY : Hid (herdV h = inV h.flt 0 10) := by
                          show _ = _
                          unfold herdV partsV
                          simp [HE1.out, HE2.out, HV1.out, HV2.out, HV3.out, HV4.out, HV5.out, HV6.out, HV7.out, HV8.out, HV9.out]
                        obtain ⟨⟨p0, p1, p2, p3, p4, p5, p6, p7, p8, p9, p10, p11, p12, p13, p14, p15, p16, p17, p18, p19, p20⟩, -⟩ := K0.out.get
                        go_wp2
                        go_ret
                        exact ⟨ret1B HY.out.symm, HB.out⟩
    · exfalso; omega
  · exfalso; omega
end Go.Proofs.YtgmdfkmmbcpikaaGreat.Hok

/- HerdOk: the model, a case. -/
namespace Go.Proofs.YtgmdfkmmbcpikaaGreat.Hok
open Go.RowKit Go.Deep
open Go.Proofs.YtgmdfkmmbcpikaaGreat.C1
open Go.Proofs.YtgmdfkmmbcpikaaGreat.C2
open Go.Proofs.YtgmdfkmmbcpikaaGreat.Smps
open Go.Proofs.YtgmdfkmmbcpikaaGreat.Mem
open Go.Proofs.YtgmdfkmmbcpikaaGreat.Ser
open Go.Proofs.YtgmdfkmmbcpikaaGreat.Ser2 (cells_new zeroP)
open Go.Proofs.YtgmdfkmmbcpikaaGreat.Pd
open Go.Proofs.YtgmdfkmmbcpikaaGreat.Pds
open Go.Proofs.YtgmdfkmmbcpikaaGreat.Gl
open Go.Proofs.YtgmdfkmmbcpikaaGreat.Gls
open Go.Proofs.YtgmdfkmmbcpikaaGreat.Pl
open Go.Proofs.YtgmdfkmmbcpikaaGreat.BhM
open Go.Proofs.YtgmdfkmmbcpikaaGreat.Set
open Go.Proofs.YtgmdfkmmbcpikaaGreat.Hd
set_option linter.unusedVariables false

set_option maxHeartbeats 4000000 in
set_option maxRecDepth 20000 in
theorem spec_herdok01 (h : Hd) (hw : h.wf) (hs : h.small) (A : Ad) (w : World) (k : HdAt w h A) (hn0 : h.ns.length = 0) (hm0 : ¬ h.ms.length = 0) :
    Calls Tryz.prog 7 #[hdV h A] w fun e w' => e = .returned (.bool (herdV h)) ∧ Below w.heap.size w w' := by
  obtain ⟨a0, c0, a1, c1, a2, c2, a3, c3, a4, c4, a5, c5, a6, c6⟩ := A
  have HK := Lib.hid k
  have HW := Lib.hid hw
  have HS := Lib.hid hs
  clear k hw hs
  obtain ⟨ls, hls, hsr⟩ := HK.out.s
  have HLS := Lib.hid hls
  have HSR := Lib.hid hsr
  clear hls hsr
  have key : ∀ (lg : List Pt) (a : Option Addr) (h0 : Pts w a lg), (lg.length = 0) ∨ (∃ (k b off : Nat) (t : Int), k + 1 = lg.length ∧ a = some ⟨b, off, none⟩ ∧ b < w.heap.size ∧ w.cell? ⟨b, off + k * 2, none⟩ = some (.int .i64 t) ∧ endV lg h.now = decide (t ≤ h.now)) := by
    intro lg a h0
    obtain ⟨b, off, ha, hb, hcell⟩ := h0.cells
    by_cases e : lg.length = 0
    · exact .inl e
    · have hk : lg.length - 1 + 1 = lg.length := by omega
      exact .inr ⟨lg.length - 1, b, off, lg[lg.length - 1].tick, hk, ha (by omega), hb (by omega), (hcell _ (by omega)).1, end_at _ hk⟩
  have hN := key h.ns a5 HK.out.n
  have hM := key h.ms a6 HK.out.m
  clear key
  have hnl := HS.out.ns
  have hml := HS.out.ms
  obtain ⟨nn, hnn⟩ : ∃ n, h.ns.length = n := ⟨_, rfl⟩
  obtain ⟨mm, hmm⟩ : ∃ n, h.ms.length = n := ⟨_, rfl⟩
  have mixed : Tryz.prog.follows .mixedOrders = true := by kernel_rfl
  have hb := box_below w #[.int .i64 h.st.rl.dl, .int .i64 h.st.rl.fr, .int .i64 h.st.rl.wi, .slice a0 h.st.gs.length c0, .slice a1 h.st.bh.up.ps.length c1, .int .i64 h.st.bh.up.sel, .int .i64 h.st.bh.up.win, .slice a2 h.st.bh.dn.ps.length c2, .int .i64 h.st.bh.dn.sel, .int .i64 h.st.bh.dn.win, .int .i64 h.st.bh.mn, .int .i64 h.st.bh.mx, .int .i64 h.now, .int .i64 h.cnt, .int .i64 h.rev, .slice a3 h.ps.length c3, .slice a4 h.ss.length c4, .slice a5 h.ns.length c5, .slice a6 h.ms.length c6, .int .i64 h.cnd, .int .i64 h.flt] 54
  have hk := cells_new w #[.int .i64 h.st.rl.dl, .int .i64 h.st.rl.fr, .int .i64 h.st.rl.wi, .slice a0 h.st.gs.length c0, .slice a1 h.st.bh.up.ps.length c1, .int .i64 h.st.bh.up.sel, .int .i64 h.st.bh.up.win, .slice a2 h.st.bh.dn.ps.length c2, .int .i64 h.st.bh.dn.sel, .int .i64 h.st.bh.dn.win, .int .i64 h.st.bh.mn, .int .i64 h.st.bh.mx, .int .i64 h.now, .int .i64 h.cnt, .int .i64 h.rev, .slice a3 h.ps.length c3, .slice a4 h.ss.length c4, .slice a5 h.ns.length c5, .slice a6 h.ms.length c6, .int .i64 h.cnd, .int .i64 h.flt] 54
  have HB := Lib.hid hb
  have K0 : Hid (CW21 _ w.heap.size _ _ _ _ _ _ _ _ _ _ _ _ _ _ _ _ _ _ _ _ _) := hk
  clear hb hk
  dsimp only [hdV]
  have CN : Hid (∀ W, Pts W a5 h.ns → Calls Tryz.prog 29 #[.slice a5 nn c5] W fun e w' => e = .returned (.bool (logV noteV h.ns)) ∧ Below W.heap.size W w') := fun W hp => by
    have := LogS.spec_notesok h.ns a5 c5 W hp HS.out.ns
    rw [hnn] at this
    exact this
  have CM : Hid (∀ W, Pts W a6 h.ms → Calls Tryz.prog 30 #[.slice a6 mm c6] W fun e w' => e = .returned (.bool (logV moveV h.ms)) ∧ Below W.heap.size W w') := fun W hp => by
    have := LogS.spec_movesok h.ms a6 c6 W hp HS.out.ms
    rw [hmm] at this
    exact this
  have HE0 : Hid (nn = 0 → endV h.ns h.now = true) := fun e => end_nil (by omega)
  have HE9 : Hid (mm = 0 → endV h.ms h.now = true) := fun e => end_nil (by omega)
  simp only [hnn, hmm] at hN hM hnl hml hn0 hm0 HB K0 ⊢
  clear hnn hmm
  rcases hN with hN | ⟨kn, bn, fn, tn, hkn, han, hbn, hcn, hen⟩
  · have HE1 := Lib.hid (HE0.out hN)
    clear HE0
    subst hN
    rcases hM with hM | ⟨km, bm, fm, tm, hkm, ham, hbm, hcm, hem⟩
    · exact absurd hM hm0
    · have qm : bm < _ ∧ _ := ⟨Nat.lt_of_lt_of_le hbm HB.out.size, (HB.out.cell (p := ⟨bm, fm + km * 2, none⟩) hbm).trans hcm⟩
      have hmpos : (0 : Int) < (mm : Int) := by omega
      have hmposN : 0 < mm := by omega
      have hkm2 : km < mm := by omega
      have hkm1 : ((mm : Int) - 1) = (km : Int) := by omega
      have hkmw : IntKind.i64.wrap (km : Int) = km := by rw [IntKind.wrap_i64]; omega
      clear hcm hbm HE9
      obtain rfl := ham
      by_cases htm : h.now < tm
      · have HN : Hid (herdV h = false) := herd_no (b := endV h.ms h.now) (by simp [partsV]) (by rw [hem]; exact decide_eq_false (by omega))
        clear hem
        go_enter Tryz.func7, Tryz.ntmps7
        go_wp2_with fail
        have yl := later_cell K0.out.1 (K0.out.2 17 (by simp)).1
        have yn := later_cell K0.out.1 (K0.out.2 12 (by simp)).1
        simp only [List.getElem_cons_zero, List.getElem_cons_succ] at yl yn
        refine region_later mixed (by kernel_rfl) ?_
        repeat (go_big_quiet_step (fail))
        refine wpQuiet_nil ?_
        intro wd1 hw'
        obtain ⟨⟨wd1, hwd⟩, rfl⟩ := hw'
        have HBn := Lib.hid (HB.out.trans (hwd.mono HB.out.size))
        have K0n : Hid (CW21 wd1 w.heap.size _ _ _ _ _ _ _ _ _ _ _ _ _ _ _ _ _ _ _ _ _) := CW21.kept K0.out hwd
        have qmn : _ ∧ _ := ⟨Nat.lt_of_lt_of_le qm.1 hwd.size, (hwd.cell (p := ⟨bm, fm + km * 2, none⟩) qm.1).trans qm.2⟩
        clear HB K0 yl yn hwd  qm 
        have HB := HBn
        have K0 := K0n
        clear HBn K0n
        have qm := qmn
        clear qmn
        obtain ⟨⟨p0, p1, p2, p3, p4, p5, p6, p7, p8, p9, p10, p11, p12, p13, p14, p15, p16, p17, p18, p19, p20⟩, -⟩ := K0.out.get
        go_wp2_with fail
        have yl := later_cell K0.out.1 (K0.out.2 18 (by simp)).1
        have yn := later_cell K0.out.1 (K0.out.2 12 (by simp)).1
        simp only [List.getElem_cons_zero, List.getElem_cons_succ] at yl yn
        have ye := later_cell qm.1 qm.2
        refine region_later mixed (by kernel_rfl) ?_
        repeat (go_big_quiet_step (fail))
        refine wpQuiet_nil ?_
        intro wd2 hw'
        obtain ⟨⟨wd2, hwd⟩, rfl⟩ := hw'
        have HBn := Lib.hid (HB.out.trans (hwd.mono HB.out.size))
        have K0n : Hid (CW21 wd2 w.heap.size _ _ _ _ _ _ _ _ _ _ _ _ _ _ _ _ _ _ _ _ _) := CW21.kept K0.out hwd
        clear HB K0 yl yn hwd ye  p0 p1 p2 p3 p4 p5 p6 p7 p8 p9 p10 p11 p12 p13 p14 p15 p16 p17 p18 p19 p20
        clear qm
        have HB := HBn
        have K0 := K0n
        clear HBn K0n
        go_wp2
        go_ret
        exact ⟨ret1B HN.out.symm, HB.out⟩
      · have HE2 : Hid (endV h.ms h.now = true) := by
          show _ = _
          rw [hem]
          exact decide_eq_true (by omega)
        clear hem
        go_enter Tryz.func7, Tryz.ntmps7
        go_wp2_with fail
        have yl := later_cell K0.out.1 (K0.out.2 17 (by simp)).1
        have yn := later_cell K0.out.1 (K0.out.2 12 (by simp)).1
        simp only [List.getElem_cons_zero, List.getElem_cons_succ] at yl yn
        refine region_later mixed (by kernel_rfl) ?_
        repeat (go_big_quiet_step (fail))
        refine wpQuiet_nil ?_
        intro wd1 hw'
        obtain ⟨⟨wd1, hwd⟩, rfl⟩ := hw'
        have HBn := Lib.hid (HB.out.trans (hwd.mono HB.out.size))
        have K0n : Hid (CW21 wd1 w.heap.size _ _ _ _ _ _ _ _ _ _ _ _ _ _ _ _ _ _ _ _ _) := CW21.kept K0.out hwd
        have qmn : _ ∧ _ := ⟨Nat.lt_of_lt_of_le qm.1 hwd.size, (hwd.cell (p := ⟨bm, fm + km * 2, none⟩) qm.1).trans qm.2⟩
        clear HB K0 yl yn hwd  qm 
        have HB := HBn
        have K0 := K0n
        clear HBn K0n
        have qm := qmn
        clear qmn
        obtain ⟨⟨p0, p1, p2, p3, p4, p5, p6, p7, p8, p9, p10, p11, p12, p13, p14, p15, p16, p17, p18, p19, p20⟩, -⟩ := K0.out.get
        go_wp2_with fail
        have yl := later_cell K0.out.1 (K0.out.2 18 (by simp)).1
        have yn := later_cell K0.out.1 (K0.out.2 12 (by simp)).1
        simp only [List.getElem_cons_zero, List.getElem_cons_succ] at yl yn
        have ye := later_cell qm.1 qm.2
        refine region_later mixed (by kernel_rfl) ?_
        repeat (go_big_quiet_step (fail))
        refine wpQuiet_nil ?_
        intro wd2 hw'
        obtain ⟨⟨wd2, hwd⟩, rfl⟩ := hw'
        have HBn := Lib.hid (HB.out.trans (hwd.mono HB.out.size))
        have K0n : Hid (CW21 wd2 w.heap.size _ _ _ _ _ _ _ _ _ _ _ _ _ _ _ _ _ _ _ _ _) := CW21.kept K0.out hwd
        clear HB K0 yl yn hwd ye  p0 p1 p2 p3 p4 p5 p6 p7 p8 p9 p10 p11 p12 p13 p14 p15 p16 p17 p18 p19 p20
        clear qm
        have HB := HBn
        have K0 := K0n
        clear HBn K0n
        obtain ⟨⟨p0, p1, p2, p3, p4, p5, p6, p7, p8, p9, p10, p11, p12, p13, p14, p15, p16, p17, p18, p19, p20⟩, -⟩ := K0.out.get
        go_wp2_with fail
        refine (Sup.spec_setupok h.st HW.out.st.gs a0 c0 a1 c1 a2 c2 _ (HK.out.g.kept HB.out) (HK.out.u.kept HB.out) (HK.out.d.kept HB.out) HS.out.st.1 HS.out.st.2.1 HS.out.st.2.2.1).mono ?_
        rintro e u1 ⟨rfl, hb⟩
        have HBn := Lib.hid (HB.out.trans (hb.mono HB.out.size))
        have K0n : Hid (CW21 u1 w.heap.size _ _ _ _ _ _ _ _ _ _ _ _ _ _ _ _ _ _ _ _ _) := CW21.kept K0.out hb
        clear HB K0 hb p0 p1 p2 p3 p4 p5 p6 p7 p8 p9 p10 p11 p12 p13 p14 p15 p16 p17 p18 p19 p20
        have HB := HBn
        have K0 := K0n
        clear HBn K0n
        cases hv : Sup.setV h.st
        · have HN := Lib.hid (herd_no (h := h) (by simp [partsV]) hv)
          clear hv
          obtain ⟨⟨p0, p1, p2, p3, p4, p5, p6, p7, p8, p9, p10, p11, p12, p13, p14, p15, p16, p17, p18, p19, p20⟩, -⟩ := K0.out.get
          go_wp2
          go_ret
          exact ⟨ret1B HN.out.symm, HB.out⟩
        · have HV1 := Lib.hid hv
          clear hv
          obtain ⟨⟨p0, p1, p2, p3, p4, p5, p6, p7, p8, p9, p10, p11, p12, p13, p14, p15, p16, p17, p18, p19, p20⟩, -⟩ := K0.out.get
          go_wp2_with fail
          refine (LogS.spec_tick6 h.now _).mono ?_
          rintro e u2 ⟨rfl, rfl⟩
          clear p0 p1 p2 p3 p4 p5 p6 p7 p8 p9 p10 p11 p12 p13 p14 p15 p16 p17 p18 p19 p20
          cases hv : tickV h.now
          · have HN := Lib.hid (herd_no (h := h) (by simp [partsV]) hv)
            clear hv
            obtain ⟨⟨p0, p1, p2, p3, p4, p5, p6, p7, p8, p9, p10, p11, p12, p13, p14, p15, p16, p17, p18, p19, p20⟩, -⟩ := K0.out.get
            go_wp2
            go_ret
            exact ⟨ret1B HN.out.symm, HB.out⟩
          · have HV2 := Lib.hid hv
            clear hv
            obtain ⟨⟨p0, p1, p2, p3, p4, p5, p6, p7, p8, p9, p10, p11, p12, p13, p14, p15, p16, p17, p18, p19, p20⟩, -⟩ := K0.out.get
            go_wp2_with fail
            refine (LogS.spec_count6 h.cnt _).mono ?_
            rintro e u3 ⟨rfl, rfl⟩
            clear p0 p1 p2 p3 p4 p5 p6 p7 p8 p9 p10 p11 p12 p13 p14 p15 p16 p17 p18 p19 p20
            cases hv : countV h.cnt
            · have HN := Lib.hid (herd_no (h := h) (by simp [partsV]) hv)
              clear hv
              obtain ⟨⟨p0, p1, p2, p3, p4, p5, p6, p7, p8, p9, p10, p11, p12, p13, p14, p15, p16, p17, p18, p19, p20⟩, -⟩ := K0.out.get
              go_wp2
              go_ret
              exact ⟨ret1B HN.out.symm, HB.out⟩
            · have HV3 := Lib.hid hv
              clear hv
              obtain ⟨⟨p0, p1, p2, p3, p4, p5, p6, p7, p8, p9, p10, p11, p12, p13, p14, p15, p16, p17, p18, p19, p20⟩, -⟩ := K0.out.get
              go_wp2_with fail
              refine (LogS.spec_tick6 h.rev _).mono ?_
              rintro e u4 ⟨rfl, rfl⟩
              clear p0 p1 p2 p3 p4 p5 p6 p7 p8 p9 p10 p11 p12 p13 p14 p15 p16 p17 p18 p19 p20
              cases hv : tickV h.rev
              · have HN := Lib.hid (herd_no (h := h) (by simp [partsV]) hv)
                clear hv
                obtain ⟨⟨p0, p1, p2, p3, p4, p5, p6, p7, p8, p9, p10, p11, p12, p13, p14, p15, p16, p17, p18, p19, p20⟩, -⟩ := K0.out.get
                go_wp2
                go_ret
                exact ⟨ret1B HN.out.symm, HB.out⟩
              · have HV4 := Lib.hid hv
                clear hv
                obtain ⟨⟨p0, p1, p2, p3, p4, p5, p6, p7, p8, p9, p10, p11, p12, p13, p14, p15, p16, p17, p18, p19, p20⟩, -⟩ := K0.out.get
                go_wp2_with fail
                refine (Pok.spec_podsok h.ps HW.out.ps a3 c3 _ (HK.out.p.kept HB.out) HS.out.ps).mono ?_
                rintro e u5 ⟨rfl, hb⟩
                have HBn := Lib.hid (HB.out.trans (hb.mono HB.out.size))
                have K0n : Hid (CW21 u5 w.heap.size _ _ _ _ _ _ _ _ _ _ _ _ _ _ _ _ _ _ _ _ _) := CW21.kept K0.out hb
                clear HB K0 hb p0 p1 p2 p3 p4 p5 p6 p7 p8 p9 p10 p11 p12 p13 p14 p15 p16 p17 p18 p19 p20
                have HB := HBn
                have K0 := K0n
                clear HBn K0n
                cases hv : Ros.podsV h.ps
                · have HN := Lib.hid (herd_no (h := h) (by simp [partsV]) hv)
                  clear hv
                  obtain ⟨⟨p0, p1, p2, p3, p4, p5, p6, p7, p8, p9, p10, p11, p12, p13, p14, p15, p16, p17, p18, p19, p20⟩, -⟩ := K0.out.get
                  go_wp2
                  go_ret
                  exact ⟨ret1B HN.out.symm, HB.out⟩
                · have HV5 := Lib.hid hv
                  clear hv
                  obtain ⟨⟨p0, p1, p2, p3, p4, p5, p6, p7, p8, p9, p10, p11, p12, p13, p14, p15, p16, p17, p18, p19, p20⟩, -⟩ := K0.out.get
                  go_wp2_with fail
                  refine (spec_storeS h.ss ls HLS.out HW.out.ss a4 c4 _ (HSR.out.kept HB.out) HS.out.ss).mono ?_
                  rintro e u6 ⟨rfl, hb⟩
                  have HBn := Lib.hid (HB.out.trans (hb.mono HB.out.size))
                  have K0n : Hid (CW21 u6 w.heap.size _ _ _ _ _ _ _ _ _ _ _ _ _ _ _ _ _ _ _ _ _) := CW21.kept K0.out hb
                  clear HB K0 hb p0 p1 p2 p3 p4 p5 p6 p7 p8 p9 p10 p11 p12 p13 p14 p15 p16 p17 p18 p19 p20
                  have HB := HBn
                  have K0 := K0n
                  clear HBn K0n
                  cases hv : Sto.storeV h.ss
                  · have HN := Lib.hid (herd_no (h := h) (by simp [partsV]) hv)
                    clear hv
                    obtain ⟨⟨p0, p1, p2, p3, p4, p5, p6, p7, p8, p9, p10, p11, p12, p13, p14, p15, p16, p17, p18, p19, p20⟩, -⟩ := K0.out.get
                    go_wp2
                    go_ret
                    exact ⟨ret1B HN.out.symm, HB.out⟩
                  · have HV6 := Lib.hid hv
                    clear hv
                    obtain ⟨⟨p0, p1, p2, p3, p4, p5, p6, p7, p8, p9, p10, p11, p12, p13, p14, p15, p16, p17, p18, p19, p20⟩, -⟩ := K0.out.get
                    go_wp2_with fail
                    refine (CN.out _ (HK.out.n.kept HB.out)).mono ?_
                    rintro e u7 ⟨rfl, hb⟩
                    have HBn := Lib.hid (HB.out.trans (hb.mono HB.out.size))
                    have K0n : Hid (CW21 u7 w.heap.size _ _ _ _ _ _ _ _ _ _ _ _ _ _ _ _ _ _ _ _ _) := CW21.kept K0.out hb
                    clear HB K0 hb p0 p1 p2 p3 p4 p5 p6 p7 p8 p9 p10 p11 p12 p13 p14 p15 p16 p17 p18 p19 p20
                    have HB := HBn
                    have K0 := K0n
                    clear HBn K0n
                    cases hv : logV noteV h.ns
                    · have HN := Lib.hid (herd_no (h := h) (by simp [partsV]) hv)
                      clear hv
                      obtain ⟨⟨p0, p1, p2, p3, p4, p5, p6, p7, p8, p9, p10, p11, p12, p13, p14, p15, p16, p17, p18, p19, p20⟩, -⟩ := K0.out.get
                      go_wp2
                      go_ret
                      exact ⟨ret1B HN.out.symm, HB.out⟩
                    · have HV7 := Lib.hid hv
                      clear hv
                      obtain ⟨⟨p0, p1, p2, p3, p4, p5, p6, p7, p8, p9, p10, p11, p12, p13, p14, p15, p16, p17, p18, p19, p20⟩, -⟩ := K0.out.get
                      go_wp2_with fail
                      refine (CM.out _ (HK.out.m.kept HB.out)).mono ?_
                      rintro e u8 ⟨rfl, hb⟩
                      have HBn := Lib.hid (HB.out.trans (hb.mono HB.out.size))
                      have K0n : Hid (CW21 u8 w.heap.size _ _ _ _ _ _ _ _ _ _ _ _ _ _ _ _ _ _ _ _ _) := CW21.kept K0.out hb
                      clear HB K0 hb p0 p1 p2 p3 p4 p5 p6 p7 p8 p9 p10 p11 p12 p13 p14 p15 p16 p17 p18 p19 p20
                      have HB := HBn
                      have K0 := K0n
                      clear HBn K0n
                      cases hv : logV moveV h.ms
                      · have HN := Lib.hid (herd_no (h := h) (by simp [partsV]) hv)
                        clear hv
                        obtain ⟨⟨p0, p1, p2, p3, p4, p5, p6, p7, p8, p9, p10, p11, p12, p13, p14, p15, p16, p17, p18, p19, p20⟩, -⟩ := K0.out.get
                        go_wp2
                        go_ret
                        exact ⟨ret1B HN.out.symm, HB.out⟩
                      · have HV8 := Lib.hid hv
                        clear hv
                        obtain ⟨⟨p0, p1, p2, p3, p4, p5, p6, p7, p8, p9, p10, p11, p12, p13, p14, p15, p16, p17, p18, p19, p20⟩, -⟩ := K0.out.get
                        go_wp2_with fail
                        refine (LogS.spec_in6 h.cnd 0 5 _).mono ?_
                        rintro e u9 ⟨rfl, rfl⟩
                        clear p0 p1 p2 p3 p4 p5 p6 p7 p8 p9 p10 p11 p12 p13 p14 p15 p16 p17 p18 p19 p20
                        cases hv : inV h.cnd 0 5
                        · have HN := Lib.hid (herd_no (h := h) (by simp [partsV]) hv)
                          clear hv
                          obtain ⟨⟨p0, p1, p2, p3, p4, p5, p6, p7, p8, p9, p10, p11, p12, p13, p14, p15, p16, p17, p18, p19, p20⟩, -⟩ := K0.out.get
                          go_wp2
                          go_ret
                          exact ⟨ret1B HN.out.symm, HB.out⟩
                        · have HV9 := Lib.hid hv
                          clear hv
                          obtain ⟨⟨p0, p1, p2, p3, p4, p5, p6, p7, p8, p9, p10, p11, p12, p13, p14, p15, p16, p17, p18, p19, p20⟩, -⟩ := K0.out.get
                          go_wp2_with fail
                          refine (LogS.spec_in6 h.flt 0 10 _).mono ?_
                          rintro e u10 ⟨rfl, rfl⟩
                          clear p0 p1 p2 p3 p4 p5 p6 p7 p8 p9 p10 p11 p12 p13 p14 p15 p16 p17 p18 p19 p20
                          have HY : Hid (herdV h = inV h.flt 0 10) := by
                            show _ = _
                            unfold herdV partsV
                            simp [HE1.out, HE2.out, HV1.out, HV2.out, HV3.out, HV4.out, HV5.out, HV6.out, HV7.out, HV8.out, HV9.out]
                          obtain ⟨⟨p0, p1, p2, p3, p4, p5, p6, p7, p8, p9, p10, p11, p12, p13, p14, p15, p16, p17, p18, p19, p20⟩, -⟩ := K0.out.get
                          go_wp2
                          go_ret
                          exact ⟨ret1B HY.out.symm, HB.out⟩
  · exfalso; omega
end Go.Proofs.YtgmdfkmmbcpikaaGreat.Hok

/- HerdOk: the model, a case. -/
namespace Go.Proofs.YtgmdfkmmbcpikaaGreat.Hok
open Go.RowKit Go.Deep
open Go.Proofs.YtgmdfkmmbcpikaaGreat.C1
open Go.Proofs.YtgmdfkmmbcpikaaGreat.C2
open Go.Proofs.YtgmdfkmmbcpikaaGreat.Smps
open Go.Proofs.YtgmdfkmmbcpikaaGreat.Mem
open Go.Proofs.YtgmdfkmmbcpikaaGreat.Ser
open Go.Proofs.YtgmdfkmmbcpikaaGreat.Ser2 (cells_new zeroP)
open Go.Proofs.YtgmdfkmmbcpikaaGreat.Pd
open Go.Proofs.YtgmdfkmmbcpikaaGreat.Pds
open Go.Proofs.YtgmdfkmmbcpikaaGreat.Gl
open Go.Proofs.YtgmdfkmmbcpikaaGreat.Gls
open Go.Proofs.YtgmdfkmmbcpikaaGreat.Pl
open Go.Proofs.YtgmdfkmmbcpikaaGreat.BhM
open Go.Proofs.YtgmdfkmmbcpikaaGreat.Set
open Go.Proofs.YtgmdfkmmbcpikaaGreat.Hd
set_option linter.unusedVariables false

set_option maxHeartbeats 4000000 in
set_option maxRecDepth 20000 in
theorem spec_herdok10 (h : Hd) (hw : h.wf) (hs : h.small) (A : Ad) (w : World) (k : HdAt w h A) (hn0 : ¬ h.ns.length = 0) (hm0 : h.ms.length = 0) :
    Calls Tryz.prog 7 #[hdV h A] w fun e w' => e = .returned (.bool (herdV h)) ∧ Below w.heap.size w w' := by
  obtain ⟨a0, c0, a1, c1, a2, c2, a3, c3, a4, c4, a5, c5, a6, c6⟩ := A
  have HK := Lib.hid k
  have HW := Lib.hid hw
  have HS := Lib.hid hs
  clear k hw hs
  obtain ⟨ls, hls, hsr⟩ := HK.out.s
  have HLS := Lib.hid hls
  have HSR := Lib.hid hsr
  clear hls hsr
  have key : ∀ (lg : List Pt) (a : Option Addr) (h0 : Pts w a lg), (lg.length = 0) ∨ (∃ (k b off : Nat) (t : Int), k + 1 = lg.length ∧ a = some ⟨b, off, none⟩ ∧ b < w.heap.size ∧ w.cell? ⟨b, off + k * 2, none⟩ = some (.int .i64 t) ∧ endV lg h.now = decide (t ≤ h.now)) := by
    intro lg a h0
    obtain ⟨b, off, ha, hb, hcell⟩ := h0.cells
    by_cases e : lg.length = 0
    · exact .inl e
    · have hk : lg.length - 1 + 1 = lg.length := by omega
      exact .inr ⟨lg.length - 1, b, off, lg[lg.length - 1].tick, hk, ha (by omega), hb (by omega), (hcell _ (by omega)).1, end_at _ hk⟩
  have hN := key h.ns a5 HK.out.n
  have hM := key h.ms a6 HK.out.m
  clear key
  have hnl := HS.out.ns
  have hml := HS.out.ms
  obtain ⟨nn, hnn⟩ : ∃ n, h.ns.length = n := ⟨_, rfl⟩
  obtain ⟨mm, hmm⟩ : ∃ n, h.ms.length = n := ⟨_, rfl⟩
  have mixed : Tryz.prog.follows .mixedOrders = true := by kernel_rfl
  have hb := box_below w #[.int .i64 h.st.rl.dl, .int .i64 h.st.rl.fr, .int .i64 h.st.rl.wi, .slice a0 h.st.gs.length c0, .slice a1 h.st.bh.up.ps.length c1, .int .i64 h.st.bh.up.sel, .int .i64 h.st.bh.up.win, .slice a2 h.st.bh.dn.ps.length c2, .int .i64 h.st.bh.dn.sel, .int .i64 h.st.bh.dn.win, .int .i64 h.st.bh.mn, .int .i64 h.st.bh.mx, .int .i64 h.now, .int .i64 h.cnt, .int .i64 h.rev, .slice a3 h.ps.length c3, .slice a4 h.ss.length c4, .slice a5 h.ns.length c5, .slice a6 h.ms.length c6, .int .i64 h.cnd, .int .i64 h.flt] 54
  have hk := cells_new w #[.int .i64 h.st.rl.dl, .int .i64 h.st.rl.fr, .int .i64 h.st.rl.wi, .slice a0 h.st.gs.length c0, .slice a1 h.st.bh.up.ps.length c1, .int .i64 h.st.bh.up.sel, .int .i64 h.st.bh.up.win, .slice a2 h.st.bh.dn.ps.length c2, .int .i64 h.st.bh.dn.sel, .int .i64 h.st.bh.dn.win, .int .i64 h.st.bh.mn, .int .i64 h.st.bh.mx, .int .i64 h.now, .int .i64 h.cnt, .int .i64 h.rev, .slice a3 h.ps.length c3, .slice a4 h.ss.length c4, .slice a5 h.ns.length c5, .slice a6 h.ms.length c6, .int .i64 h.cnd, .int .i64 h.flt] 54
  have HB := Lib.hid hb
  have K0 : Hid (CW21 _ w.heap.size _ _ _ _ _ _ _ _ _ _ _ _ _ _ _ _ _ _ _ _ _) := hk
  clear hb hk
  dsimp only [hdV]
  have CN : Hid (∀ W, Pts W a5 h.ns → Calls Tryz.prog 29 #[.slice a5 nn c5] W fun e w' => e = .returned (.bool (logV noteV h.ns)) ∧ Below W.heap.size W w') := fun W hp => by
    have := LogS.spec_notesok h.ns a5 c5 W hp HS.out.ns
    rw [hnn] at this
    exact this
  have CM : Hid (∀ W, Pts W a6 h.ms → Calls Tryz.prog 30 #[.slice a6 mm c6] W fun e w' => e = .returned (.bool (logV moveV h.ms)) ∧ Below W.heap.size W w') := fun W hp => by
    have := LogS.spec_movesok h.ms a6 c6 W hp HS.out.ms
    rw [hmm] at this
    exact this
  have HE0 : Hid (nn = 0 → endV h.ns h.now = true) := fun e => end_nil (by omega)
  have HE9 : Hid (mm = 0 → endV h.ms h.now = true) := fun e => end_nil (by omega)
  simp only [hnn, hmm] at hN hM hnl hml hn0 hm0 HB K0 ⊢
  clear hnn hmm
  rcases hN with hN | ⟨kn, bn, fn, tn, hkn, han, hbn, hcn, hen⟩
  · exact absurd hN hn0
  · have qn : bn < _ ∧ _ := ⟨Nat.lt_of_lt_of_le hbn HB.out.size, (HB.out.cell (p := ⟨bn, fn + kn * 2, none⟩) hbn).trans hcn⟩
    have hnpos : (0 : Int) < (nn : Int) := by omega
    have hnposN : 0 < nn := by omega
    have hkn2 : kn < nn := by omega
    have hkn1 : ((nn : Int) - 1) = (kn : Int) := by omega
    have hknw : IntKind.i64.wrap (kn : Int) = kn := by rw [IntKind.wrap_i64]; omega
    clear hcn hbn HE0
    obtain rfl := han
    by_cases htn : h.now < tn
    · clear hM HE9 hm0
      have HN : Hid (herdV h = false) := herd_no (b := endV h.ns h.now) (by simp [partsV]) (by rw [hen]; exact decide_eq_false (by omega))
      clear hen
      go_enter Tryz.func7, Tryz.ntmps7
      go_wp2_with fail
      have yl := later_cell K0.out.1 (K0.out.2 17 (by simp)).1
      have yn := later_cell K0.out.1 (K0.out.2 12 (by simp)).1
      simp only [List.getElem_cons_zero, List.getElem_cons_succ] at yl yn
      have ye := later_cell qn.1 qn.2
      refine region_later mixed (by kernel_rfl) ?_
      repeat (go_big_quiet_step (fail))
      refine wpQuiet_nil ?_
      intro wd1 hw'
      obtain ⟨⟨wd1, hwd⟩, rfl⟩ := hw'
      have HBn := Lib.hid (HB.out.trans (hwd.mono HB.out.size))
      have K0n : Hid (CW21 wd1 w.heap.size _ _ _ _ _ _ _ _ _ _ _ _ _ _ _ _ _ _ _ _ _) := CW21.kept K0.out hwd
      clear HB K0 yl yn hwd ye  
      clear qn
      have HB := HBn
      have K0 := K0n
      clear HBn K0n
      go_wp2
      go_ret
      exact ⟨ret1B HN.out.symm, HB.out⟩
    · have HE1 : Hid (endV h.ns h.now = true) := by
        show _ = _
        rw [hen]
        exact decide_eq_true (by omega)
      clear hen
      rcases hM with hM | ⟨km, bm, fm, tm, hkm, ham, hbm, hcm, hem⟩
      · have HE2 := Lib.hid (HE9.out hM)
        clear HE9
        subst hM
        go_enter Tryz.func7, Tryz.ntmps7
        go_wp2_with fail
        have yl := later_cell K0.out.1 (K0.out.2 17 (by simp)).1
        have yn := later_cell K0.out.1 (K0.out.2 12 (by simp)).1
        simp only [List.getElem_cons_zero, List.getElem_cons_succ] at yl yn
        have ye := later_cell qn.1 qn.2
        refine region_later mixed (by kernel_rfl) ?_
        repeat (go_big_quiet_step (fail))
        refine wpQuiet_nil ?_
        intro wd1 hw'
        obtain ⟨⟨wd1, hwd⟩, rfl⟩ := hw'
        have HBn := Lib.hid (HB.out.trans (hwd.mono HB.out.size))
        have K0n : Hid (CW21 wd1 w.heap.size _ _ _ _ _ _ _ _ _ _ _ _ _ _ _ _ _ _ _ _ _) := CW21.kept K0.out hwd
        clear HB K0 yl yn hwd ye  
        clear qn
        have HB := HBn
        have K0 := K0n
        clear HBn K0n
        obtain ⟨⟨p0, p1, p2, p3, p4, p5, p6, p7, p8, p9, p10, p11, p12, p13, p14, p15, p16, p17, p18, p19, p20⟩, -⟩ := K0.out.get
        go_wp2_with fail
        have yl := later_cell K0.out.1 (K0.out.2 18 (by simp)).1
        have yn := later_cell K0.out.1 (K0.out.2 12 (by simp)).1
        simp only [List.getElem_cons_zero, List.getElem_cons_succ] at yl yn
        refine region_later mixed (by kernel_rfl) ?_
        repeat (go_big_quiet_step (fail))
        refine wpQuiet_nil ?_
        intro wd2 hw'
        obtain ⟨⟨wd2, hwd⟩, rfl⟩ := hw'
        have HBn := Lib.hid (HB.out.trans (hwd.mono HB.out.size))
        have K0n : Hid (CW21 wd2 w.heap.size _ _ _ _ _ _ _ _ _ _ _ _ _ _ _ _ _ _ _ _ _) := CW21.kept K0.out hwd
        clear HB K0 yl yn hwd   p0 p1 p2 p3 p4 p5 p6 p7 p8 p9 p10 p11 p12 p13 p14 p15 p16 p17 p18 p19 p20
        have HB := HBn
        have K0 := K0n
        clear HBn K0n
        obtain ⟨⟨p0, p1, p2, p3, p4, p5, p6, p7, p8, p9, p10, p11, p12, p13, p14, p15, p16, p17, p18, p19, p20⟩, -⟩ := K0.out.get
        go_wp2_with fail
        refine (Sup.spec_setupok h.st HW.out.st.gs a0 c0 a1 c1 a2 c2 _ (HK.out.g.kept HB.out) (HK.out.u.kept HB.out) (HK.out.d.kept HB.out) HS.out.st.1 HS.out.st.2.1 HS.out.st.2.2.1).mono ?_
        rintro e u1 ⟨rfl, hb⟩
        have HBn := Lib.hid (HB.out.trans (hb.mono HB.out.size))
        have K0n : Hid (CW21 u1 w.heap.size _ _ _ _ _ _ _ _ _ _ _ _ _ _ _ _ _ _ _ _ _) := CW21.kept K0.out hb
        clear HB K0 hb p0 p1 p2 p3 p4 p5 p6 p7 p8 p9 p10 p11 p12 p13 p14 p15 p16 p17 p18 p19 p20
        have HB := HBn
        have K0 := K0n
        clear HBn K0n
        cases hv : Sup.setV h.st
        · have HN := Lib.hid (herd_no (h := h) (by simp [partsV]) hv)
          clear hv
          obtain ⟨⟨p0, p1, p2, p3, p4, p5, p6, p7, p8, p9, p10, p11, p12, p13, p14, p15, p16, p17, p18, p19, p20⟩, -⟩ := K0.out.get
          go_wp2
          go_ret
          exact ⟨ret1B HN.out.symm, HB.out⟩
        · have HV1 := Lib.hid hv
          clear hv
          obtain ⟨⟨p0, p1, p2, p3, p4, p5, p6, p7, p8, p9, p10, p11, p12, p13, p14, p15, p16, p17, p18, p19, p20⟩, -⟩ := K0.out.get
          go_wp2_with fail
          refine (LogS.spec_tick6 h.now _).mono ?_
          rintro e u2 ⟨rfl, rfl⟩
          clear p0 p1 p2 p3 p4 p5 p6 p7 p8 p9 p10 p11 p12 p13 p14 p15 p16 p17 p18 p19 p20
          cases hv : tickV h.now
          · have HN := Lib.hid (herd_no (h := h) (by simp [partsV]) hv)
            clear hv
            obtain ⟨⟨p0, p1, p2, p3, p4, p5, p6, p7, p8, p9, p10, p11, p12, p13, p14, p15, p16, p17, p18, p19, p20⟩, -⟩ := K0.out.get
            go_wp2
            go_ret
            exact ⟨ret1B HN.out.symm, HB.out⟩
          · have HV2 := Lib.hid hv
            clear hv
            obtain ⟨⟨p0, p1, p2, p3, p4, p5, p6, p7, p8, p9, p10, p11, p12, p13, p14, p15, p16, p17, p18, p19, p20⟩, -⟩ := K0.out.get
            go_wp2_with fail
            refine (LogS.spec_count6 h.cnt _).mono ?_
            rintro e u3 ⟨rfl, rfl⟩
            clear p0 p1 p2 p3 p4 p5 p6 p7 p8 p9 p10 p11 p12 p13 p14 p15 p16 p17 p18 p19 p20
            cases hv : countV h.cnt
            · have HN := Lib.hid (herd_no (h := h) (by simp [partsV]) hv)
              clear hv
              obtain ⟨⟨p0, p1, p2, p3, p4, p5, p6, p7, p8, p9, p10, p11, p12, p13, p14, p15, p16, p17, p18, p19, p20⟩, -⟩ := K0.out.get
              go_wp2
              go_ret
              exact ⟨ret1B HN.out.symm, HB.out⟩
            · have HV3 := Lib.hid hv
              clear hv
              obtain ⟨⟨p0, p1, p2, p3, p4, p5, p6, p7, p8, p9, p10, p11, p12, p13, p14, p15, p16, p17, p18, p19, p20⟩, -⟩ := K0.out.get
              go_wp2_with fail
              refine (LogS.spec_tick6 h.rev _).mono ?_
              rintro e u4 ⟨rfl, rfl⟩
              clear p0 p1 p2 p3 p4 p5 p6 p7 p8 p9 p10 p11 p12 p13 p14 p15 p16 p17 p18 p19 p20
              cases hv : tickV h.rev
              · have HN := Lib.hid (herd_no (h := h) (by simp [partsV]) hv)
                clear hv
                obtain ⟨⟨p0, p1, p2, p3, p4, p5, p6, p7, p8, p9, p10, p11, p12, p13, p14, p15, p16, p17, p18, p19, p20⟩, -⟩ := K0.out.get
                go_wp2
                go_ret
                exact ⟨ret1B HN.out.symm, HB.out⟩
              · have HV4 := Lib.hid hv
                clear hv
                obtain ⟨⟨p0, p1, p2, p3, p4, p5, p6, p7, p8, p9, p10, p11, p12, p13, p14, p15, p16, p17, p18, p19, p20⟩, -⟩ := K0.out.get
                go_wp2_with fail
                refine (Pok.spec_podsok h.ps HW.out.ps a3 c3 _ (HK.out.p.kept HB.out) HS.out.ps).mono ?_
                rintro e u5 ⟨rfl, hb⟩
                have HBn := Lib.hid (HB.out.trans (hb.mono HB.out.size))
                have K0n : Hid (CW21 u5 w.heap.size _ _ _ _ _ _ _ _ _ _ _ _ _ _ _ _ _ _ _ _ _) := CW21.kept K0.out hb
                clear HB K0 hb p0 p1 p2 p3 p4 p5 p6 p7 p8 p9 p10 p11 p12 p13 p14 p15 p16 p17 p18 p19 p20
                have HB := HBn
                have K0 := K0n
                clear HBn K0n
                cases hv : Ros.podsV h.ps
                · have HN := Lib.hid (herd_no (h := h) (by simp [partsV]) hv)
                  clear hv
                  obtain ⟨⟨p0, p1, p2, p3, p4, p5, p6, p7, p8, p9, p10, p11, p12, p13, p14, p15, p16, p17, p18, p19, p20⟩, -⟩ := K0.out.get
                  go_wp2
                  go_ret
                  exact ⟨ret1B HN.out.symm, HB.out⟩
                · have HV5 := Lib.hid hv
                  clear hv
                  obtain ⟨⟨p0, p1, p2, p3, p4, p5, p6, p7, p8, p9, p10, p11, p12, p13, p14, p15, p16, p17, p18, p19, p20⟩, -⟩ := K0.out.get
                  go_wp2_with fail
                  refine (spec_storeS h.ss ls HLS.out HW.out.ss a4 c4 _ (HSR.out.kept HB.out) HS.out.ss).mono ?_
                  rintro e u6 ⟨rfl, hb⟩
                  have HBn := Lib.hid (HB.out.trans (hb.mono HB.out.size))
                  have K0n : Hid (CW21 u6 w.heap.size _ _ _ _ _ _ _ _ _ _ _ _ _ _ _ _ _ _ _ _ _) := CW21.kept K0.out hb
                  clear HB K0 hb p0 p1 p2 p3 p4 p5 p6 p7 p8 p9 p10 p11 p12 p13 p14 p15 p16 p17 p18 p19 p20
                  have HB := HBn
                  have K0 := K0n
                  clear HBn K0n
                  cases hv : Sto.storeV h.ss
                  · have HN := Lib.hid (herd_no (h := h) (by simp [partsV]) hv)
                    clear hv
                    obtain ⟨⟨p0, p1, p2, p3, p4, p5, p6, p7, p8, p9, p10, p11, p12, p13, p14, p15, p16, p17, p18, p19, p20⟩, -⟩ := K0.out.get
                    go_wp2
                    go_ret
                    exact ⟨ret1B HN.out.symm, HB.out⟩
                  · have HV6 := Lib.hid hv
                    clear hv
                    obtain ⟨⟨p0, p1, p2, p3, p4, p5, p6, p7, p8, p9, p10, p11, p12, p13, p14, p15, p16, p17, p18, p19, p20⟩, -⟩ := K0.out.get
                    go_wp2_with fail
                    refine (CN.out _ (HK.out.n.kept HB.out)).mono ?_
                    rintro e u7 ⟨rfl, hb⟩
                    have HBn := Lib.hid (HB.out.trans (hb.mono HB.out.size))
                    have K0n : Hid (CW21 u7 w.heap.size _ _ _ _ _ _ _ _ _ _ _ _ _ _ _ _ _ _ _ _ _) := CW21.kept K0.out hb
                    clear HB K0 hb p0 p1 p2 p3 p4 p5 p6 p7 p8 p9 p10 p11 p12 p13 p14 p15 p16 p17 p18 p19 p20
                    have HB := HBn
                    have K0 := K0n
                    clear HBn K0n
                    cases hv : logV noteV h.ns
                    · have HN := Lib.hid (herd_no (h := h) (by simp [partsV]) hv)
                      clear hv
                      obtain ⟨⟨p0, p1, p2, p3, p4, p5, p6, p7, p8, p9, p10, p11, p12, p13, p14, p15, p16, p17, p18, p19, p20⟩, -⟩ := K0.out.get
                      go_wp2
                      go_ret
                      exact ⟨ret1B HN.out.symm, HB.out⟩
                    · have HV7 := Lib.hid hv
                      clear hv
                      obtain ⟨⟨p0, p1, p2, p3, p4, p5, p6, p7, p8, p9, p10, p11, p12, p13, p14, p15, p16, p17, p18, p19, p20⟩, -⟩ := K0.out.get
                      go_wp2_with fail
                      refine (CM.out _ (HK.out.m.kept HB.out)).mono ?_
                      rintro e u8 ⟨rfl, hb⟩
                      have HBn := Lib.hid (HB.out.trans (hb.mono HB.out.size))
                      have K0n : Hid (CW21 u8 w.heap.size _ _ _ _ _ _ _ _ _ _ _ _ _ _ _ _ _ _ _ _ _) := CW21.kept K0.out hb
                      clear HB K0 hb p0 p1 p2 p3 p4 p5 p6 p7 p8 p9 p10 p11 p12 p13 p14 p15 p16 p17 p18 p19 p20
                      have HB := HBn
                      have K0 := K0n
                      clear HBn K0n
                      cases hv : logV moveV h.ms
                      · have HN := Lib.hid (herd_no (h := h) (by simp [partsV]) hv)
                        clear hv
                        obtain ⟨⟨p0, p1, p2, p3, p4, p5, p6, p7, p8, p9, p10, p11, p12, p13, p14, p15, p16, p17, p18, p19, p20⟩, -⟩ := K0.out.get
                        go_wp2
                        go_ret
                        exact ⟨ret1B HN.out.symm, HB.out⟩
                      · have HV8 := Lib.hid hv
                        clear hv
                        obtain ⟨⟨p0, p1, p2, p3, p4, p5, p6, p7, p8, p9, p10, p11, p12, p13, p14, p15, p16, p17, p18, p19, p20⟩, -⟩ := K0.out.get
                        go_wp2_with fail
                        refine (LogS.spec_in6 h.cnd 0 5 _).mono ?_
                        rintro e u9 ⟨rfl, rfl⟩
                        clear p0 p1 p2 p3 p4 p5 p6 p7 p8 p9 p10 p11 p12 p13 p14 p15 p16 p17 p18 p19 p20
                        cases hv : inV h.cnd 0 5
                        · have HN := Lib.hid (herd_no (h := h) (by simp [partsV]) hv)
                          clear hv
                          obtain ⟨⟨p0, p1, p2, p3, p4, p5, p6, p7, p8, p9, p10, p11, p12, p13, p14, p15, p16, p17, p18, p19, p20⟩, -⟩ := K0.out.get
                          go_wp2
                          go_ret
                          exact ⟨ret1B HN.out.symm, HB.out⟩
                        · have HV9 := Lib.hid hv
                          clear hv
                          obtain ⟨⟨p0, p1, p2, p3, p4, p5, p6, p7, p8, p9, p10, p11, p12, p13, p14, p15, p16, p17, p18, p19, p20⟩, -⟩ := K0.out.get
                          go_wp2_with fail
                          refine (LogS.spec_in6 h.flt 0 10 _).mono ?_
                          rintro e u10 ⟨rfl, rfl⟩
                          clear p0 p1 p2 p3 p4 p5 p6 p7 p8 p9 p10 p11 p12 p13 p14 p15 p16 p17 p18 p19 p20
                          have HY : Hid (herdV h = inV h.flt 0 10) := by
                            show _ = _
                            unfold herdV partsV
                            simp [HE1.out, HE2.out, HV1.out, HV2.out, HV3.out, HV4.out, HV5.out, HV6.out, HV7.out, HV8.out, HV9.out]
                          obtain ⟨⟨p0, p1, p2, p3, p4, p5, p6, p7, p8, p9, p10, p11, p12, p13, p14, p15, p16, p17, p18, p19, p20⟩, -⟩ := K0.out.get
                          go_wp2
                          go_ret
                          exact ⟨ret1B HY.out.symm, HB.out⟩
      · exfalso; omega
end Go.Proofs.YtgmdfkmmbcpikaaGreat.Hok

/- HerdOk: the model, a case. -/
namespace Go.Proofs.YtgmdfkmmbcpikaaGreat.Hok
open Go.RowKit Go.Deep
open Go.Proofs.YtgmdfkmmbcpikaaGreat.C1
open Go.Proofs.YtgmdfkmmbcpikaaGreat.C2
open Go.Proofs.YtgmdfkmmbcpikaaGreat.Smps
open Go.Proofs.YtgmdfkmmbcpikaaGreat.Mem
open Go.Proofs.YtgmdfkmmbcpikaaGreat.Ser
open Go.Proofs.YtgmdfkmmbcpikaaGreat.Ser2 (cells_new zeroP)
open Go.Proofs.YtgmdfkmmbcpikaaGreat.Pd
open Go.Proofs.YtgmdfkmmbcpikaaGreat.Pds
open Go.Proofs.YtgmdfkmmbcpikaaGreat.Gl
open Go.Proofs.YtgmdfkmmbcpikaaGreat.Gls
open Go.Proofs.YtgmdfkmmbcpikaaGreat.Pl
open Go.Proofs.YtgmdfkmmbcpikaaGreat.BhM
open Go.Proofs.YtgmdfkmmbcpikaaGreat.Set
open Go.Proofs.YtgmdfkmmbcpikaaGreat.Hd
set_option linter.unusedVariables false

set_option maxHeartbeats 4000000 in
set_option maxRecDepth 20000 in
theorem spec_herdok11 (h : Hd) (hw : h.wf) (hs : h.small) (A : Ad) (w : World) (k : HdAt w h A) (hn0 : ¬ h.ns.length = 0) (hm0 : ¬ h.ms.length = 0) :
    Calls Tryz.prog 7 #[hdV h A] w fun e w' => e = .returned (.bool (herdV h)) ∧ Below w.heap.size w w' := by
  obtain ⟨a0, c0, a1, c1, a2, c2, a3, c3, a4, c4, a5, c5, a6, c6⟩ := A
  have HK := Lib.hid k
  have HW := Lib.hid hw
  have HS := Lib.hid hs
  clear k hw hs
  obtain ⟨ls, hls, hsr⟩ := HK.out.s
  have HLS := Lib.hid hls
  have HSR := Lib.hid hsr
  clear hls hsr
  have key : ∀ (lg : List Pt) (a : Option Addr) (h0 : Pts w a lg), (lg.length = 0) ∨ (∃ (k b off : Nat) (t : Int), k + 1 = lg.length ∧ a = some ⟨b, off, none⟩ ∧ b < w.heap.size ∧ w.cell? ⟨b, off + k * 2, none⟩ = some (.int .i64 t) ∧ endV lg h.now = decide (t ≤ h.now)) := by
    intro lg a h0
    obtain ⟨b, off, ha, hb, hcell⟩ := h0.cells
    by_cases e : lg.length = 0
    · exact .inl e
    · have hk : lg.length - 1 + 1 = lg.length := by omega
      exact .inr ⟨lg.length - 1, b, off, lg[lg.length - 1].tick, hk, ha (by omega), hb (by omega), (hcell _ (by omega)).1, end_at _ hk⟩
  have hN := key h.ns a5 HK.out.n
  have hM := key h.ms a6 HK.out.m
  clear key
  have hnl := HS.out.ns
  have hml := HS.out.ms
  obtain ⟨nn, hnn⟩ : ∃ n, h.ns.length = n := ⟨_, rfl⟩
  obtain ⟨mm, hmm⟩ : ∃ n, h.ms.length = n := ⟨_, rfl⟩
  have mixed : Tryz.prog.follows .mixedOrders = true := by kernel_rfl
  have hb := box_below w #[.int .i64 h.st.rl.dl, .int .i64 h.st.rl.fr, .int .i64 h.st.rl.wi, .slice a0 h.st.gs.length c0, .slice a1 h.st.bh.up.ps.length c1, .int .i64 h.st.bh.up.sel, .int .i64 h.st.bh.up.win, .slice a2 h.st.bh.dn.ps.length c2, .int .i64 h.st.bh.dn.sel, .int .i64 h.st.bh.dn.win, .int .i64 h.st.bh.mn, .int .i64 h.st.bh.mx, .int .i64 h.now, .int .i64 h.cnt, .int .i64 h.rev, .slice a3 h.ps.length c3, .slice a4 h.ss.length c4, .slice a5 h.ns.length c5, .slice a6 h.ms.length c6, .int .i64 h.cnd, .int .i64 h.flt] 54
  have hk := cells_new w #[.int .i64 h.st.rl.dl, .int .i64 h.st.rl.fr, .int .i64 h.st.rl.wi, .slice a0 h.st.gs.length c0, .slice a1 h.st.bh.up.ps.length c1, .int .i64 h.st.bh.up.sel, .int .i64 h.st.bh.up.win, .slice a2 h.st.bh.dn.ps.length c2, .int .i64 h.st.bh.dn.sel, .int .i64 h.st.bh.dn.win, .int .i64 h.st.bh.mn, .int .i64 h.st.bh.mx, .int .i64 h.now, .int .i64 h.cnt, .int .i64 h.rev, .slice a3 h.ps.length c3, .slice a4 h.ss.length c4, .slice a5 h.ns.length c5, .slice a6 h.ms.length c6, .int .i64 h.cnd, .int .i64 h.flt] 54
  have HB := Lib.hid hb
  have K0 : Hid (CW21 _ w.heap.size _ _ _ _ _ _ _ _ _ _ _ _ _ _ _ _ _ _ _ _ _) := hk
  clear hb hk
  dsimp only [hdV]
  have CN : Hid (∀ W, Pts W a5 h.ns → Calls Tryz.prog 29 #[.slice a5 nn c5] W fun e w' => e = .returned (.bool (logV noteV h.ns)) ∧ Below W.heap.size W w') := fun W hp => by
    have := LogS.spec_notesok h.ns a5 c5 W hp HS.out.ns
    rw [hnn] at this
    exact this
  have CM : Hid (∀ W, Pts W a6 h.ms → Calls Tryz.prog 30 #[.slice a6 mm c6] W fun e w' => e = .returned (.bool (logV moveV h.ms)) ∧ Below W.heap.size W w') := fun W hp => by
    have := LogS.spec_movesok h.ms a6 c6 W hp HS.out.ms
    rw [hmm] at this
    exact this
  have HE0 : Hid (nn = 0 → endV h.ns h.now = true) := fun e => end_nil (by omega)
  have HE9 : Hid (mm = 0 → endV h.ms h.now = true) := fun e => end_nil (by omega)
  simp only [hnn, hmm] at hN hM hnl hml hn0 hm0 HB K0 ⊢
  clear hnn hmm
  rcases hN with hN | ⟨kn, bn, fn, tn, hkn, han, hbn, hcn, hen⟩
  · exact absurd hN hn0
  · have qn : bn < _ ∧ _ := ⟨Nat.lt_of_lt_of_le hbn HB.out.size, (HB.out.cell (p := ⟨bn, fn + kn * 2, none⟩) hbn).trans hcn⟩
    have hnpos : (0 : Int) < (nn : Int) := by omega
    have hnposN : 0 < nn := by omega
    have hkn2 : kn < nn := by omega
    have hkn1 : ((nn : Int) - 1) = (kn : Int) := by omega
    have hknw : IntKind.i64.wrap (kn : Int) = kn := by rw [IntKind.wrap_i64]; omega
    clear hcn hbn HE0
    obtain rfl := han
    by_cases htn : h.now < tn
    · clear hM HE9 hm0
      have HN : Hid (herdV h = false) := herd_no (b := endV h.ns h.now) (by simp [partsV]) (by rw [hen]; exact decide_eq_false (by omega))
      clear hen
      go_enter Tryz.func7, Tryz.ntmps7
      go_wp2_with fail
      have yl := later_cell K0.out.1 (K0.out.2 17 (by simp)).1
      have yn := later_cell K0.out.1 (K0.out.2 12 (by simp)).1
      simp only [List.getElem_cons_zero, List.getElem_cons_succ] at yl yn
      have ye := later_cell qn.1 qn.2
      refine region_later mixed (by kernel_rfl) ?_
      repeat (go_big_quiet_step (fail))
      refine wpQuiet_nil ?_
      intro wd1 hw'
      obtain ⟨⟨wd1, hwd⟩, rfl⟩ := hw'
      have HBn := Lib.hid (HB.out.trans (hwd.mono HB.out.size))
      have K0n : Hid (CW21 wd1 w.heap.size _ _ _ _ _ _ _ _ _ _ _ _ _ _ _ _ _ _ _ _ _) := CW21.kept K0.out hwd
      clear HB K0 yl yn hwd ye  
      clear qn
      have HB := HBn
      have K0 := K0n
      clear HBn K0n
      go_wp2
      go_ret
      exact ⟨ret1B HN.out.symm, HB.out⟩
    · have HE1 : Hid (endV h.ns h.now = true) := by
        show _ = _
        rw [hen]
        exact decide_eq_true (by omega)
      clear hen
      rcases hM with hM | ⟨km, bm, fm, tm, hkm, ham, hbm, hcm, hem⟩
      · exact absurd hM hm0
      · have qm : bm < _ ∧ _ := ⟨Nat.lt_of_lt_of_le hbm HB.out.size, (HB.out.cell (p := ⟨bm, fm + km * 2, none⟩) hbm).trans hcm⟩
        have hmpos : (0 : Int) < (mm : Int) := by omega
        have hmposN : 0 < mm := by omega
        have hkm2 : km < mm := by omega
        have hkm1 : ((mm : Int) - 1) = (km : Int) := by omega
        have hkmw : IntKind.i64.wrap (km : Int) = km := by rw [IntKind.wrap_i64]; omega
        clear hcm hbm HE9
        obtain rfl := ham
        by_cases htm : h.now < tm
        · have HN : Hid (herdV h = false) := herd_no (b := endV h.ms h.now) (by simp [partsV]) (by rw [hem]; exact decide_eq_false (by omega))
          clear hem
          go_enter Tryz.func7, Tryz.ntmps7
          go_wp2_with fail
          have yl := later_cell K0.out.1 (K0.out.2 17 (by simp)).1
          have yn := later_cell K0.out.1 (K0.out.2 12 (by simp)).1
          simp only [List.getElem_cons_zero, List.getElem_cons_succ] at yl yn
          have ye := later_cell qn.1 qn.2
          refine region_later mixed (by kernel_rfl) ?_
          repeat (go_big_quiet_step (fail))
          refine wpQuiet_nil ?_
          intro wd1 hw'
          obtain ⟨⟨wd1, hwd⟩, rfl⟩ := hw'
          have HBn := Lib.hid (HB.out.trans (hwd.mono HB.out.size))
          have K0n : Hid (CW21 wd1 w.heap.size _ _ _ _ _ _ _ _ _ _ _ _ _ _ _ _ _ _ _ _ _) := CW21.kept K0.out hwd
          have qmn : _ ∧ _ := ⟨Nat.lt_of_lt_of_le qm.1 hwd.size, (hwd.cell (p := ⟨bm, fm + km * 2, none⟩) qm.1).trans qm.2⟩
          clear HB K0 yl yn hwd ye qm 
          clear qn
          have HB := HBn
          have K0 := K0n
          clear HBn K0n
          have qm := qmn
          clear qmn
          obtain ⟨⟨p0, p1, p2, p3, p4, p5, p6, p7, p8, p9, p10, p11, p12, p13, p14, p15, p16, p17, p18, p19, p20⟩, -⟩ := K0.out.get
          go_wp2_with fail
          have yl := later_cell K0.out.1 (K0.out.2 18 (by simp)).1
          have yn := later_cell K0.out.1 (K0.out.2 12 (by simp)).1
          simp only [List.getElem_cons_zero, List.getElem_cons_succ] at yl yn
          have ye := later_cell qm.1 qm.2
          refine region_later mixed (by kernel_rfl) ?_
          repeat (go_big_quiet_step (fail))
          refine wpQuiet_nil ?_
          intro wd2 hw'
          obtain ⟨⟨wd2, hwd⟩, rfl⟩ := hw'
          have HBn := Lib.hid (HB.out.trans (hwd.mono HB.out.size))
          have K0n : Hid (CW21 wd2 w.heap.size _ _ _ _ _ _ _ _ _ _ _ _ _ _ _ _ _ _ _ _ _) := CW21.kept K0.out hwd
          clear HB K0 yl yn hwd ye  p0 p1 p2 p3 p4 p5 p6 p7 p8 p9 p10 p11 p12 p13 p14 p15 p16 p17 p18 p19 p20
          clear qm
          have HB := HBn
          have K0 := K0n
          clear HBn K0n
          go_wp2
          go_ret
          exact ⟨ret1B HN.out.symm, HB.out⟩
        · have HE2 : Hid (endV h.ms h.now = true) := by
            show _ = _
            rw [hem]
            exact decide_eq_true (by omega)
          clear hem
          go_enter Tryz.func7, Tryz.ntmps7
          go_wp2_with fail
          have yl := later_cell K0.out.1 (K0.out.2 17 (by simp)).1
          have yn := later_cell K0.out.1 (K0.out.2 12 (by simp)).1
          simp only [List.getElem_cons_zero, List.getElem_cons_succ] at yl yn
          have ye := later_cell qn.1 qn.2
          refine region_later mixed (by kernel_rfl) ?_
          repeat (go_big_quiet_step (fail))
          refine wpQuiet_nil ?_
          intro wd1 hw'
          obtain ⟨⟨wd1, hwd⟩, rfl⟩ := hw'
          have HBn := Lib.hid (HB.out.trans (hwd.mono HB.out.size))
          have K0n : Hid (CW21 wd1 w.heap.size _ _ _ _ _ _ _ _ _ _ _ _ _ _ _ _ _ _ _ _ _) := CW21.kept K0.out hwd
          have qmn : _ ∧ _ := ⟨Nat.lt_of_lt_of_le qm.1 hwd.size, (hwd.cell (p := ⟨bm, fm + km * 2, none⟩) qm.1).trans qm.2⟩
          clear HB K0 yl yn hwd ye qm 
          clear qn
          have HB := HBn
          have K0 := K0n
          clear HBn K0n
          have qm := qmn
          clear qmn
          obtain ⟨⟨p0, p1, p2, p3, p4, p5, p6, p7, p8, p9, p10, p11, p12, p13, p14, p15, p16, p17, p18, p19, p20⟩, -⟩ := K0.out.get
          go_wp2_with fail
          have yl := later_cell K0.out.1 (K0.out.2 18 (by simp)).1
          have yn := later_cell K0.out.1 (K0.out.2 12 (by simp)).1
          simp only [List.getElem_cons_zero, List.getElem_cons_succ] at yl yn
          have ye := later_cell qm.1 qm.2
          refine region_later mixed (by kernel_rfl) ?_
          repeat (go_big_quiet_step (fail))
          refine wpQuiet_nil ?_
          intro wd2 hw'
          obtain ⟨⟨wd2, hwd⟩, rfl⟩ := hw'
          have HBn := Lib.hid (HB.out.trans (hwd.mono HB.out.size))
          have K0n : Hid (CW21 wd2 w.heap.size _ _ _ _ _ _ _ _ _ _ _ _ _ _ _ _ _ _ _ _ _) := CW21.kept K0.out hwd
          clear HB K0 yl yn hwd ye  p0 p1 p2 p3 p4 p5 p6 p7 p8 p9 p10 p11 p12 p13 p14 p15 p16 p17 p18 p19 p20
          clear qm
          have HB := HBn
          have K0 := K0n
          clear HBn K0n
          obtain ⟨⟨p0, p1, p2, p3, p4, p5, p6, p7, p8, p9, p10, p11, p12, p13, p14, p15, p16, p17, p18, p19, p20⟩, -⟩ := K0.out.get
          go_wp2_with fail
          refine (Sup.spec_setupok h.st HW.out.st.gs a0 c0 a1 c1 a2 c2 _ (HK.out.g.kept HB.out) (HK.out.u.kept HB.out) (HK.out.d.kept HB.out) HS.out.st.1 HS.out.st.2.1 HS.out.st.2.2.1).mono ?_
          rintro e u1 ⟨rfl, hb⟩
          have HBn := Lib.hid (HB.out.trans (hb.mono HB.out.size))
          have K0n : Hid (CW21 u1 w.heap.size _ _ _ _ _ _ _ _ _ _ _ _ _ _ _ _ _ _ _ _ _) := CW21.kept K0.out hb
          clear HB K0 hb p0 p1 p2 p3 p4 p5 p6 p7 p8 p9 p10 p11 p12 p13 p14 p15 p16 p17 p18 p19 p20
          have HB := HBn
          have K0 := K0n
          clear HBn K0n
          cases hv : Sup.setV h.st
          · have HN := Lib.hid (herd_no (h := h) (by simp [partsV]) hv)
            clear hv
            obtain ⟨⟨p0, p1, p2, p3, p4, p5, p6, p7, p8, p9, p10, p11, p12, p13, p14, p15, p16, p17, p18, p19, p20⟩, -⟩ := K0.out.get
            go_wp2
            go_ret
            exact ⟨ret1B HN.out.symm, HB.out⟩
          · have HV1 := Lib.hid hv
            clear hv
            obtain ⟨⟨p0, p1, p2, p3, p4, p5, p6, p7, p8, p9, p10, p11, p12, p13, p14, p15, p16, p17, p18, p19, p20⟩, -⟩ := K0.out.get
            go_wp2_with fail
            refine (LogS.spec_tick6 h.now _).mono ?_
            rintro e u2 ⟨rfl, rfl⟩
            clear p0 p1 p2 p3 p4 p5 p6 p7 p8 p9 p10 p11 p12 p13 p14 p15 p16 p17 p18 p19 p20
            cases hv : tickV h.now
            · have HN := Lib.hid (herd_no (h := h) (by simp [partsV]) hv)
              clear hv
              obtain ⟨⟨p0, p1, p2, p3, p4, p5, p6, p7, p8, p9, p10, p11, p12, p13, p14, p15, p16, p17, p18, p19, p20⟩, -⟩ := K0.out.get
              go_wp2
              go_ret
              exact ⟨ret1B HN.out.symm, HB.out⟩
            · have HV2 := Lib.hid hv
              clear hv
              obtain ⟨⟨p0, p1, p2, p3, p4, p5, p6, p7, p8, p9, p10, p11, p12, p13, p14, p15, p16, p17, p18, p19, p20⟩, -⟩ := K0.out.get
              go_wp2_with fail
              refine (LogS.spec_count6 h.cnt _).mono ?_
              rintro e u3 ⟨rfl, rfl⟩
              clear p0 p1 p2 p3 p4 p5 p6 p7 p8 p9 p10 p11 p12 p13 p14 p15 p16 p17 p18 p19 p20
              cases hv : countV h.cnt
              · have HN := Lib.hid (herd_no (h := h) (by simp [partsV]) hv)
                clear hv
                obtain ⟨⟨p0, p1, p2, p3, p4, p5, p6, p7, p8, p9, p10, p11, p12, p13, p14, p15, p16, p17, p18, p19, p20⟩, -⟩ := K0.out.get
                go_wp2
                go_ret
                exact ⟨ret1B HN.out.symm, HB.out⟩
              · have HV3 := Lib.hid hv
                clear hv
                obtain ⟨⟨p0, p1, p2, p3, p4, p5, p6, p7, p8, p9, p10, p11, p12, p13, p14, p15, p16, p17, p18, p19, p20⟩, -⟩ := K0.out.get
                go_wp2_with fail
                refine (LogS.spec_tick6 h.rev _).mono ?_
                rintro e u4 ⟨rfl, rfl⟩
                clear p0 p1 p2 p3 p4 p5 p6 p7 p8 p9 p10 p11 p12 p13 p14 p15 p16 p17 p18 p19 p20
                cases hv : tickV h.rev
                · have HN := Lib.hid (herd_no (h := h) (by simp [partsV]) hv)
                  clear hv
                  obtain ⟨⟨p0, p1, p2, p3, p4, p5, p6, p7, p8, p9, p10, p11, p12, p13, p14, p15, p16, p17, p18, p19, p20⟩, -⟩ := K0.out.get
                  go_wp2
                  go_ret
                  exact ⟨ret1B HN.out.symm, HB.out⟩
                · have HV4 := Lib.hid hv
                  clear hv
                  obtain ⟨⟨p0, p1, p2, p3, p4, p5, p6, p7, p8, p9, p10, p11, p12, p13, p14, p15, p16, p17, p18, p19, p20⟩, -⟩ := K0.out.get
                  go_wp2_with fail
                  refine (Pok.spec_podsok h.ps HW.out.ps a3 c3 _ (HK.out.p.kept HB.out) HS.out.ps).mono ?_
                  rintro e u5 ⟨rfl, hb⟩
                  have HBn := Lib.hid (HB.out.trans (hb.mono HB.out.size))
                  have K0n : Hid (CW21 u5 w.heap.size _ _ _ _ _ _ _ _ _ _ _ _ _ _ _ _ _ _ _ _ _) := CW21.kept K0.out hb
                  clear HB K0 hb p0 p1 p2 p3 p4 p5 p6 p7 p8 p9 p10 p11 p12 p13 p14 p15 p16 p17 p18 p19 p20
                  have HB := HBn
                  have K0 := K0n
                  clear HBn K0n
                  cases hv : Ros.podsV h.ps
                  · have HN := Lib.hid (herd_no (h := h) (by simp [partsV]) hv)
                    clear hv
                    obtain ⟨⟨p0, p1, p2, p3, p4, p5, p6, p7, p8, p9, p10, p11, p12, p13, p14, p15, p16, p17, p18, p19, p20⟩, -⟩ := K0.out.get
                    go_wp2
                    go_ret
                    exact ⟨ret1B HN.out.symm, HB.out⟩
                  · have HV5 := Lib.hid hv
                    clear hv
                    obtain ⟨⟨p0, p1, p2, p3, p4, p5, p6, p7, p8, p9, p10, p11, p12, p13, p14, p15, p16, p17, p18, p19, p20⟩, -⟩ := K0.out.get
                    go_wp2_with fail
                    refine (spec_storeS h.ss ls HLS.out HW.out.ss a4 c4 _ (HSR.out.kept HB.out) HS.out.ss).mono ?_
                    rintro e u6 ⟨rfl, hb⟩
                    have HBn := Lib.hid (HB.out.trans (hb.mono HB.out.size))
                    have K0n : Hid (CW21 u6 w.heap.size _ _ _ _ _ _ _ _ _ _ _ _ _ _ _ _ _ _ _ _ _) := CW21.kept K0.out hb
                    clear HB K0 hb p0 p1 p2 p3 p4 p5 p6 p7 p8 p9 p10 p11 p12 p13 p14 p15 p16 p17 p18 p19 p20
                    have HB := HBn
                    have K0 := K0n
                    clear HBn K0n
                    cases hv : Sto.storeV h.ss
                    · have HN := Lib.hid (herd_no (h := h) (by simp [partsV]) hv)
                      clear hv
                      obtain ⟨⟨p0, p1, p2, p3, p4, p5, p6, p7, p8, p9, p10, p11, p12, p13, p14, p15, p16, p17, p18, p19, p20⟩, -⟩ := K0.out.get
                      go_wp2
                      go_ret
                      exact ⟨ret1B HN.out.symm, HB.out⟩
                    · have HV6 := Lib.hid hv
                      clear hv
                      obtain ⟨⟨p0, p1, p2, p3, p4, p5, p6, p7, p8, p9, p10, p11, p12, p13, p14, p15, p16, p17, p18, p19, p20⟩, -⟩ := K0.out.get
                      go_wp2_with fail
                      refine (CN.out _ (HK.out.n.kept HB.out)).mono ?_
                      rintro e u7 ⟨rfl, hb⟩
                      have HBn := Lib.hid (HB.out.trans (hb.mono HB.out.size))
                      have K0n : Hid (CW21 u7 w.heap.size _ _ _ _ _ _ _ _ _ _ _ _ _ _ _ _ _ _ _ _ _) := CW21.kept K0.out hb
                      clear HB K0 hb p0 p1 p2 p3 p4 p5 p6 p7 p8 p9 p10 p11 p12 p13 p14 p15 p16 p17 p18 p19 p20
                      have HB := HBn
                      have K0 := K0n
                      clear HBn K0n
                      cases hv : logV noteV h.ns
                      · have HN := Lib.hid (herd_no (h := h) (by simp [partsV]) hv)
                        clear hv
                        obtain ⟨⟨p0, p1, p2, p3, p4, p5, p6, p7, p8, p9, p10, p11, p12, p13, p14, p15, p16, p17, p18, p19, p20⟩, -⟩ := K0.out.get
                        go_wp2
                        go_ret
                        exact ⟨ret1B HN.out.symm, HB.out⟩
                      · have HV7 := Lib.hid hv
                        clear hv
                        obtain ⟨⟨p0, p1, p2, p3, p4, p5, p6, p7, p8, p9, p10, p11, p12, p13, p14, p15, p16, p17, p18, p19, p20⟩, -⟩ := K0.out.get
                        go_wp2_with fail
                        refine (CM.out _ (HK.out.m.kept HB.out)).mono ?_
                        rintro e u8 ⟨rfl, hb⟩
                        have HBn := Lib.hid (HB.out.trans (hb.mono HB.out.size))
                        have K0n : Hid (CW21 u8 w.heap.size _ _ _ _ _ _ _ _ _ _ _ _ _ _ _ _ _ _ _ _ _) := CW21.kept K0.out hb
                        clear HB K0 hb p0 p1 p2 p3 p4 p5 p6 p7 p8 p9 p10 p11 p12 p13 p14 p15 p16 p17 p18 p19 p20
                        have HB := HBn
                        have K0 := K0n
                        clear HBn K0n
                        cases hv : logV moveV h.ms
                        · have HN := Lib.hid (herd_no (h := h) (by simp [partsV]) hv)
                          clear hv
                          obtain ⟨⟨p0, p1, p2, p3, p4, p5, p6, p7, p8, p9, p10, p11, p12, p13, p14, p15, p16, p17, p18, p19, p20⟩, -⟩ := K0.out.get
                          go_wp2
                          go_ret
                          exact ⟨ret1B HN.out.symm, HB.out⟩
                        · have HV8 := Lib.hid hv
                          clear hv
                          obtain ⟨⟨p0, p1, p2, p3, p4, p5, p6, p7, p8, p9, p10, p11, p12, p13, p14, p15, p16, p17, p18, p19, p20⟩, -⟩ := K0.out.get
                          go_wp2_with fail
                          refine (LogS.spec_in6 h.cnd 0 5 _).mono ?_
                          rintro e u9 ⟨rfl, rfl⟩
                          clear p0 p1 p2 p3 p4 p5 p6 p7 p8 p9 p10 p11 p12 p13 p14 p15 p16 p17 p18 p19 p20
                          cases hv : inV h.cnd 0 5
                          · have HN := Lib.hid (herd_no (h := h) (by simp [partsV]) hv)
                            clear hv
                            obtain ⟨⟨p0, p1, p2, p3, p4, p5, p6, p7, p8, p9, p10, p11, p12, p13, p14, p15, p16, p17, p18, p19, p20⟩, -⟩ := K0.out.get
                            go_wp2
                            go_ret
                            exact ⟨ret1B HN.out.symm, HB.out⟩
                          · have HV9 := Lib.hid hv
                            clear hv
                            obtain ⟨⟨p0, p1, p2, p3, p4, p5, p6, p7, p8, p9, p10, p11, p12, p13, p14, p15, p16, p17, p18, p19, p20⟩, -⟩ := K0.out.get
                            go_wp2_with fail
                            refine (LogS.spec_in6 h.flt 0 10 _).mono ?_
                            rintro e u10 ⟨rfl, rfl⟩
                            clear p0 p1 p2 p3 p4 p5 p6 p7 p8 p9 p10 p11 p12 p13 p14 p15 p16 p17 p18 p19 p20
                            have HY : Hid (herdV h = inV h.flt 0 10) := by
                              show _ = _
                              unfold herdV partsV
                              simp [HE1.out, HE2.out, HV1.out, HV2.out, HV3.out, HV4.out, HV5.out, HV6.out, HV7.out, HV8.out, HV9.out]
                            obtain ⟨⟨p0, p1, p2, p3, p4, p5, p6, p7, p8, p9, p10, p11, p12, p13, p14, p15, p16, p17, p18, p19, p20⟩, -⟩ := K0.out.get
                            go_wp2
                            go_ret
                            exact ⟨ret1B HY.out.symm, HB.out⟩
end Go.Proofs.YtgmdfkmmbcpikaaGreat.Hok

/- HerdOk: the model. -/
namespace Go.Proofs.YtgmdfkmmbcpikaaGreat.Hok
open Go.RowKit Go.Deep
open Go.Proofs.YtgmdfkmmbcpikaaGreat.C1
open Go.Proofs.YtgmdfkmmbcpikaaGreat.C2
open Go.Proofs.YtgmdfkmmbcpikaaGreat.Smps
open Go.Proofs.YtgmdfkmmbcpikaaGreat.Mem
open Go.Proofs.YtgmdfkmmbcpikaaGreat.Ser
open Go.Proofs.YtgmdfkmmbcpikaaGreat.Ser2 (cells_new zeroP)
open Go.Proofs.YtgmdfkmmbcpikaaGreat.Pd
open Go.Proofs.YtgmdfkmmbcpikaaGreat.Pds
open Go.Proofs.YtgmdfkmmbcpikaaGreat.Gl
open Go.Proofs.YtgmdfkmmbcpikaaGreat.Gls
open Go.Proofs.YtgmdfkmmbcpikaaGreat.Pl
open Go.Proofs.YtgmdfkmmbcpikaaGreat.BhM
open Go.Proofs.YtgmdfkmmbcpikaaGreat.Set
open Go.Proofs.YtgmdfkmmbcpikaaGreat.Hd
set_option linter.unusedVariables false

theorem spec_herdok (h : Hd) (hw : h.wf) (hs : h.small) (A : Ad) (w : World) (k : HdAt w h A) :
    Calls Tryz.prog 7 #[hdV h A] w fun e w' => e = .returned (.bool (herdV h)) ∧ Below w.heap.size w w' := by
  by_cases hn : h.ns.length = 0
  · by_cases hm : h.ms.length = 0
    · exact spec_herdok00 h hw hs A w k hn hm
    · exact spec_herdok01 h hw hs A w k hn hm
  · by_cases hm : h.ms.length = 0
    · exact spec_herdok10 h hw hs A w k hn hm
    · exact spec_herdok11 h hw hs A w k hn hm
end Go.Proofs.YtgmdfkmmbcpikaaGreat.Hok

/- HerdOk: the program. -/
namespace Go.Proofs.YtgmdfkmmbcpikaaGreat.Hok
open Go.RowKit Go.Deep
open Go.Proofs.YtgmdfkmmbcpikaaGreat.C1
open Go.Proofs.YtgmdfkmmbcpikaaGreat.C2
open Go.Proofs.YtgmdfkmmbcpikaaGreat.Smps
open Go.Proofs.YtgmdfkmmbcpikaaGreat.Mem
open Go.Proofs.YtgmdfkmmbcpikaaGreat.Ser
open Go.Proofs.YtgmdfkmmbcpikaaGreat.Ser2 (cells_new zeroP)
open Go.Proofs.YtgmdfkmmbcpikaaGreat.Pd
open Go.Proofs.YtgmdfkmmbcpikaaGreat.Pds
open Go.Proofs.YtgmdfkmmbcpikaaGreat.Gl
open Go.Proofs.YtgmdfkmmbcpikaaGreat.Gls
open Go.Proofs.YtgmdfkmmbcpikaaGreat.Pl
open Go.Proofs.YtgmdfkmmbcpikaaGreat.BhM
open Go.Proofs.YtgmdfkmmbcpikaaGreat.Set
open Go.Proofs.YtgmdfkmmbcpikaaGreat.Hd
set_option linter.unusedVariables false

/-! ### The program's. -/
theorem impl_cond (c : Int) (w : World) : Calls Tryz.prog 81 #[.int .i64 c] w fun e w' => e = .returned (.bool (inV c 0 5)) ∧ w = w' := by
  rcases BhI.inV_ways c 0 5 with ⟨h1, h2, e⟩ | ⟨h1, e⟩ | ⟨h1, h2, e⟩
  all_goals
    rw [e]
    clear e
    go_enter Tryz.func81, Tryz.ntmps81
    go_wp2
    go_ret
    exact ⟨ret1B (by first | rfl | (simp; try omega)), rfl⟩
theorem impl_faults (c : Int) (w : World) : Calls Tryz.prog 82 #[.int .i64 c] w fun e w' => e = .returned (.bool (inV c 0 10)) ∧ w = w' := by
  rcases BhI.inV_ways c 0 10 with ⟨h1, h2, e⟩ | ⟨h1, e⟩ | ⟨h1, h2, e⟩
  all_goals
    rw [e]
    clear e
    go_enter Tryz.func82, Tryz.ntmps82
    go_wp2
    go_ret
    exact ⟨ret1B (by first | rfl | (simp; try omega)), rfl⟩
def numV (h : Hd) : Bool := tickV h.now && (countV h.cnt && (tickV h.rev && (inV h.cnd 0 5 && inV h.flt 0 10)))
def logsV (h : Hd) : Bool := logV noteV h.ns && (logV moveV h.ms && (endV h.ns h.now && endV h.ms h.now))
set_option maxHeartbeats 4000000 in
set_option maxRecDepth 20000 in
theorem num_ok (h : Hd) (hw : h.wf) (hs : h.small) (A : Ad) (w : World) (k : HdAt w h A) :
    Calls Tryz.prog 38 #[hdV h A] w fun e w' => e = .returned (.bool (numV h)) ∧ Below w.heap.size w w' := by
  obtain ⟨a0, c0, a1, c1, a2, c2, a3, c3, a4, c4, a5, c5, a6, c6⟩ := A
  have HK := Lib.hid k
  have HW := Lib.hid hw
  have HS := Lib.hid hs
  clear k hw hs
  have hb := box_below w #[.int .i64 h.st.rl.dl, .int .i64 h.st.rl.fr, .int .i64 h.st.rl.wi, .slice a0 h.st.gs.length c0, .slice a1 h.st.bh.up.ps.length c1, .int .i64 h.st.bh.up.sel, .int .i64 h.st.bh.up.win, .slice a2 h.st.bh.dn.ps.length c2, .int .i64 h.st.bh.dn.sel, .int .i64 h.st.bh.dn.win, .int .i64 h.st.bh.mn, .int .i64 h.st.bh.mx, .int .i64 h.now, .int .i64 h.cnt, .int .i64 h.rev, .slice a3 h.ps.length c3, .slice a4 h.ss.length c4, .slice a5 h.ns.length c5, .slice a6 h.ms.length c6, .int .i64 h.cnd, .int .i64 h.flt] 54
  have hk := cells_new w #[.int .i64 h.st.rl.dl, .int .i64 h.st.rl.fr, .int .i64 h.st.rl.wi, .slice a0 h.st.gs.length c0, .slice a1 h.st.bh.up.ps.length c1, .int .i64 h.st.bh.up.sel, .int .i64 h.st.bh.up.win, .slice a2 h.st.bh.dn.ps.length c2, .int .i64 h.st.bh.dn.sel, .int .i64 h.st.bh.dn.win, .int .i64 h.st.bh.mn, .int .i64 h.st.bh.mx, .int .i64 h.now, .int .i64 h.cnt, .int .i64 h.rev, .slice a3 h.ps.length c3, .slice a4 h.ss.length c4, .slice a5 h.ns.length c5, .slice a6 h.ms.length c6, .int .i64 h.cnd, .int .i64 h.flt] 54
  have HB := Lib.hid hb
  have K0 : Hid (CW21 _ w.heap.size _ _ _ _ _ _ _ _ _ _ _ _ _ _ _ _ _ _ _ _ _) := hk
  clear hb hk
  dsimp only [hdV]
  go_enter Tryz.func38, Tryz.ntmps38
  go_wp2_with fail
  refine (BhI.impl_tick6 h.now _).mono ?_
  rintro e u1 ⟨rfl, rfl⟩
  cases hv : tickV h.now
  · have HN := Lib.hid hv
    clear hv
    obtain ⟨⟨p0, p1, p2, p3, p4, p5, p6, p7, p8, p9, p10, p11, p12, p13, p14, p15, p16, p17, p18, p19, p20⟩, -⟩ := K0.out.get
    go_wp2
    go_ret
    exact ⟨ret1B (by unfold numV; rw [HN.out]; first | done | rfl), HB.out⟩
  · have HV1 := Lib.hid hv
    clear hv
    obtain ⟨⟨p0, p1, p2, p3, p4, p5, p6, p7, p8, p9, p10, p11, p12, p13, p14, p15, p16, p17, p18, p19, p20⟩, -⟩ := K0.out.get
    go_wp2_with fail
    refine (BhI.impl_count6 h.cnt _).mono ?_
    rintro e u2 ⟨rfl, rfl⟩
    clear p0 p1 p2 p3 p4 p5 p6 p7 p8 p9 p10 p11 p12 p13 p14 p15 p16 p17 p18 p19 p20
    cases hv : countV h.cnt
    · have HN := Lib.hid hv
      clear hv
      obtain ⟨⟨p0, p1, p2, p3, p4, p5, p6, p7, p8, p9, p10, p11, p12, p13, p14, p15, p16, p17, p18, p19, p20⟩, -⟩ := K0.out.get
      go_wp2
      go_ret
      exact ⟨ret1B (by unfold numV; rw [HV1.out, HN.out]; first | done | rfl), HB.out⟩
    · have HV2 := Lib.hid hv
      clear hv
      obtain ⟨⟨p0, p1, p2, p3, p4, p5, p6, p7, p8, p9, p10, p11, p12, p13, p14, p15, p16, p17, p18, p19, p20⟩, -⟩ := K0.out.get
      go_wp2_with fail
      refine (BhI.impl_tick6 h.rev _).mono ?_
      rintro e u3 ⟨rfl, rfl⟩
      clear p0 p1 p2 p3 p4 p5 p6 p7 p8 p9 p10 p11 p12 p13 p14 p15 p16 p17 p18 p19 p20
      cases hv : tickV h.rev
      · have HN := Lib.hid hv
        clear hv
        obtain ⟨⟨p0, p1, p2, p3, p4, p5, p6, p7, p8, p9, p10, p11, p12, p13, p14, p15, p16, p17, p18, p19, p20⟩, -⟩ := K0.out.get
        go_wp2
        go_ret
        exact ⟨ret1B (by unfold numV; rw [HV1.out, HV2.out, HN.out]; first | done | rfl), HB.out⟩
      · have HV3 := Lib.hid hv
        clear hv
        obtain ⟨⟨p0, p1, p2, p3, p4, p5, p6, p7, p8, p9, p10, p11, p12, p13, p14, p15, p16, p17, p18, p19, p20⟩, -⟩ := K0.out.get
        go_wp2_with fail
        refine (impl_cond h.cnd _).mono ?_
        rintro e u4 ⟨rfl, rfl⟩
        clear p0 p1 p2 p3 p4 p5 p6 p7 p8 p9 p10 p11 p12 p13 p14 p15 p16 p17 p18 p19 p20
        cases hv : inV h.cnd 0 5
        · have HN := Lib.hid hv
          clear hv
          obtain ⟨⟨p0, p1, p2, p3, p4, p5, p6, p7, p8, p9, p10, p11, p12, p13, p14, p15, p16, p17, p18, p19, p20⟩, -⟩ := K0.out.get
          go_wp2
          go_ret
          exact ⟨ret1B (by unfold numV; rw [HV1.out, HV2.out, HV3.out, HN.out]; first | done | rfl), HB.out⟩
        · have HV4 := Lib.hid hv
          clear hv
          obtain ⟨⟨p0, p1, p2, p3, p4, p5, p6, p7, p8, p9, p10, p11, p12, p13, p14, p15, p16, p17, p18, p19, p20⟩, -⟩ := K0.out.get
          go_wp2_with fail
          refine (impl_faults h.flt _).mono ?_
          rintro e u5 ⟨rfl, rfl⟩
          clear p0 p1 p2 p3 p4 p5 p6 p7 p8 p9 p10 p11 p12 p13 p14 p15 p16 p17 p18 p19 p20
          obtain ⟨⟨p0, p1, p2, p3, p4, p5, p6, p7, p8, p9, p10, p11, p12, p13, p14, p15, p16, p17, p18, p19, p20⟩, -⟩ := K0.out.get
          go_wp2
          go_ret
          exact ⟨ret1B (by unfold numV; rw [HV1.out, HV2.out, HV3.out, HV4.out]; first | done | rfl), HB.out⟩
set_option maxHeartbeats 4000000 in
set_option maxRecDepth 20000 in
theorem logs_ok (h : Hd) (hw : h.wf) (hs : h.small) (A : Ad) (w : World) (k : HdAt w h A) :
    Calls Tryz.prog 41 #[hdV h A] w fun e w' => e = .returned (.bool (logsV h)) ∧ Below w.heap.size w w' := by
  obtain ⟨a0, c0, a1, c1, a2, c2, a3, c3, a4, c4, a5, c5, a6, c6⟩ := A
  have HK := Lib.hid k
  have HW := Lib.hid hw
  have HS := Lib.hid hs
  clear k hw hs
  have hb := box_below w #[.int .i64 h.st.rl.dl, .int .i64 h.st.rl.fr, .int .i64 h.st.rl.wi, .slice a0 h.st.gs.length c0, .slice a1 h.st.bh.up.ps.length c1, .int .i64 h.st.bh.up.sel, .int .i64 h.st.bh.up.win, .slice a2 h.st.bh.dn.ps.length c2, .int .i64 h.st.bh.dn.sel, .int .i64 h.st.bh.dn.win, .int .i64 h.st.bh.mn, .int .i64 h.st.bh.mx, .int .i64 h.now, .int .i64 h.cnt, .int .i64 h.rev, .slice a3 h.ps.length c3, .slice a4 h.ss.length c4, .slice a5 h.ns.length c5, .slice a6 h.ms.length c6, .int .i64 h.cnd, .int .i64 h.flt] 54
  have hk := cells_new w #[.int .i64 h.st.rl.dl, .int .i64 h.st.rl.fr, .int .i64 h.st.rl.wi, .slice a0 h.st.gs.length c0, .slice a1 h.st.bh.up.ps.length c1, .int .i64 h.st.bh.up.sel, .int .i64 h.st.bh.up.win, .slice a2 h.st.bh.dn.ps.length c2, .int .i64 h.st.bh.dn.sel, .int .i64 h.st.bh.dn.win, .int .i64 h.st.bh.mn, .int .i64 h.st.bh.mx, .int .i64 h.now, .int .i64 h.cnt, .int .i64 h.rev, .slice a3 h.ps.length c3, .slice a4 h.ss.length c4, .slice a5 h.ns.length c5, .slice a6 h.ms.length c6, .int .i64 h.cnd, .int .i64 h.flt] 54
  have HB := Lib.hid hb
  have K0 : Hid (CW21 _ w.heap.size _ _ _ _ _ _ _ _ _ _ _ _ _ _ _ _ _ _ _ _ _) := hk
  clear hb hk
  dsimp only [hdV]
  go_enter Tryz.func41, Tryz.ntmps41
  go_wp2_with fail
  refine (LogI.impl_notesok h.ns a5 c5 _ (HK.out.n.kept HB.out) HS.out.ns).mono ?_
  rintro e u1 ⟨rfl, hb⟩
  have HBn := Lib.hid (HB.out.trans (hb.mono HB.out.size))
  have K0n : Hid (CW21 u1 w.heap.size _ _ _ _ _ _ _ _ _ _ _ _ _ _ _ _ _ _ _ _ _) := CW21.kept K0.out hb
  clear HB K0 hb 
  have HB := HBn
  have K0 := K0n
  clear HBn K0n
  cases hv : logV noteV h.ns
  · have HN := Lib.hid hv
    clear hv
    obtain ⟨⟨p0, p1, p2, p3, p4, p5, p6, p7, p8, p9, p10, p11, p12, p13, p14, p15, p16, p17, p18, p19, p20⟩, -⟩ := K0.out.get
    go_wp2
    go_ret
    exact ⟨ret1B (by unfold logsV; rw [HN.out]; first | done | rfl), HB.out⟩
  · have HV1 := Lib.hid hv
    clear hv
    obtain ⟨⟨p0, p1, p2, p3, p4, p5, p6, p7, p8, p9, p10, p11, p12, p13, p14, p15, p16, p17, p18, p19, p20⟩, -⟩ := K0.out.get
    go_wp2_with fail
    refine (LogI.impl_movesok h.ms a6 c6 _ (HK.out.m.kept HB.out) HS.out.ms).mono ?_
    rintro e u2 ⟨rfl, hb⟩
    have HBn := Lib.hid (HB.out.trans (hb.mono HB.out.size))
    have K0n : Hid (CW21 u2 w.heap.size _ _ _ _ _ _ _ _ _ _ _ _ _ _ _ _ _ _ _ _ _) := CW21.kept K0.out hb
    clear HB K0 hb p0 p1 p2 p3 p4 p5 p6 p7 p8 p9 p10 p11 p12 p13 p14 p15 p16 p17 p18 p19 p20
    have HB := HBn
    have K0 := K0n
    clear HBn K0n
    cases hv : logV moveV h.ms
    · have HN := Lib.hid hv
      clear hv
      obtain ⟨⟨p0, p1, p2, p3, p4, p5, p6, p7, p8, p9, p10, p11, p12, p13, p14, p15, p16, p17, p18, p19, p20⟩, -⟩ := K0.out.get
      go_wp2
      go_ret
      exact ⟨ret1B (by unfold logsV; rw [HV1.out, HN.out]; first | done | rfl), HB.out⟩
    · have HV2 := Lib.hid hv
      clear hv
      obtain ⟨⟨p0, p1, p2, p3, p4, p5, p6, p7, p8, p9, p10, p11, p12, p13, p14, p15, p16, p17, p18, p19, p20⟩, -⟩ := K0.out.get
      go_wp2_with fail
      refine (ends_note h.ns a5 c5 h.now _ (HK.out.n.kept HB.out) HS.out.ns).mono ?_
      rintro e u3 ⟨rfl, hb⟩
      have HBn := Lib.hid (HB.out.trans (hb.mono HB.out.size))
      have K0n : Hid (CW21 u3 w.heap.size _ _ _ _ _ _ _ _ _ _ _ _ _ _ _ _ _ _ _ _ _) := CW21.kept K0.out hb
      clear HB K0 hb p0 p1 p2 p3 p4 p5 p6 p7 p8 p9 p10 p11 p12 p13 p14 p15 p16 p17 p18 p19 p20
      have HB := HBn
      have K0 := K0n
      clear HBn K0n
      cases hv : endV h.ns h.now
      · have HN := Lib.hid hv
        clear hv
        obtain ⟨⟨p0, p1, p2, p3, p4, p5, p6, p7, p8, p9, p10, p11, p12, p13, p14, p15, p16, p17, p18, p19, p20⟩, -⟩ := K0.out.get
        go_wp2
        go_ret
        exact ⟨ret1B (by unfold logsV; rw [HV1.out, HV2.out, HN.out]; first | done | rfl), HB.out⟩
      · have HV3 := Lib.hid hv
        clear hv
        obtain ⟨⟨p0, p1, p2, p3, p4, p5, p6, p7, p8, p9, p10, p11, p12, p13, p14, p15, p16, p17, p18, p19, p20⟩, -⟩ := K0.out.get
        go_wp2_with fail
        refine (ends_move h.ms a6 c6 h.now _ (HK.out.m.kept HB.out) HS.out.ms).mono ?_
        rintro e u4 ⟨rfl, hb⟩
        have HBn := Lib.hid (HB.out.trans (hb.mono HB.out.size))
        have K0n : Hid (CW21 u4 w.heap.size _ _ _ _ _ _ _ _ _ _ _ _ _ _ _ _ _ _ _ _ _) := CW21.kept K0.out hb
        clear HB K0 hb p0 p1 p2 p3 p4 p5 p6 p7 p8 p9 p10 p11 p12 p13 p14 p15 p16 p17 p18 p19 p20
        have HB := HBn
        have K0 := K0n
        clear HBn K0n
        obtain ⟨⟨p0, p1, p2, p3, p4, p5, p6, p7, p8, p9, p10, p11, p12, p13, p14, p15, p16, p17, p18, p19, p20⟩, -⟩ := K0.out.get
        go_wp2
        go_ret
        exact ⟨ret1B (by unfold logsV; rw [HV1.out, HV2.out, HV3.out]; first | done | rfl), HB.out⟩
theorem herd_eq (h : Hd) : herdV h = (Sup.setV h.st && (numV h && (Ros.podsV h.ps && (Sto.storeV h.ss && logsV h)))) := by
  unfold herdV partsV numV logsV
  cases endV h.ns h.now <;> cases endV h.ms h.now <;> cases Sup.setV h.st <;> cases tickV h.now <;> cases countV h.cnt <;> cases tickV h.rev <;> cases inV h.cnd 0 5 <;> simp <;> cases Ros.podsV h.ps <;> cases Sto.storeV h.ss <;> cases inV h.flt 0 10 <;> simp
theorem impl_no (h : Hd) (c : Sup.setV h.st = false ∨ numV h = false ∨ Ros.podsV h.ps = false ∨ Sto.storeV h.ss = false) : herdV h = false := by
  rw [herd_eq]
  rcases c with c | c | c | c <;> rw [c] <;> simp
set_option maxHeartbeats 4000000 in
set_option maxRecDepth 20000 in
theorem impl_herdok (h : Hd) (hw : h.wf) (hs : h.small) (A : Ad) (w : World) (k : HdAt w h A) (hcap : h.st.gs.length ≤ A.c0) :
    Calls Tryz.prog 9 #[hdV h A] w fun e w' => e = .returned (.bool (herdV h)) ∧ Below w.heap.size w w' := by
  obtain ⟨a0, c0, a1, c1, a2, c2, a3, c3, a4, c4, a5, c5, a6, c6⟩ := A
  have HK := Lib.hid k
  have HW := Lib.hid hw
  have HS := Lib.hid hs
  clear k hw hs
  obtain ⟨ls, hls, hsr⟩ := HK.out.s
  have HLS := Lib.hid hls
  have HSR := Lib.hid hsr
  clear hls hsr
  have HCAP : Hid (h.st.gs.length ≤ c0) := hcap
  clear hcap
  have hb := box_below w #[.int .i64 h.st.rl.dl, .int .i64 h.st.rl.fr, .int .i64 h.st.rl.wi, .slice a0 h.st.gs.length c0, .slice a1 h.st.bh.up.ps.length c1, .int .i64 h.st.bh.up.sel, .int .i64 h.st.bh.up.win, .slice a2 h.st.bh.dn.ps.length c2, .int .i64 h.st.bh.dn.sel, .int .i64 h.st.bh.dn.win, .int .i64 h.st.bh.mn, .int .i64 h.st.bh.mx, .int .i64 h.now, .int .i64 h.cnt, .int .i64 h.rev, .slice a3 h.ps.length c3, .slice a4 h.ss.length c4, .slice a5 h.ns.length c5, .slice a6 h.ms.length c6, .int .i64 h.cnd, .int .i64 h.flt] 54
  have hk := cells_new w #[.int .i64 h.st.rl.dl, .int .i64 h.st.rl.fr, .int .i64 h.st.rl.wi, .slice a0 h.st.gs.length c0, .slice a1 h.st.bh.up.ps.length c1, .int .i64 h.st.bh.up.sel, .int .i64 h.st.bh.up.win, .slice a2 h.st.bh.dn.ps.length c2, .int .i64 h.st.bh.dn.sel, .int .i64 h.st.bh.dn.win, .int .i64 h.st.bh.mn, .int .i64 h.st.bh.mx, .int .i64 h.now, .int .i64 h.cnt, .int .i64 h.rev, .slice a3 h.ps.length c3, .slice a4 h.ss.length c4, .slice a5 h.ns.length c5, .slice a6 h.ms.length c6, .int .i64 h.cnd, .int .i64 h.flt] 54
  have HB := Lib.hid hb
  have K0 : Hid (CW21 _ w.heap.size _ _ _ _ _ _ _ _ _ _ _ _ _ _ _ _ _ _ _ _ _) := hk
  clear hb hk
  dsimp only [hdV]
  go_enter Tryz.func9, Tryz.ntmps9
  go_wp2_with fail
  refine (Sup.impl_setupok h.st HW.out.st.gs a0 c0 a1 c1 a2 c2 _ (HK.out.g.kept HB.out) (HK.out.u.kept HB.out) (HK.out.d.kept HB.out) HS.out.st.1 HS.out.st.2.1 HS.out.st.2.2.1 HCAP.out).mono ?_
  rintro e u1 ⟨rfl, hb⟩
  have HBn := Lib.hid (HB.out.trans (hb.mono HB.out.size))
  have K0n : Hid (CW21 u1 w.heap.size _ _ _ _ _ _ _ _ _ _ _ _ _ _ _ _ _ _ _ _ _) := CW21.kept K0.out hb
  clear HB K0 hb 
  have HB := HBn
  have K0 := K0n
  clear HBn K0n
  cases hv : Sup.setV h.st
  · have HN := Lib.hid (impl_no h (by simp [hv]))
    clear hv
    obtain ⟨⟨p0, p1, p2, p3, p4, p5, p6, p7, p8, p9, p10, p11, p12, p13, p14, p15, p16, p17, p18, p19, p20⟩, -⟩ := K0.out.get
    go_wp2
    go_ret
    exact ⟨ret1B HN.out.symm, HB.out⟩
  · have HV1 := Lib.hid hv
    clear hv
    obtain ⟨⟨p0, p1, p2, p3, p4, p5, p6, p7, p8, p9, p10, p11, p12, p13, p14, p15, p16, p17, p18, p19, p20⟩, -⟩ := K0.out.get
    go_wp2_with (first | (refine Go.BigFrame.wpList_want rfl (fun K hK => wp_load_mid 54 _ rfl w.heap.size 0 rfl [.int .i64 h.st.rl.dl, .int .i64 h.st.rl.fr, .int .i64 h.st.rl.wi, .slice a0 h.st.gs.length c0, .slice a1 h.st.bh.up.ps.length c1, .int .i64 h.st.bh.up.sel, .int .i64 h.st.bh.up.win, .slice a2 h.st.bh.dn.ps.length c2, .int .i64 h.st.bh.dn.sel, .int .i64 h.st.bh.dn.win, .int .i64 h.st.bh.mn, .int .i64 h.st.bh.mx, .int .i64 h.now, .int .i64 h.cnt, .int .i64 h.rev, .slice a3 h.ps.length c3, .slice a4 h.ss.length c4, .slice a5 h.ns.length c5, .slice a6 h.ms.length c6, .int .i64 h.cnd, .int .i64 h.flt] _ (range_all K0.out) Tryz.underlying54 rfl info_hd (hK _ _ ?_))) | (refine wpList_load_mid rfl 54 _ rfl w.heap.size 0 rfl [.int .i64 h.st.rl.dl, .int .i64 h.st.rl.fr, .int .i64 h.st.rl.wi, .slice a0 h.st.gs.length c0, .slice a1 h.st.bh.up.ps.length c1, .int .i64 h.st.bh.up.sel, .int .i64 h.st.bh.up.win, .slice a2 h.st.bh.dn.ps.length c2, .int .i64 h.st.bh.dn.sel, .int .i64 h.st.bh.dn.win, .int .i64 h.st.bh.mn, .int .i64 h.st.bh.mx, .int .i64 h.now, .int .i64 h.cnt, .int .i64 h.rev, .slice a3 h.ps.length c3, .slice a4 h.ss.length c4, .slice a5 h.ns.length c5, .slice a6 h.ms.length c6, .int .i64 h.cnd, .int .i64 h.flt] _ (range_all K0.out) Tryz.underlying54 rfl info_hd ?_))
    refine (num_ok h HW.out HS.out ⟨a0, c0, a1, c1, a2, c2, a3, c3, a4, c4, a5, c5, a6, c6⟩ _ (HK.out.kept HB.out)).mono ?_
    rintro e u2 ⟨rfl, hb⟩
    have HBn := Lib.hid (HB.out.trans (hb.mono HB.out.size))
    have K0n : Hid (CW21 u2 w.heap.size _ _ _ _ _ _ _ _ _ _ _ _ _ _ _ _ _ _ _ _ _) := CW21.kept K0.out hb
    clear HB K0 hb p0 p1 p2 p3 p4 p5 p6 p7 p8 p9 p10 p11 p12 p13 p14 p15 p16 p17 p18 p19 p20
    have HB := HBn
    have K0 := K0n
    clear HBn K0n
    cases hv : numV h
    · have HN := Lib.hid (impl_no h (by simp [hv]))
      clear hv
      obtain ⟨⟨p0, p1, p2, p3, p4, p5, p6, p7, p8, p9, p10, p11, p12, p13, p14, p15, p16, p17, p18, p19, p20⟩, -⟩ := K0.out.get
      go_wp2
      go_ret
      exact ⟨ret1B HN.out.symm, HB.out⟩
    · have HV2 := Lib.hid hv
      clear hv
      obtain ⟨⟨p0, p1, p2, p3, p4, p5, p6, p7, p8, p9, p10, p11, p12, p13, p14, p15, p16, p17, p18, p19, p20⟩, -⟩ := K0.out.get
      go_wp2_with (first | (refine Go.BigFrame.wpList_want rfl (fun K hK => wp_load_mid 54 _ rfl w.heap.size 0 rfl [.int .i64 h.st.rl.dl, .int .i64 h.st.rl.fr, .int .i64 h.st.rl.wi, .slice a0 h.st.gs.length c0, .slice a1 h.st.bh.up.ps.length c1, .int .i64 h.st.bh.up.sel, .int .i64 h.st.bh.up.win, .slice a2 h.st.bh.dn.ps.length c2, .int .i64 h.st.bh.dn.sel, .int .i64 h.st.bh.dn.win, .int .i64 h.st.bh.mn, .int .i64 h.st.bh.mx, .int .i64 h.now, .int .i64 h.cnt, .int .i64 h.rev, .slice a3 h.ps.length c3, .slice a4 h.ss.length c4, .slice a5 h.ns.length c5, .slice a6 h.ms.length c6, .int .i64 h.cnd, .int .i64 h.flt] _ (range_all K0.out) Tryz.underlying54 rfl info_hd (hK _ _ ?_))) | (refine wpList_load_mid rfl 54 _ rfl w.heap.size 0 rfl [.int .i64 h.st.rl.dl, .int .i64 h.st.rl.fr, .int .i64 h.st.rl.wi, .slice a0 h.st.gs.length c0, .slice a1 h.st.bh.up.ps.length c1, .int .i64 h.st.bh.up.sel, .int .i64 h.st.bh.up.win, .slice a2 h.st.bh.dn.ps.length c2, .int .i64 h.st.bh.dn.sel, .int .i64 h.st.bh.dn.win, .int .i64 h.st.bh.mn, .int .i64 h.st.bh.mx, .int .i64 h.now, .int .i64 h.cnt, .int .i64 h.rev, .slice a3 h.ps.length c3, .slice a4 h.ss.length c4, .slice a5 h.ns.length c5, .slice a6 h.ms.length c6, .int .i64 h.cnd, .int .i64 h.flt] _ (range_all K0.out) Tryz.underlying54 rfl info_hd ?_))
      refine (PokI.impl_podsok h.ps HW.out.ps a3 c3 _ (HK.out.p.kept HB.out) HS.out.ps).mono ?_
      rintro e u3 ⟨rfl, hb⟩
      have HBn := Lib.hid (HB.out.trans (hb.mono HB.out.size))
      have K0n : Hid (CW21 u3 w.heap.size _ _ _ _ _ _ _ _ _ _ _ _ _ _ _ _ _ _ _ _ _) := CW21.kept K0.out hb
      clear HB K0 hb p0 p1 p2 p3 p4 p5 p6 p7 p8 p9 p10 p11 p12 p13 p14 p15 p16 p17 p18 p19 p20
      have HB := HBn
      have K0 := K0n
      clear HBn K0n
      cases hv : Ros.podsV h.ps
      · have HN := Lib.hid (impl_no h (by simp [hv]))
        clear hv
        obtain ⟨⟨p0, p1, p2, p3, p4, p5, p6, p7, p8, p9, p10, p11, p12, p13, p14, p15, p16, p17, p18, p19, p20⟩, -⟩ := K0.out.get
        go_wp2
        go_ret
        exact ⟨ret1B HN.out.symm, HB.out⟩
      · have HV3 := Lib.hid hv
        clear hv
        obtain ⟨⟨p0, p1, p2, p3, p4, p5, p6, p7, p8, p9, p10, p11, p12, p13, p14, p15, p16, p17, p18, p19, p20⟩, -⟩ := K0.out.get
        go_wp2_with (first | (refine Go.BigFrame.wpList_want rfl (fun K hK => wp_load_mid 54 _ rfl w.heap.size 0 rfl [.int .i64 h.st.rl.dl, .int .i64 h.st.rl.fr, .int .i64 h.st.rl.wi, .slice a0 h.st.gs.length c0, .slice a1 h.st.bh.up.ps.length c1, .int .i64 h.st.bh.up.sel, .int .i64 h.st.bh.up.win, .slice a2 h.st.bh.dn.ps.length c2, .int .i64 h.st.bh.dn.sel, .int .i64 h.st.bh.dn.win, .int .i64 h.st.bh.mn, .int .i64 h.st.bh.mx, .int .i64 h.now, .int .i64 h.cnt, .int .i64 h.rev, .slice a3 h.ps.length c3, .slice a4 h.ss.length c4, .slice a5 h.ns.length c5, .slice a6 h.ms.length c6, .int .i64 h.cnd, .int .i64 h.flt] _ (range_all K0.out) Tryz.underlying54 rfl info_hd (hK _ _ ?_))) | (refine wpList_load_mid rfl 54 _ rfl w.heap.size 0 rfl [.int .i64 h.st.rl.dl, .int .i64 h.st.rl.fr, .int .i64 h.st.rl.wi, .slice a0 h.st.gs.length c0, .slice a1 h.st.bh.up.ps.length c1, .int .i64 h.st.bh.up.sel, .int .i64 h.st.bh.up.win, .slice a2 h.st.bh.dn.ps.length c2, .int .i64 h.st.bh.dn.sel, .int .i64 h.st.bh.dn.win, .int .i64 h.st.bh.mn, .int .i64 h.st.bh.mx, .int .i64 h.now, .int .i64 h.cnt, .int .i64 h.rev, .slice a3 h.ps.length c3, .slice a4 h.ss.length c4, .slice a5 h.ns.length c5, .slice a6 h.ms.length c6, .int .i64 h.cnd, .int .i64 h.flt] _ (range_all K0.out) Tryz.underlying54 rfl info_hd ?_))
        refine (impl_storeS h.ss ls HLS.out HW.out.ss HS.out.pt a4 c4 _ (HSR.out.kept HB.out) HS.out.ss).mono ?_
        rintro e u4 ⟨rfl, hb⟩
        have HBn := Lib.hid (HB.out.trans (hb.mono HB.out.size))
        have K0n : Hid (CW21 u4 w.heap.size _ _ _ _ _ _ _ _ _ _ _ _ _ _ _ _ _ _ _ _ _) := CW21.kept K0.out hb
        clear HB K0 hb p0 p1 p2 p3 p4 p5 p6 p7 p8 p9 p10 p11 p12 p13 p14 p15 p16 p17 p18 p19 p20
        have HB := HBn
        have K0 := K0n
        clear HBn K0n
        cases hv : Sto.storeV h.ss
        · have HN := Lib.hid (impl_no h (by simp [hv]))
          clear hv
          obtain ⟨⟨p0, p1, p2, p3, p4, p5, p6, p7, p8, p9, p10, p11, p12, p13, p14, p15, p16, p17, p18, p19, p20⟩, -⟩ := K0.out.get
          go_wp2
          go_ret
          exact ⟨ret1B HN.out.symm, HB.out⟩
        · have HV4 := Lib.hid hv
          clear hv
          obtain ⟨⟨p0, p1, p2, p3, p4, p5, p6, p7, p8, p9, p10, p11, p12, p13, p14, p15, p16, p17, p18, p19, p20⟩, -⟩ := K0.out.get
          go_wp2_with (first | (refine Go.BigFrame.wpList_want rfl (fun K hK => wp_load_mid 54 _ rfl w.heap.size 0 rfl [.int .i64 h.st.rl.dl, .int .i64 h.st.rl.fr, .int .i64 h.st.rl.wi, .slice a0 h.st.gs.length c0, .slice a1 h.st.bh.up.ps.length c1, .int .i64 h.st.bh.up.sel, .int .i64 h.st.bh.up.win, .slice a2 h.st.bh.dn.ps.length c2, .int .i64 h.st.bh.dn.sel, .int .i64 h.st.bh.dn.win, .int .i64 h.st.bh.mn, .int .i64 h.st.bh.mx, .int .i64 h.now, .int .i64 h.cnt, .int .i64 h.rev, .slice a3 h.ps.length c3, .slice a4 h.ss.length c4, .slice a5 h.ns.length c5, .slice a6 h.ms.length c6, .int .i64 h.cnd, .int .i64 h.flt] _ (range_all K0.out) Tryz.underlying54 rfl info_hd (hK _ _ ?_))) | (refine wpList_load_mid rfl 54 _ rfl w.heap.size 0 rfl [.int .i64 h.st.rl.dl, .int .i64 h.st.rl.fr, .int .i64 h.st.rl.wi, .slice a0 h.st.gs.length c0, .slice a1 h.st.bh.up.ps.length c1, .int .i64 h.st.bh.up.sel, .int .i64 h.st.bh.up.win, .slice a2 h.st.bh.dn.ps.length c2, .int .i64 h.st.bh.dn.sel, .int .i64 h.st.bh.dn.win, .int .i64 h.st.bh.mn, .int .i64 h.st.bh.mx, .int .i64 h.now, .int .i64 h.cnt, .int .i64 h.rev, .slice a3 h.ps.length c3, .slice a4 h.ss.length c4, .slice a5 h.ns.length c5, .slice a6 h.ms.length c6, .int .i64 h.cnd, .int .i64 h.flt] _ (range_all K0.out) Tryz.underlying54 rfl info_hd ?_))
          refine (logs_ok h HW.out HS.out ⟨a0, c0, a1, c1, a2, c2, a3, c3, a4, c4, a5, c5, a6, c6⟩ _ (HK.out.kept HB.out)).mono ?_
          rintro e u5 ⟨rfl, hb⟩
          have HBn := Lib.hid (HB.out.trans (hb.mono HB.out.size))
          have K0n : Hid (CW21 u5 w.heap.size _ _ _ _ _ _ _ _ _ _ _ _ _ _ _ _ _ _ _ _ _) := CW21.kept K0.out hb
          clear HB K0 hb p0 p1 p2 p3 p4 p5 p6 p7 p8 p9 p10 p11 p12 p13 p14 p15 p16 p17 p18 p19 p20
          have HB := HBn
          have K0 := K0n
          clear HBn K0n
          have HY : Hid (herdV h = logsV h) := by
            show _ = _
            rw [herd_eq, HV1.out, HV2.out, HV3.out, HV4.out]
            rfl
          obtain ⟨⟨p0, p1, p2, p3, p4, p5, p6, p7, p8, p9, p10, p11, p12, p13, p14, p15, p16, p17, p18, p19, p20⟩, -⟩ := K0.out.get
          go_wp2
          go_ret
          exact ⟨ret1B HY.out.symm, HB.out⟩
end Go.Proofs.YtgmdfkmmbcpikaaGreat.Hok
