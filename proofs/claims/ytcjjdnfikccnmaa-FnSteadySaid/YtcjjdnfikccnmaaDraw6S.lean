/- DrawSteady, DrawDecide. -/
import Derived.Test.YtcjjdnfikccnmaaDraw6N
namespace Go.Proofs.Ytcjjdnfikccnmaa.Draw6S
open Go.RowKit Go.Deep
open Go.Proofs.Ytcjjdnfikccnmaa.C1 Go.Proofs.Ytcjjdnfikccnmaa.Ints Go.Proofs.Ytcjjdnfikccnmaa.Draw
open Go.Proofs.Ytcjjdnfikccnmaa.Mem (CellsW)
open Go.Proofs.Ytcjjdnfikccnmaa.Smps
open Go.Proofs.Ytcjjdnfikccnmaa.Ser (Pt ptV gf encP gf_append)
open Go.Proofs.Ytcjjdnfikccnmaa.Ser2 (encP_len zeroP cells_new)
open Go.Proofs.Ytcjjdnfikccnmaa.Pl
open Go.Proofs.Ytcjjdnfikccnmaa.Drw
open Go.Proofs.Ytcjjdnfikccnmaa.Draw6
open Go.Proofs.Ytcjjdnfikccnmaa.Draw6N
set_option linter.unusedVariables false

theorem bytes_alloc {w : World} {a : Option Addr} {n : Nat} (h : BytesAt w a n) (o : Obj) : BytesAt (w.alloc o) a n := h.kept ((Below.refl _ _).alloc (Nat.le_refl _) _)

theorem ret_bh4 {fn : Func} (hr : fn.results = #[.cell 2 28, .tmp 3, .tmp 4, .tmp 5, .tmp 6]) {W : World} {b : Nat} {v0 v1 v2 v3 v4 v5 v6 v7 u0 u1 u2 u3 : Value} {tmps : Array Value} (h : CellsW W b [v0, v1, v2, v3, v4, v5, v6, v7]) (h2 : tmps.getD 2 undef = .pointer (some ⟨b, 0, none⟩)) (g0 : tmps.getD 3 undef = u0) (g1 : tmps.getD 4 undef = u1) (g2 : tmps.getD 5 undef = u2) (g3 : tmps.getD 6 undef = u3) :
    (results fn tmps).run Try.prog W = .ok (.tuple #[.agg #[v0, v1, v2, v3, v4, v5, v6, v7], u0, u1, u2, u3]) W := by
  obtain ⟨c0, -⟩ := h.2 0 (by simp)
  obtain ⟨c1, -⟩ := h.2 1 (by simp)
  obtain ⟨c2, -⟩ := h.2 2 (by simp)
  obtain ⟨c3, -⟩ := h.2 3 (by simp)
  obtain ⟨c4, -⟩ := h.2 4 (by simp)
  obtain ⟨c5, -⟩ := h.2 5 (by simp)
  obtain ⟨c6, -⟩ := h.2 6 (by simp)
  obtain ⟨c7, -⟩ := h.2 7 (by simp)
  have hp' : tmps[2]?.getD undef = .pointer (some ⟨b, 0, none⟩) := by simpa using h2
  have q0 : tmps[3]?.getD undef = u0 := by simpa using g0
  have q1 : tmps[4]?.getD undef = u1 := by simpa using g1
  have q2 : tmps[5]?.getD undef = u2 := by simpa using g2
  have q3 : tmps[6]?.getD undef = u3 := by simpa using g3
  simp at c0 c1 c2 c3 c4 c5 c6 c7
  simp [results, hr, hp', q0, q1, q2, q3, asAddr, go_sem, c0, c1, c2, c3, c4, c5, c6, c7]

theorem ret_bh5 {fn : Func} (hr : fn.results = #[.cell 2 28, .tmp 3, .tmp 4, .tmp 5, .tmp 6, .tmp 7]) {W : World} {b : Nat} {v0 v1 v2 v3 v4 v5 v6 v7 u0 u1 u2 u3 u4 : Value} {tmps : Array Value} (h : CellsW W b [v0, v1, v2, v3, v4, v5, v6, v7]) (h2 : tmps.getD 2 undef = .pointer (some ⟨b, 0, none⟩)) (g0 : tmps.getD 3 undef = u0) (g1 : tmps.getD 4 undef = u1) (g2 : tmps.getD 5 undef = u2) (g3 : tmps.getD 6 undef = u3) (g4 : tmps.getD 7 undef = u4) :
    (results fn tmps).run Try.prog W = .ok (.tuple #[.agg #[v0, v1, v2, v3, v4, v5, v6, v7], u0, u1, u2, u3, u4]) W := by
  obtain ⟨c0, -⟩ := h.2 0 (by simp)
  obtain ⟨c1, -⟩ := h.2 1 (by simp)
  obtain ⟨c2, -⟩ := h.2 2 (by simp)
  obtain ⟨c3, -⟩ := h.2 3 (by simp)
  obtain ⟨c4, -⟩ := h.2 4 (by simp)
  obtain ⟨c5, -⟩ := h.2 5 (by simp)
  obtain ⟨c6, -⟩ := h.2 6 (by simp)
  obtain ⟨c7, -⟩ := h.2 7 (by simp)
  have hp' : tmps[2]?.getD undef = .pointer (some ⟨b, 0, none⟩) := by simpa using h2
  have q0 : tmps[3]?.getD undef = u0 := by simpa using g0
  have q1 : tmps[4]?.getD undef = u1 := by simpa using g1
  have q2 : tmps[5]?.getD undef = u2 := by simpa using g2
  have q3 : tmps[6]?.getD undef = u3 := by simpa using g3
  have q4 : tmps[7]?.getD undef = u4 := by simpa using g4
  simp at c0 c1 c2 c3 c4 c5 c6 c7
  simp [results, hr, hp', q0, q1, q2, q3, q4, asAddr, go_sem, c0, c1, c2, c3, c4, c5, c6, c7]

def SteD (w : World) (e : Ending) (w' : World) : Prop := ∃ (b : Bh) (a1 : Option Addr) (c1 : Nat) (a2 : Option Addr) (c2 : Nat) (ns : List Pt) (a3 : Option Addr) (c3 : Nat) (now count want : Int), (b.up.ps.length ≤ 4 ∧ b.dn.ps.length ≤ 4 ∧ ns.length ≤ 301) ∧ Pls w' a1 b.up.ps ∧ Pls w' a2 b.dn.ps ∧ Ser.Pts w' a3 ns ∧ e = .returned (.tuple #[bhV b a1 c1 a2 c2, .slice a3 ns.length c3, .int .i64 now, .int .i64 count, .int .i64 want]) ∧ Below w.heap.size w w'
set_option maxRecDepth 100000 in
set_option maxHeartbeats 8000000 in
theorem draw_steady (a : Option Addr) (n cap : Nat) (w : World) (hb : BytesAt w a n) (hn : n ≤ 2097152) :
    Calls Try.prog 9 #[.slice a n cap] w (SteD w) := by
  have R_0 := Lib.hid (cells_new w #[.slice none 0 0, .int .i64 0, .int .i64 0, .slice none 0 0, .int .i64 0, .int .i64 0, .int .i64 0, .int .i64 0] 28)
  have HBX := Lib.hid (show Below w.heap.size w (w.alloc (.cells #[.slice none 0 0, .int .i64 0, .int .i64 0, .slice none 0 0, .int .i64 0, .int .i64 0, .int .i64 0, .int .i64 0] 28)) from (Below.refl _ _).alloc (Nat.le_refl _) _)
  have Hb := Lib.hid (bytes_alloc hb (.cells #[.slice none 0 0, .int .i64 0, .int .i64 0, .slice none 0 0, .int .i64 0, .int .i64 0, .int .i64 0, .int .i64 0] 28))
  obtain ⟨W0, hW0⟩ : ∃ W0, w.alloc (.cells #[.slice none 0 0, .int .i64 0, .int .i64 0, .slice none 0 0, .int .i64 0, .int .i64 0, .int .i64 0, .int .i64 0] 28) = W0 := ⟨_, rfl⟩
  rw [hW0] at R_0 HBX Hb
  have HW0 := Lib.hid hW0
  clear hb hW0
  go_enter Try.func9, Try.ntmps9
  go_wp2_with fail
  rw [HW0.out]
  refine (new_cur a n cap W0 Hb.out hn).mono ?_
  rintro e wa ⟨c, rfl, hc, hC, hB⟩
  have hRl := R_0.out.1
  have R_1 := Lib.hid (CellsW.kept R_0.out hB)
  have D_1 := Lib.hid (Dr.start hC)
  have HBA := Lib.hid (HBX.out.trans (hB.mono HBX.out.size))
  have hRa := R_1.out.1
  have hca := hC.lt
  clear hC hB R_0 HBX Hb HW0
  go_wp2_with fail
  refine (loose_behave c _ D_1.out.cur).mono ?_
  rintro e wd1 ⟨b, v1, v2, rfl, ho1, ho2, hl1, hl2, hmn, hmx, hD⟩
  have hC := hD.cur
  have hT := hD.tou
  have R_2 := Lib.hid (CellsW.touch R_1.out hT (by omega))
  have D_2 := Lib.hid (Dr.step D_1.out hC hT)
  clear R_1 D_1
  clear hC hT
  clear hD
  have U_0 := Lib.hid ho1
  have V_0 := Lib.hid ho2
  clear ho1 ho2
  have hs1 := D_2.out.size
  go_wp2_with fail
  refine (draw_notes c _ D_2.out.cur).mono ?_
  rintro e wd2 ⟨ns, v3, rfl, ho3, hl3, hD⟩
  have hC := hD.cur
  have hT := hD.tou
  have R_3 := Lib.hid (CellsW.touch R_2.out hT (by omega))
  have D_3 := Lib.hid (Dr.step D_2.out hC hT)
  have U_3 := Lib.hid (row_touch U_0.out (by omega) hT)
  have V_3 := Lib.hid (row_touch V_0.out (by omega) hT)
  clear R_2 D_2 U_0 V_0
  clear hC hT
  clear hD
  have hsz := D_3.out.size
  have N_0 := Lib.hid ho3
  clear ho3
  go_wp2_with fail
  refine (draw_now c _ D_3.out.cur).mono ?_
  rintro e wd3 ⟨now, now1, now2, rfl, hC, hT⟩
  have R_4 := Lib.hid (CellsW.touch R_3.out hT (by omega))
  have D_4 := Lib.hid (Dr.step D_3.out hC hT)
  have U_4 := Lib.hid (row_touch U_3.out (by omega) hT)
  have V_4 := Lib.hid (row_touch V_3.out (by omega) hT)
  have N_4 := Lib.hid (row_touch N_0.out (by omega) hT)
  clear R_3 D_3 U_3 V_3 N_0
  clear hC hT
  go_wp2_with fail
  refine (draw_count c _ D_4.out.cur).mono ?_
  rintro e wd4 ⟨count, count1, count2, rfl, hC, hT⟩
  have R_5 := Lib.hid (CellsW.touch R_4.out hT (by omega))
  have D_5 := Lib.hid (Dr.step D_4.out hC hT)
  have U_5 := Lib.hid (row_touch U_4.out (by omega) hT)
  have V_5 := Lib.hid (row_touch V_4.out (by omega) hT)
  have N_5 := Lib.hid (row_touch N_4.out (by omega) hT)
  clear R_4 D_4 U_4 V_4 N_4
  clear hC hT
  go_wp2_with fail
  refine (draw_count c _ D_5.out.cur).mono ?_
  rintro e wd5 ⟨want, want1, want2, rfl, hC, hT⟩
  have R_6 := Lib.hid (CellsW.touch R_5.out hT (by omega))
  have D_6 := Lib.hid (Dr.step D_5.out hC hT)
  have U_6 := Lib.hid (row_touch U_5.out (by omega) hT)
  have V_6 := Lib.hid (row_touch V_5.out (by omega) hT)
  have N_6 := Lib.hid (row_touch N_5.out (by omega) hT)
  clear R_5 D_5 U_5 V_5 N_5
  clear hC hT
  obtain ⟨a1, c1, hv1, -⟩ := pl_form U_6.out
  obtain ⟨a2, c2, hv2, -⟩ := pl_form V_6.out
  obtain ⟨a3, c3, hv3, -⟩ := nt_form N_6.out
  subst hv1 hv2 hv3
  obtain ⟨cr0, fcr0⟩ := R_6.out.2 0 (by simp)
  obtain ⟨cr1, fcr1⟩ := R_6.out.2 1 (by simp)
  obtain ⟨cr2, fcr2⟩ := R_6.out.2 2 (by simp)
  obtain ⟨cr3, fcr3⟩ := R_6.out.2 3 (by simp)
  obtain ⟨cr4, fcr4⟩ := R_6.out.2 4 (by simp)
  obtain ⟨cr5, fcr5⟩ := R_6.out.2 5 (by simp)
  obtain ⟨cr6, fcr6⟩ := R_6.out.2 6 (by simp)
  obtain ⟨cr7, fcr7⟩ := R_6.out.2 7 (by simp)
  try simp only [List.getElem_cons_zero, List.getElem_cons_succ] at cr0 cr1 cr2 cr3 cr4 cr5 cr6 cr7
  have HBE := Lib.hid (HBA.out.trans (Touched.below D_6.out.tou (B := w.heap.size) (by omega) (by omega)))
  clear D_6
  go_wp2
  have R_7 := Lib.hid (CellsW.set R_6.out 0 (.slice a1 b.up.ps.length c1) (by simp))
  have U_7 := Lib.hid (row_set U_6.out (g := w.heap.size) (j := 0) (u := .slice a1 b.up.ps.length c1) (by omega))
  have V_7 := Lib.hid (row_set V_6.out (g := w.heap.size) (j := 0) (u := .slice a1 b.up.ps.length c1) (by omega))
  have N_7 := Lib.hid (row_set N_6.out (g := w.heap.size) (j := 0) (u := .slice a1 b.up.ps.length c1) (by omega))
  clear R_6 U_6 V_6 N_6
  have R_8 := Lib.hid (CellsW.set R_7.out 1 (.int .i64 b.up.sel) (by simp))
  have U_8 := Lib.hid (row_set U_7.out (g := w.heap.size) (j := 1) (u := .int .i64 b.up.sel) (by omega))
  have V_8 := Lib.hid (row_set V_7.out (g := w.heap.size) (j := 1) (u := .int .i64 b.up.sel) (by omega))
  have N_8 := Lib.hid (row_set N_7.out (g := w.heap.size) (j := 1) (u := .int .i64 b.up.sel) (by omega))
  clear R_7 U_7 V_7 N_7
  have R_9 := Lib.hid (CellsW.set R_8.out 2 (.int .i64 b.up.win) (by simp))
  have U_9 := Lib.hid (row_set U_8.out (g := w.heap.size) (j := 2) (u := .int .i64 b.up.win) (by omega))
  have V_9 := Lib.hid (row_set V_8.out (g := w.heap.size) (j := 2) (u := .int .i64 b.up.win) (by omega))
  have N_9 := Lib.hid (row_set N_8.out (g := w.heap.size) (j := 2) (u := .int .i64 b.up.win) (by omega))
  clear R_8 U_8 V_8 N_8
  have R_10 := Lib.hid (CellsW.set R_9.out 3 (.slice a2 b.dn.ps.length c2) (by simp))
  have U_10 := Lib.hid (row_set U_9.out (g := w.heap.size) (j := 3) (u := .slice a2 b.dn.ps.length c2) (by omega))
  have V_10 := Lib.hid (row_set V_9.out (g := w.heap.size) (j := 3) (u := .slice a2 b.dn.ps.length c2) (by omega))
  have N_10 := Lib.hid (row_set N_9.out (g := w.heap.size) (j := 3) (u := .slice a2 b.dn.ps.length c2) (by omega))
  clear R_9 U_9 V_9 N_9
  have R_11 := Lib.hid (CellsW.set R_10.out 4 (.int .i64 b.dn.sel) (by simp))
  have U_11 := Lib.hid (row_set U_10.out (g := w.heap.size) (j := 4) (u := .int .i64 b.dn.sel) (by omega))
  have V_11 := Lib.hid (row_set V_10.out (g := w.heap.size) (j := 4) (u := .int .i64 b.dn.sel) (by omega))
  have N_11 := Lib.hid (row_set N_10.out (g := w.heap.size) (j := 4) (u := .int .i64 b.dn.sel) (by omega))
  clear R_10 U_10 V_10 N_10
  have R_12 := Lib.hid (CellsW.set R_11.out 5 (.int .i64 b.dn.win) (by simp))
  have U_12 := Lib.hid (row_set U_11.out (g := w.heap.size) (j := 5) (u := .int .i64 b.dn.win) (by omega))
  have V_12 := Lib.hid (row_set V_11.out (g := w.heap.size) (j := 5) (u := .int .i64 b.dn.win) (by omega))
  have N_12 := Lib.hid (row_set N_11.out (g := w.heap.size) (j := 5) (u := .int .i64 b.dn.win) (by omega))
  clear R_11 U_11 V_11 N_11
  have R_13 := Lib.hid (CellsW.set R_12.out 6 (.int .i64 b.mn) (by simp))
  have U_13 := Lib.hid (row_set U_12.out (g := w.heap.size) (j := 6) (u := .int .i64 b.mn) (by omega))
  have V_13 := Lib.hid (row_set V_12.out (g := w.heap.size) (j := 6) (u := .int .i64 b.mn) (by omega))
  have N_13 := Lib.hid (row_set N_12.out (g := w.heap.size) (j := 6) (u := .int .i64 b.mn) (by omega))
  clear R_12 U_12 V_12 N_12
  have R_14 := Lib.hid (CellsW.set R_13.out 7 (.int .i64 b.mx) (by simp))
  have U_14 := Lib.hid (row_set U_13.out (g := w.heap.size) (j := 7) (u := .int .i64 b.mx) (by omega))
  have V_14 := Lib.hid (row_set V_13.out (g := w.heap.size) (j := 7) (u := .int .i64 b.mx) (by omega))
  have N_14 := Lib.hid (row_set N_13.out (g := w.heap.size) (j := 7) (u := .int .i64 b.mx) (by omega))
  clear R_13 U_13 V_13 N_13
  exact bodyPost_ret (ret_bh4 rfl R_14.out rfl rfl rfl rfl rfl) rfl ⟨b, a1, c1, a2, c2, ns, a3, c3, now, count, want, ⟨hl1, hl2, hl3⟩, (by obtain ⟨_, _, e9, h9⟩ := pl_form U_14.out; cases e9; exact h9), (by obtain ⟨_, _, e9, h9⟩ := pl_form V_14.out; cases e9; exact h9), (by obtain ⟨_, _, e9, h9⟩ := nt_form N_14.out; cases e9; exact h9), rfl, ((((((((HBE.out).setCell (p := ⟨w.heap.size, 0, none⟩) (Nat.le_refl w.heap.size) (.slice a1 b.up.ps.length c1)).setCell (p := ⟨w.heap.size, 1, none⟩) (Nat.le_refl w.heap.size) (.int .i64 b.up.sel)).setCell (p := ⟨w.heap.size, 2, none⟩) (Nat.le_refl w.heap.size) (.int .i64 b.up.win)).setCell (p := ⟨w.heap.size, 3, none⟩) (Nat.le_refl w.heap.size) (.slice a2 b.dn.ps.length c2)).setCell (p := ⟨w.heap.size, 4, none⟩) (Nat.le_refl w.heap.size) (.int .i64 b.dn.sel)).setCell (p := ⟨w.heap.size, 5, none⟩) (Nat.le_refl w.heap.size) (.int .i64 b.dn.win)).setCell (p := ⟨w.heap.size, 6, none⟩) (Nat.le_refl w.heap.size) (.int .i64 b.mn)).setCell (p := ⟨w.heap.size, 7, none⟩) (Nat.le_refl w.heap.size) (.int .i64 b.mx)⟩
def DecD (w : World) (e : Ending) (w' : World) : Prop := ∃ (b : Bh) (a1 : Option Addr) (c1 : Nat) (a2 : Option Addr) (c2 : Nat) (ns : List Pt) (a3 : Option Addr) (c3 : Nat) (ms : List Pt) (a4 : Option Addr) (c4 : Nat) (now count want : Int), (b.up.ps.length ≤ 4 ∧ b.dn.ps.length ≤ 4 ∧ ns.length ≤ 301 ∧ ms.length ≤ 301) ∧ Pls w' a1 b.up.ps ∧ Pls w' a2 b.dn.ps ∧ Ser.Pts w' a3 ns ∧ Ser.Pts w' a4 ms ∧ e = .returned (.tuple #[bhV b a1 c1 a2 c2, .slice a3 ns.length c3, .slice a4 ms.length c4, .int .i64 now, .int .i64 count, .int .i64 want]) ∧ Below w.heap.size w w'
set_option maxRecDepth 100000 in
set_option maxHeartbeats 8000000 in
theorem draw_decide (a : Option Addr) (n cap : Nat) (w : World) (hb : BytesAt w a n) (hn : n ≤ 2097152) :
    Calls Try.prog 12 #[.slice a n cap] w (DecD w) := by
  have R_0 := Lib.hid (cells_new w #[.slice none 0 0, .int .i64 0, .int .i64 0, .slice none 0 0, .int .i64 0, .int .i64 0, .int .i64 0, .int .i64 0] 28)
  have HBX := Lib.hid (show Below w.heap.size w (w.alloc (.cells #[.slice none 0 0, .int .i64 0, .int .i64 0, .slice none 0 0, .int .i64 0, .int .i64 0, .int .i64 0, .int .i64 0] 28)) from (Below.refl _ _).alloc (Nat.le_refl _) _)
  have Hb := Lib.hid (bytes_alloc hb (.cells #[.slice none 0 0, .int .i64 0, .int .i64 0, .slice none 0 0, .int .i64 0, .int .i64 0, .int .i64 0, .int .i64 0] 28))
  obtain ⟨W0, hW0⟩ : ∃ W0, w.alloc (.cells #[.slice none 0 0, .int .i64 0, .int .i64 0, .slice none 0 0, .int .i64 0, .int .i64 0, .int .i64 0, .int .i64 0] 28) = W0 := ⟨_, rfl⟩
  rw [hW0] at R_0 HBX Hb
  have HW0 := Lib.hid hW0
  clear hb hW0
  go_enter Try.func12, Try.ntmps12
  go_wp2_with fail
  rw [HW0.out]
  refine (new_cur a n cap W0 Hb.out hn).mono ?_
  rintro e wa ⟨c, rfl, hc, hC, hB⟩
  have hRl := R_0.out.1
  have R_1 := Lib.hid (CellsW.kept R_0.out hB)
  have D_1 := Lib.hid (Dr.start hC)
  have HBA := Lib.hid (HBX.out.trans (hB.mono HBX.out.size))
  have hRa := R_1.out.1
  have hca := hC.lt
  clear hC hB R_0 HBX Hb HW0
  go_wp2_with fail
  refine (loose_behave c _ D_1.out.cur).mono ?_
  rintro e wd1 ⟨b, v1, v2, rfl, ho1, ho2, hl1, hl2, hmn, hmx, hD⟩
  have hC := hD.cur
  have hT := hD.tou
  have R_2 := Lib.hid (CellsW.touch R_1.out hT (by omega))
  have D_2 := Lib.hid (Dr.step D_1.out hC hT)
  clear R_1 D_1
  clear hC hT
  clear hD
  have U_0 := Lib.hid ho1
  have V_0 := Lib.hid ho2
  clear ho1 ho2
  have hs1 := D_2.out.size
  go_wp2_with fail
  refine (draw_notes c _ D_2.out.cur).mono ?_
  rintro e wd2 ⟨ns, v3, rfl, ho3, hl3, hD⟩
  have hC := hD.cur
  have hT := hD.tou
  have R_3 := Lib.hid (CellsW.touch R_2.out hT (by omega))
  have D_3 := Lib.hid (Dr.step D_2.out hC hT)
  have U_3 := Lib.hid (row_touch U_0.out (by omega) hT)
  have V_3 := Lib.hid (row_touch V_0.out (by omega) hT)
  clear R_2 D_2 U_0 V_0
  clear hC hT
  clear hD
  have hsz := D_3.out.size
  have N_0 := Lib.hid ho3
  clear ho3
  have hs2 := D_3.out.size
  go_wp2_with fail
  refine (draw_moves c _ D_3.out.cur).mono ?_
  rintro e wd3 ⟨ms, v4, rfl, ho3, hl4, hD⟩
  have hC := hD.cur
  have hT := hD.tou
  have R_4 := Lib.hid (CellsW.touch R_3.out hT (by omega))
  have D_4 := Lib.hid (Dr.step D_3.out hC hT)
  have U_4 := Lib.hid (row_touch U_3.out (by omega) hT)
  have V_4 := Lib.hid (row_touch V_3.out (by omega) hT)
  have N_4 := Lib.hid (row_touch N_0.out (by omega) hT)
  clear R_3 D_3 U_3 V_3 N_0
  clear hC hT
  clear hD
  have hsz := D_4.out.size
  have M_0 := Lib.hid ho3
  clear ho3
  go_wp2_with fail
  refine (draw_now c _ D_4.out.cur).mono ?_
  rintro e wd4 ⟨now, now1, now2, rfl, hC, hT⟩
  have R_5 := Lib.hid (CellsW.touch R_4.out hT (by omega))
  have D_5 := Lib.hid (Dr.step D_4.out hC hT)
  have U_5 := Lib.hid (row_touch U_4.out (by omega) hT)
  have V_5 := Lib.hid (row_touch V_4.out (by omega) hT)
  have N_5 := Lib.hid (row_touch N_4.out (by omega) hT)
  have M_5 := Lib.hid (row_touch M_0.out (by omega) hT)
  clear R_4 D_4 U_4 V_4 N_4 M_0
  clear hC hT
  go_wp2_with fail
  refine (draw_count c _ D_5.out.cur).mono ?_
  rintro e wd5 ⟨count, count1, count2, rfl, hC, hT⟩
  have R_6 := Lib.hid (CellsW.touch R_5.out hT (by omega))
  have D_6 := Lib.hid (Dr.step D_5.out hC hT)
  have U_6 := Lib.hid (row_touch U_5.out (by omega) hT)
  have V_6 := Lib.hid (row_touch V_5.out (by omega) hT)
  have N_6 := Lib.hid (row_touch N_5.out (by omega) hT)
  have M_6 := Lib.hid (row_touch M_5.out (by omega) hT)
  clear R_5 D_5 U_5 V_5 N_5 M_5
  clear hC hT
  go_wp2_with fail
  refine (draw_count c _ D_6.out.cur).mono ?_
  rintro e wd6 ⟨want, want1, want2, rfl, hC, hT⟩
  have R_7 := Lib.hid (CellsW.touch R_6.out hT (by omega))
  have D_7 := Lib.hid (Dr.step D_6.out hC hT)
  have U_7 := Lib.hid (row_touch U_6.out (by omega) hT)
  have V_7 := Lib.hid (row_touch V_6.out (by omega) hT)
  have N_7 := Lib.hid (row_touch N_6.out (by omega) hT)
  have M_7 := Lib.hid (row_touch M_6.out (by omega) hT)
  clear R_6 D_6 U_6 V_6 N_6 M_6
  clear hC hT
  obtain ⟨a1, c1, hv1, -⟩ := pl_form U_7.out
  obtain ⟨a2, c2, hv2, -⟩ := pl_form V_7.out
  obtain ⟨a3, c3, hv3, -⟩ := nt_form N_7.out
  obtain ⟨a4, c4, hv4, -⟩ := mv_form M_7.out
  subst hv1 hv2 hv3 hv4
  obtain ⟨cr0, fcr0⟩ := R_7.out.2 0 (by simp)
  obtain ⟨cr1, fcr1⟩ := R_7.out.2 1 (by simp)
  obtain ⟨cr2, fcr2⟩ := R_7.out.2 2 (by simp)
  obtain ⟨cr3, fcr3⟩ := R_7.out.2 3 (by simp)
  obtain ⟨cr4, fcr4⟩ := R_7.out.2 4 (by simp)
  obtain ⟨cr5, fcr5⟩ := R_7.out.2 5 (by simp)
  obtain ⟨cr6, fcr6⟩ := R_7.out.2 6 (by simp)
  obtain ⟨cr7, fcr7⟩ := R_7.out.2 7 (by simp)
  try simp only [List.getElem_cons_zero, List.getElem_cons_succ] at cr0 cr1 cr2 cr3 cr4 cr5 cr6 cr7
  have HBE := Lib.hid (HBA.out.trans (Touched.below D_7.out.tou (B := w.heap.size) (by omega) (by omega)))
  clear D_7
  go_wp2
  have R_8 := Lib.hid (CellsW.set R_7.out 0 (.slice a1 b.up.ps.length c1) (by simp))
  have U_8 := Lib.hid (row_set U_7.out (g := w.heap.size) (j := 0) (u := .slice a1 b.up.ps.length c1) (by omega))
  have V_8 := Lib.hid (row_set V_7.out (g := w.heap.size) (j := 0) (u := .slice a1 b.up.ps.length c1) (by omega))
  have N_8 := Lib.hid (row_set N_7.out (g := w.heap.size) (j := 0) (u := .slice a1 b.up.ps.length c1) (by omega))
  have M_8 := Lib.hid (row_set M_7.out (g := w.heap.size) (j := 0) (u := .slice a1 b.up.ps.length c1) (by omega))
  clear R_7 U_7 V_7 N_7 M_7
  have R_9 := Lib.hid (CellsW.set R_8.out 1 (.int .i64 b.up.sel) (by simp))
  have U_9 := Lib.hid (row_set U_8.out (g := w.heap.size) (j := 1) (u := .int .i64 b.up.sel) (by omega))
  have V_9 := Lib.hid (row_set V_8.out (g := w.heap.size) (j := 1) (u := .int .i64 b.up.sel) (by omega))
  have N_9 := Lib.hid (row_set N_8.out (g := w.heap.size) (j := 1) (u := .int .i64 b.up.sel) (by omega))
  have M_9 := Lib.hid (row_set M_8.out (g := w.heap.size) (j := 1) (u := .int .i64 b.up.sel) (by omega))
  clear R_8 U_8 V_8 N_8 M_8
  have R_10 := Lib.hid (CellsW.set R_9.out 2 (.int .i64 b.up.win) (by simp))
  have U_10 := Lib.hid (row_set U_9.out (g := w.heap.size) (j := 2) (u := .int .i64 b.up.win) (by omega))
  have V_10 := Lib.hid (row_set V_9.out (g := w.heap.size) (j := 2) (u := .int .i64 b.up.win) (by omega))
  have N_10 := Lib.hid (row_set N_9.out (g := w.heap.size) (j := 2) (u := .int .i64 b.up.win) (by omega))
  have M_10 := Lib.hid (row_set M_9.out (g := w.heap.size) (j := 2) (u := .int .i64 b.up.win) (by omega))
  clear R_9 U_9 V_9 N_9 M_9
  have R_11 := Lib.hid (CellsW.set R_10.out 3 (.slice a2 b.dn.ps.length c2) (by simp))
  have U_11 := Lib.hid (row_set U_10.out (g := w.heap.size) (j := 3) (u := .slice a2 b.dn.ps.length c2) (by omega))
  have V_11 := Lib.hid (row_set V_10.out (g := w.heap.size) (j := 3) (u := .slice a2 b.dn.ps.length c2) (by omega))
  have N_11 := Lib.hid (row_set N_10.out (g := w.heap.size) (j := 3) (u := .slice a2 b.dn.ps.length c2) (by omega))
  have M_11 := Lib.hid (row_set M_10.out (g := w.heap.size) (j := 3) (u := .slice a2 b.dn.ps.length c2) (by omega))
  clear R_10 U_10 V_10 N_10 M_10
  have R_12 := Lib.hid (CellsW.set R_11.out 4 (.int .i64 b.dn.sel) (by simp))
  have U_12 := Lib.hid (row_set U_11.out (g := w.heap.size) (j := 4) (u := .int .i64 b.dn.sel) (by omega))
  have V_12 := Lib.hid (row_set V_11.out (g := w.heap.size) (j := 4) (u := .int .i64 b.dn.sel) (by omega))
  have N_12 := Lib.hid (row_set N_11.out (g := w.heap.size) (j := 4) (u := .int .i64 b.dn.sel) (by omega))
  have M_12 := Lib.hid (row_set M_11.out (g := w.heap.size) (j := 4) (u := .int .i64 b.dn.sel) (by omega))
  clear R_11 U_11 V_11 N_11 M_11
  have R_13 := Lib.hid (CellsW.set R_12.out 5 (.int .i64 b.dn.win) (by simp))
  have U_13 := Lib.hid (row_set U_12.out (g := w.heap.size) (j := 5) (u := .int .i64 b.dn.win) (by omega))
  have V_13 := Lib.hid (row_set V_12.out (g := w.heap.size) (j := 5) (u := .int .i64 b.dn.win) (by omega))
  have N_13 := Lib.hid (row_set N_12.out (g := w.heap.size) (j := 5) (u := .int .i64 b.dn.win) (by omega))
  have M_13 := Lib.hid (row_set M_12.out (g := w.heap.size) (j := 5) (u := .int .i64 b.dn.win) (by omega))
  clear R_12 U_12 V_12 N_12 M_12
  have R_14 := Lib.hid (CellsW.set R_13.out 6 (.int .i64 b.mn) (by simp))
  have U_14 := Lib.hid (row_set U_13.out (g := w.heap.size) (j := 6) (u := .int .i64 b.mn) (by omega))
  have V_14 := Lib.hid (row_set V_13.out (g := w.heap.size) (j := 6) (u := .int .i64 b.mn) (by omega))
  have N_14 := Lib.hid (row_set N_13.out (g := w.heap.size) (j := 6) (u := .int .i64 b.mn) (by omega))
  have M_14 := Lib.hid (row_set M_13.out (g := w.heap.size) (j := 6) (u := .int .i64 b.mn) (by omega))
  clear R_13 U_13 V_13 N_13 M_13
  have R_15 := Lib.hid (CellsW.set R_14.out 7 (.int .i64 b.mx) (by simp))
  have U_15 := Lib.hid (row_set U_14.out (g := w.heap.size) (j := 7) (u := .int .i64 b.mx) (by omega))
  have V_15 := Lib.hid (row_set V_14.out (g := w.heap.size) (j := 7) (u := .int .i64 b.mx) (by omega))
  have N_15 := Lib.hid (row_set N_14.out (g := w.heap.size) (j := 7) (u := .int .i64 b.mx) (by omega))
  have M_15 := Lib.hid (row_set M_14.out (g := w.heap.size) (j := 7) (u := .int .i64 b.mx) (by omega))
  clear R_14 U_14 V_14 N_14 M_14
  exact bodyPost_ret (ret_bh5 rfl R_15.out rfl rfl rfl rfl rfl rfl) rfl ⟨b, a1, c1, a2, c2, ns, a3, c3, ms, a4, c4, now, count, want, ⟨hl1, hl2, hl3, hl4⟩, (by obtain ⟨_, _, e9, h9⟩ := pl_form U_15.out; cases e9; exact h9), (by obtain ⟨_, _, e9, h9⟩ := pl_form V_15.out; cases e9; exact h9), (by obtain ⟨_, _, e9, h9⟩ := nt_form N_15.out; cases e9; exact h9), (by obtain ⟨_, _, e9, h9⟩ := mv_form M_15.out; cases e9; exact h9), rfl, ((((((((HBE.out).setCell (p := ⟨w.heap.size, 0, none⟩) (Nat.le_refl w.heap.size) (.slice a1 b.up.ps.length c1)).setCell (p := ⟨w.heap.size, 1, none⟩) (Nat.le_refl w.heap.size) (.int .i64 b.up.sel)).setCell (p := ⟨w.heap.size, 2, none⟩) (Nat.le_refl w.heap.size) (.int .i64 b.up.win)).setCell (p := ⟨w.heap.size, 3, none⟩) (Nat.le_refl w.heap.size) (.slice a2 b.dn.ps.length c2)).setCell (p := ⟨w.heap.size, 4, none⟩) (Nat.le_refl w.heap.size) (.int .i64 b.dn.sel)).setCell (p := ⟨w.heap.size, 5, none⟩) (Nat.le_refl w.heap.size) (.int .i64 b.dn.win)).setCell (p := ⟨w.heap.size, 6, none⟩) (Nat.le_refl w.heap.size) (.int .i64 b.mn)).setCell (p := ⟨w.heap.size, 7, none⟩) (Nat.le_refl w.heap.size) (.int .i64 b.mx)⟩
end Go.Proofs.Ytcjjdnfikccnmaa.Draw6S
