/- The draws of chapter 6: sides, behaviours, notes, moves, counts. -/
import Derived.Test.YtcjjdnfikccnmaaDrw
import Derived.Deep.RegionHeld3
import Derived.BigQuiet
import Derived.Deep.Cut
namespace Go.Proofs.Ytcjjdnfikccnmaa.Draw6
open Go.RowKit Go.Deep
open Go.Proofs.Ytcjjdnfikccnmaa.C1 Go.Proofs.Ytcjjdnfikccnmaa.Ints Go.Proofs.Ytcjjdnfikccnmaa.Draw
open Go.Proofs.Ytcjjdnfikccnmaa.Mem (CellsW)
open Go.Proofs.Ytcjjdnfikccnmaa.Smps
open Go.Proofs.Ytcjjdnfikccnmaa.Ser (Pt ptV gf encP gf_append)
open Go.Proofs.Ytcjjdnfikccnmaa.Ser2 (encP_len zeroP cells_new)
open Go.Proofs.Ytcjjdnfikccnmaa.Pl
open Go.Proofs.Ytcjjdnfikccnmaa.Drw
set_option linter.unusedVariables false

/-- A drawn side: its policies lie in a row of the draw's own. -/
def SdD (c : Nat) (w : World) (e : Ending) (w' : World) : Prop := ∃ (s : Sd) (v : Value), e = .returned (.agg #[v, .int .i64 s.sel, .int .i64 s.win]) ∧ OwnL w' (w.heap.size + 1) v s.ps ∧ s.ps.length ≤ 3 ∧ Dr c w w'
theorem ret_sd {fn : Func} {k : Nat} (hr : fn.results = #[.cell k 26]) {W : World} {b : Nat} {v0 v1 v2 : Value} {tmps : Array Value} (h : CellsW W b [v0, v1, v2]) (h2 : tmps.getD k undef = .pointer (some ⟨b, 0, none⟩)) :
    (results fn tmps).run Try.prog W = .ok (.agg #[v0, v1, v2]) W := by
  obtain ⟨c0, -⟩ := h.2 0 (by simp)
  obtain ⟨c1, -⟩ := h.2 1 (by simp)
  obtain ⟨c2, -⟩ := h.2 2 (by simp)
  have hp' : tmps[k]?.getD undef = .pointer (some ⟨b, 0, none⟩) := by simpa using h2
  simp at c0 c1 c2
  simp [results, hr, hp', asAddr, go_sem, c0, c1, c2]

set_option maxRecDepth 100000 in
set_option maxHeartbeats 4000000 in
theorem draw_side (c : Nat) (w : World) (hC : Cur w c) :
    Calls Try.prog 150 #[.pointer (some ⟨c, 0, none⟩)] w (SdD c w) := by
  have hcl := hC.lt
  obtain ⟨i0, hi, hz0, hz1, hz2⟩ := info_pl2
  have R_0 := Lib.hid (cells_new w #[.slice none 0 0, .int .i64 0, .int .i64 0] 26)
  have D_0 := Lib.hid ((Dr.start hC).alloc (.cells #[.slice none 0 0, .int .i64 0, .int .i64 0] 26))
  have HS0 : Hid ((w.alloc (.cells #[.slice none 0 0, .int .i64 0, .int .i64 0] 26)).heap.size = w.heap.size + 1) := by show _ = _; simp
  obtain ⟨W0, hW0⟩ : ∃ W0, w.alloc (.cells #[.slice none 0 0, .int .i64 0, .int .i64 0] 26) = W0 := ⟨_, rfl⟩
  rw [hW0] at R_0 D_0 HS0
  have HW0 := Lib.hid hW0
  clear hC hW0
  go_enter Try.func150, Try.ntmps150
  go_wp2_with fail
  rw [HW0.out]
  refine (pick_new c [0, 0, 1, 1, 2] 5 rfl _ W0 D_0.out.cur HS0.out.symm (by omega) (by omega) (0) (2) (by intro v hv; simp at hv; omega)).mono ?_
  rintro e wd1 ⟨sel, sel1, sel2, rfl, hC, hT⟩
  have R_1 := Lib.hid (CellsW.touch R_0.out hT (by omega))
  have D_1 := Lib.hid (Dr.step D_0.out hC hT)
  clear R_0 D_0
  clear hC hT
  go_wp2_with fail
  refine (pick_new c [0, 0, 5, 20] 4 rfl _ wd1 D_1.out.cur rfl (by omega) (by omega) (0) (20) (by intro v hv; simp at hv; omega)).mono ?_
  rintro e wd2 ⟨win, win1, win2, rfl, hC, hT⟩
  have R_2 := Lib.hid (CellsW.touch R_1.out hT (by omega))
  have D_2 := Lib.hid (Dr.step D_1.out hC hT)
  clear R_1 D_1
  clear hC hT
  have S_2 := Lib.hid (cells_new wd2 #[.slice none 0 0, .int .i64 sel, .int .i64 win] 26)
  have hsw := D_2.out.size
  have hRs := R_2.out.1
  have R_3 := Lib.hid (CellsW.al R_2.out (.cells #[.slice none 0 0, .int .i64 sel, .int .i64 win] 26))
  have D_3 := Lib.hid (Dr.alloc D_2.out (.cells #[.slice none 0 0, .int .i64 sel, .int .i64 win] 26))
  clear R_2 D_2
  obtain ⟨S, hS⟩ : ∃ S, wd2.heap.size = S := ⟨_, rfl⟩
  rw [hS] at hsw hRs S_2
  have HSS := Lib.hid hS
  clear hS
  go_wp2_with fail
  rw [HSS.out]
  obtain ⟨wd3, hw⟩ : ∃ yy : World, wd2.alloc (.cells #[.slice none 0 0, .int .i64 sel, .int .i64 win] 26) = yy := ⟨_, rfl⟩
  rw [hw] at R_3 D_3 S_2 ⊢
  clear hw
  clear HSS
  refine (below_n c _ (by omega) (by omega) _ D_3.out.cur).mono ?_
  rintro e wd4 ⟨k0, k01, k02, rfl, hC, hT⟩
  have R_4 := Lib.hid (CellsW.touch R_3.out hT (by omega))
  have D_4 := Lib.hid (Dr.step D_3.out hC hT)
  have S_4 := Lib.hid (CellsW.touch S_2.out hT (by omega))
  clear R_3 D_3 S_2
  clear hC hT
  have O_0 := Lib.hid (pl_nil wd4 (S + 1))
  go_wp2_with fail
  go_loopw [4] (fun i wr => ∃ (q : Nat) (ps : List Pl) (v : Value), i = .int .i64 q ∧ q + ps.length ≤ 3 ∧ Hid (CellsW wr w.heap.size [.slice none 0 0, .int .i64 0, .int .i64 0]) ∧ Hid (CellsW wr S [v, .int .i64 sel, .int .i64 win]) ∧ Hid (OwnL wr (S + 1) v ps) ∧ Hid (Dr c w wr)) (fun i _ => (intOf i).toNat)
  case atStart => exact ⟨k0.toNat, [], _, int_eq (by omega), by simp; omega, R_4.out, S_4.out, O_0.out, D_4.out⟩
  case round =>
    clear R_4 D_4 S_4 O_0
    obtain ⟨q, ps, v, rfl, hq, R_9, S_9, O_9, D_9⟩ := hrel
    by_cases hq0 : 0 < q
    · skip
      go_wp2_with fail
      refine (below_n c _ (by omega) (by omega) _ D_9.out.cur).mono ?_
      rintro e wd5 ⟨x, x1, x2, rfl, hC, hT⟩
      have R_10 := Lib.hid (CellsW.touch R_9.out hT (by omega))
      have S_10 := Lib.hid (CellsW.touch S_9.out hT (by omega))
      have O_10 := Lib.hid (row_touch O_9.out (by omega) hT)
      have D_10 := Lib.hid (Dr.step D_9.out hC hT)
      clear R_9 S_9 O_9 D_9
      clear hC hT
      go_wp2_with fail
      refine (below_n c _ (by omega) (by omega) _ D_10.out.cur).mono ?_
      rintro e wd6 ⟨y, y1, y2, rfl, hC, hT⟩
      have R_11 := Lib.hid (CellsW.touch R_10.out hT (by omega))
      have S_11 := Lib.hid (CellsW.touch S_10.out hT (by omega))
      have O_11 := Lib.hid (row_touch O_10.out (by omega) hT)
      have D_11 := Lib.hid (Dr.step D_10.out hC hT)
      clear R_10 S_10 O_10 D_10
      clear hC hT
      have P_11 := Lib.hid (cells_new wd6 #[.int .i64 x, .int .i64 0, .int .i64 (1 + y)] 106)
      have hSp := S_11.out.1
      have HPO := Lib.hid (fun g hg => Nat.ne_of_lt (World.ownsRow.lt O_11.out g hg).2)
      have R_12 := Lib.hid (CellsW.al R_11.out (.cells #[.int .i64 x, .int .i64 0, .int .i64 (1 + y)] 106))
      have S_12 := Lib.hid (CellsW.al S_11.out (.cells #[.int .i64 x, .int .i64 0, .int .i64 (1 + y)] 106))
      have O_12 := Lib.hid (row_alloc O_11.out (.cells #[.int .i64 x, .int .i64 0, .int .i64 (1 + y)] 106))
      have D_12 := Lib.hid (Dr.alloc D_11.out (.cells #[.int .i64 x, .int .i64 0, .int .i64 (1 + y)] 106))
      clear R_11 S_11 O_11 D_11
      obtain ⟨P, hP⟩ : ∃ P, wd6.heap.size = P := ⟨_, rfl⟩
      rw [hP] at hSp P_11 HPO
      have HPP := Lib.hid hP
      clear hP
      go_wp2_with fail
      rw [HPP.out]
      obtain ⟨wd7, hw⟩ : ∃ yy : World, wd6.alloc (.cells #[.int .i64 x, .int .i64 0, .int .i64 (1 + y)] 106) = yy := ⟨_, rfl⟩
      rw [hw] at R_12 S_12 O_12 D_12 P_11 ⊢
      clear hw
      clear HPP
      refine (below_n c _ (by omega) (by omega) _ D_12.out.cur).mono ?_
      rintro e wd8 ⟨z, z1, z2, rfl, hC, hT⟩
      have R_13 := Lib.hid (CellsW.touch R_12.out hT (by omega))
      have S_13 := Lib.hid (CellsW.touch S_12.out hT (by omega))
      have O_13 := Lib.hid (row_touch O_12.out (by omega) hT)
      have D_13 := Lib.hid (Dr.step D_12.out hC hT)
      have P_13 := Lib.hid (CellsW.touch P_11.out hT (by omega))
      clear R_12 S_12 O_12 D_12 P_11
      clear hC hT
      obtain ⟨ca1, fca1⟩ := P_13.out.2 1 (by simp)
      try simp only [List.getElem_cons_zero, List.getElem_cons_succ] at ca1
      have R_14 := Lib.hid (CellsW.off R_13.out (c := P) (j := 1) (.int .i64 (1 + z)) (by omega))
      have S_14 := Lib.hid (CellsW.off S_13.out (c := P) (j := 1) (.int .i64 (1 + z)) (by omega))
      have O_14 := Lib.hid (row_off O_13.out (g := P) (j := 1) (u := .int .i64 (1 + z)) HPO.out)
      have D_14 := Lib.hid (Dr.setNew D_13.out (g := P) (by omega) 1 (.int .i64 (1 + z)))
      have P_14 := Lib.hid (CellsW.set P_13.out 1 (.int .i64 (1 + z)) (by simp))
      clear R_13 S_13 O_13 D_13 P_13
      go_upto_region 7 with fail
      clear ca1 fca1
      obtain ⟨wd9, hw⟩ : ∃ yy : World, wd8.setCell ⟨P, 1, none⟩ (.int .i64 (1 + z)) = yy := ⟨_, rfl⟩
      rw [hw] at R_14 S_14 O_14 D_14 P_14 ⊢
      clear hw
      obtain ⟨ca0, fca0⟩ := P_14.out.2 0 (by simp)
      try simp only [List.getElem_cons_zero] at ca0
      have hx : x = 0 ∨ x = 1 := by omega
      rcases hx with rfl | rfl
      · skip
        go_upto_region 9 with fail
        clear ca0 fca0
        obtain ⟨cs0, fcs0⟩ := S_14.out.2 0 (by simp)
        try simp only [List.getElem_cons_zero] at cs0
        obtain ⟨cp0, fcp0⟩ := P_14.out.2 0 (by simp)
        obtain ⟨cp1, fcp1⟩ := P_14.out.2 1 (by simp)
        obtain ⟨cp2, fcp2⟩ := P_14.out.2 2 (by simp)
        try simp only [List.getElem_cons_zero, List.getElem_cons_succ] at cp0 cp1 cp2
        have hgz := D_14.out.size
        have hSz := S_14.out.1
        go_wp2_with (at_builtin; refine wpList_append_own _ rfl _ _ 24 rfl (S + 1) 106 i0 (plV zeroL) 3 24 Try.underlying24 hi hz0 hz1 hz2 rfl (by decide) _ _ _ rfl (row_alloc O_14.out _) ⟨wd9.heap.size, 0, none⟩ 1 1 [.int .i64 (0), .int .i64 (1 + z), .int .i64 (1 + y)] rfl rfl ?c1 ?c2 ?c3 ?c4 ?c5 ?_)
        case c1 => exact pl_cells _ (⟨0, 1 + z, 1 + y⟩ : Pl) _
        case c2 => first | rfl | exact pl_one (⟨0, 1 + z, 1 + y⟩ : Pl)
        case c3 => unfold maxLen; omega
        case c4 => omega
        case c5 => first | omega | (simp; omega)
        · intro v' w9 hown' hgrow _
          have hrow : ∀ g, Value.ownBlock _ = some g → S + 1 ≤ g := fun g hg => (World.ownsRow.lt O_14.out g hg).1
          have O_99 := Lib.hid (pl_snoc (p := (⟨0, 1 + z, 1 + y⟩ : Pl)) hown')
          have D_99 := Lib.hid (Dr.grown (Dr.alloc D_14.out (.cells #[.int .i64 (0), .int .i64 (1 + z), .int .i64 (1 + y)] 106)) hgrow (fun g hg => by have := hrow g hg; omega))
          have R_99 := Lib.hid (CellsW.grown (CellsW.al R_14.out (.cells #[.int .i64 (0), .int .i64 (1 + z), .int .i64 (1 + y)] 106)) hgrow (by intro e; have := hrow _ e.symm; omega))
          have S_99 := Lib.hid (CellsW.grown (CellsW.al S_14.out (.cells #[.int .i64 (0), .int .i64 (1 + z), .int .i64 (1 + y)] 106)) hgrow (by intro e; have := hrow _ e.symm; omega))
          clear hown' hgrow hrow R_14 S_14 O_14 D_14 P_14
          clear cs0 fcs0 cp0 fcp0 cp1 fcp1 cp2 fcp2
          obtain ⟨av, cv, rfl, -⟩ := pl_form O_99.out
          obtain ⟨nl, hnl⟩ : ∃ n, (ps ++ [(⟨0, 1 + z, 1 + y⟩ : Pl)]).length = n := ⟨_, rfl⟩
          rw [hnl] at O_99 ⊢
          clear hnl
          obtain ⟨ct0, fct0⟩ := S_99.out.2 0 (by simp)
          try simp only [List.getElem_cons_zero] at ct0
          go_wp2
          have R_100 := Lib.hid (CellsW.off R_99.out (c := S) (j := 0) (.slice av nl cv) (by omega))
          have S_100 := Lib.hid (CellsW.set S_99.out 0 (.slice av nl cv) (by simp))
          have O_100 := Lib.hid (row_set O_99.out (g := S) (j := 0) (u := .slice av nl cv) (by omega))
          have D_100 := Lib.hid (Dr.setNew D_99.out (g := S) (by omega) 0 (.slice av nl cv))
          clear R_99 S_99 O_99 D_99
          go_roundw
          case rel => exact ⟨q - 1, ps ++ [(⟨0, 1 + z, 1 + y⟩ : Pl)], _, int_eq (by omega), by simp; omega, R_100, S_100, O_100, D_100⟩
          case measure => simp [intOf]; omega
      · skip
        go_wp2_with fail
        refine (pick_new c [10, 50, 100, 200] 4 rfl _ wd9 D_14.out.cur rfl (by omega) (by omega) (10) (200) (by intro v hv; simp at hv; omega)).mono ?_
        clear ca0 fca0
        rintro e wd10 ⟨u, u1, u2, rfl, hC, hT⟩
        have R_15 := Lib.hid (CellsW.touch R_14.out hT (by omega))
        have S_15 := Lib.hid (CellsW.touch S_14.out hT (by omega))
        have O_15 := Lib.hid (row_touch O_14.out (by omega) hT)
        have D_15 := Lib.hid (Dr.step D_14.out hC hT)
        have P_15 := Lib.hid (CellsW.touch P_14.out hT (by omega))
        clear R_14 S_14 O_14 D_14 P_14
        clear hC hT
        obtain ⟨ca1, fca1⟩ := P_15.out.2 1 (by simp)
        try simp only [List.getElem_cons_zero, List.getElem_cons_succ] at ca1
        have R_16 := Lib.hid (CellsW.off R_15.out (c := P) (j := 1) (.int .i64 u) (by omega))
        have S_16 := Lib.hid (CellsW.off S_15.out (c := P) (j := 1) (.int .i64 u) (by omega))
        have O_16 := Lib.hid (row_off O_15.out (g := P) (j := 1) (u := .int .i64 u) HPO.out)
        have D_16 := Lib.hid (Dr.setNew D_15.out (g := P) (by omega) 1 (.int .i64 u))
        have P_16 := Lib.hid (CellsW.set P_15.out 1 (.int .i64 u) (by simp))
        clear R_15 S_15 O_15 D_15 P_15
        go_upto_region 9 with fail
        clear ca1 fca1
        obtain ⟨wd11, hw⟩ : ∃ yy : World, wd10.setCell ⟨P, 1, none⟩ (.int .i64 u) = yy := ⟨_, rfl⟩
        rw [hw] at R_16 S_16 O_16 D_16 P_16 ⊢
        clear hw
        obtain ⟨cs0, fcs0⟩ := S_16.out.2 0 (by simp)
        try simp only [List.getElem_cons_zero] at cs0
        obtain ⟨cp0, fcp0⟩ := P_16.out.2 0 (by simp)
        obtain ⟨cp1, fcp1⟩ := P_16.out.2 1 (by simp)
        obtain ⟨cp2, fcp2⟩ := P_16.out.2 2 (by simp)
        try simp only [List.getElem_cons_zero, List.getElem_cons_succ] at cp0 cp1 cp2
        have hgz := D_16.out.size
        have hSz := S_16.out.1
        go_wp2_with (at_builtin; refine wpList_append_own _ rfl _ _ 24 rfl (S + 1) 106 i0 (plV zeroL) 3 24 Try.underlying24 hi hz0 hz1 hz2 rfl (by decide) _ _ _ rfl (row_alloc O_16.out _) ⟨wd11.heap.size, 0, none⟩ 1 1 [.int .i64 (1), .int .i64 (u), .int .i64 (1 + y)] rfl rfl ?c1 ?c2 ?c3 ?c4 ?c5 ?_)
        case c1 => exact pl_cells _ (⟨1, u, 1 + y⟩ : Pl) _
        case c2 => first | rfl | exact pl_one (⟨1, u, 1 + y⟩ : Pl)
        case c3 => unfold maxLen; omega
        case c4 => omega
        case c5 => first | omega | (simp; omega)
        · intro v' w9 hown' hgrow _
          have hrow : ∀ g, Value.ownBlock _ = some g → S + 1 ≤ g := fun g hg => (World.ownsRow.lt O_16.out g hg).1
          have O_99 := Lib.hid (pl_snoc (p := (⟨1, u, 1 + y⟩ : Pl)) hown')
          have D_99 := Lib.hid (Dr.grown (Dr.alloc D_16.out (.cells #[.int .i64 (1), .int .i64 (u), .int .i64 (1 + y)] 106)) hgrow (fun g hg => by have := hrow g hg; omega))
          have R_99 := Lib.hid (CellsW.grown (CellsW.al R_16.out (.cells #[.int .i64 (1), .int .i64 (u), .int .i64 (1 + y)] 106)) hgrow (by intro e; have := hrow _ e.symm; omega))
          have S_99 := Lib.hid (CellsW.grown (CellsW.al S_16.out (.cells #[.int .i64 (1), .int .i64 (u), .int .i64 (1 + y)] 106)) hgrow (by intro e; have := hrow _ e.symm; omega))
          clear hown' hgrow hrow R_16 S_16 O_16 D_16 P_16
          clear cs0 fcs0 cp0 fcp0 cp1 fcp1 cp2 fcp2
          obtain ⟨av, cv, rfl, -⟩ := pl_form O_99.out
          obtain ⟨nl, hnl⟩ : ∃ n, (ps ++ [(⟨1, u, 1 + y⟩ : Pl)]).length = n := ⟨_, rfl⟩
          rw [hnl] at O_99 ⊢
          clear hnl
          obtain ⟨ct0, fct0⟩ := S_99.out.2 0 (by simp)
          try simp only [List.getElem_cons_zero] at ct0
          go_wp2
          have R_100 := Lib.hid (CellsW.off R_99.out (c := S) (j := 0) (.slice av nl cv) (by omega))
          have S_100 := Lib.hid (CellsW.set S_99.out 0 (.slice av nl cv) (by simp))
          have O_100 := Lib.hid (row_set O_99.out (g := S) (j := 0) (u := .slice av nl cv) (by omega))
          have D_100 := Lib.hid (Dr.setNew D_99.out (g := S) (by omega) 0 (.slice av nl cv))
          clear R_99 S_99 O_99 D_99
          go_roundw
          case rel => exact ⟨q - 1, ps ++ [(⟨1, u, 1 + y⟩ : Pl)], _, int_eq (by omega), by simp; omega, R_100, S_100, O_100, D_100⟩
          case measure => simp [intOf]; omega
    · obtain rfl : q = 0 := by omega
      obtain ⟨av, cv, rfl, -⟩ := pl_form O_9.out
      obtain ⟨cs0, fcs0⟩ := S_9.out.2 0 (by simp)
      obtain ⟨cs1, fcs1⟩ := S_9.out.2 1 (by simp)
      obtain ⟨cs2, fcs2⟩ := S_9.out.2 2 (by simp)
      try simp only [List.getElem_cons_zero, List.getElem_cons_succ] at cs0 cs1 cs2
      obtain ⟨cr0, fcr0⟩ := R_9.out.2 0 (by simp)
      obtain ⟨cr1, fcr1⟩ := R_9.out.2 1 (by simp)
      obtain ⟨cr2, fcr2⟩ := R_9.out.2 2 (by simp)
      try simp only [List.getElem_cons_zero, List.getElem_cons_succ] at cr0 cr1 cr2
      go_wp2
      have R_201 := Lib.hid (CellsW.set R_9.out 0 (.slice av ps.length cv) (by simp))
      have S_201 := Lib.hid (CellsW.off S_9.out (c := w.heap.size) (j := 0) (.slice av ps.length cv) (by omega))
      have O_201 := Lib.hid (row_set O_9.out (g := w.heap.size) (j := 0) (u := .slice av ps.length cv) (by omega))
      have D_201 := Lib.hid (Dr.setNew D_9.out (g := w.heap.size) (by omega) 0 (.slice av ps.length cv))
      clear R_9 S_9 O_9 D_9
      have R_202 := Lib.hid (CellsW.set R_201.out 1 (.int .i64 sel) (by simp))
      have S_202 := Lib.hid (CellsW.off S_201.out (c := w.heap.size) (j := 1) (.int .i64 sel) (by omega))
      have O_202 := Lib.hid (row_set O_201.out (g := w.heap.size) (j := 1) (u := .int .i64 sel) (by omega))
      have D_202 := Lib.hid (Dr.setNew D_201.out (g := w.heap.size) (by omega) 1 (.int .i64 sel))
      clear R_201 S_201 O_201 D_201
      have R_203 := Lib.hid (CellsW.set R_202.out 2 (.int .i64 win) (by simp))
      have S_203 := Lib.hid (CellsW.off S_202.out (c := w.heap.size) (j := 2) (.int .i64 win) (by omega))
      have O_203 := Lib.hid (row_set O_202.out (g := w.heap.size) (j := 2) (u := .int .i64 win) (by omega))
      have D_203 := Lib.hid (Dr.setNew D_202.out (g := w.heap.size) (by omega) 2 (.int .i64 win))
      clear R_202 S_202 O_202 D_202
      exact bodyPost_ret (ret_sd rfl R_203.out rfl) rfl ⟨⟨ps, sel, win⟩, _, rfl, OwnL.mono O_203.out (by omega), by simp only; omega, D_203.out⟩
/-- A drawn behaviour: its two lists of policies lie in two rows of the draw's own. -/
def BhP (c : Nat) (w w' : World) (b : Bh) (v1 v2 : Value) (m : Nat) : Prop := OwnL w' (w.heap.size + 1) v1 b.up.ps ∧ OwnL w' m v2 b.dn.ps ∧ (∀ g, Value.ownBlock v1 = some g → g < m) ∧ w.heap.size + 1 ≤ m ∧ b.up.ps.length ≤ 3 ∧ b.dn.ps.length ≤ 3 ∧ (-1 ≤ b.mn ∧ b.mn ≤ 1002) ∧ (0 ≤ b.mx ∧ b.mx ≤ 1001) ∧ Dr c w w'
def BhD (c : Nat) (w : World) (e : Ending) (w' : World) : Prop := ∃ (b : Bh) (v1 v2 : Value) (m : Nat), e = .returned (.agg #[v1, .int .i64 b.up.sel, .int .i64 b.up.win, v2, .int .i64 b.dn.sel, .int .i64 b.dn.win, .int .i64 b.mn, .int .i64 b.mx]) ∧ BhP c w w' b v1 v2 m
theorem ret_bh {fn : Func} {k : Nat} (hr : fn.results = #[.cell k 28]) {W : World} {b : Nat} {v0 v1 v2 v3 v4 v5 v6 v7 : Value} {tmps : Array Value} (h : CellsW W b [v0, v1, v2, v3, v4, v5, v6, v7]) (h2 : tmps.getD k undef = .pointer (some ⟨b, 0, none⟩)) :
    (results fn tmps).run Try.prog W = .ok (.agg #[v0, v1, v2, v3, v4, v5, v6, v7]) W := by
  obtain ⟨c0, -⟩ := h.2 0 (by simp)
  obtain ⟨c1, -⟩ := h.2 1 (by simp)
  obtain ⟨c2, -⟩ := h.2 2 (by simp)
  obtain ⟨c3, -⟩ := h.2 3 (by simp)
  obtain ⟨c4, -⟩ := h.2 4 (by simp)
  obtain ⟨c5, -⟩ := h.2 5 (by simp)
  obtain ⟨c6, -⟩ := h.2 6 (by simp)
  obtain ⟨c7, -⟩ := h.2 7 (by simp)
  have hp' : tmps[k]?.getD undef = .pointer (some ⟨b, 0, none⟩) := by simpa using h2
  simp at c0 c1 c2 c3 c4 c5 c6 c7
  simp [results, hr, hp', asAddr, go_sem, c0, c1, c2, c3, c4, c5, c6, c7]

set_option maxRecDepth 100000 in
set_option maxHeartbeats 8000000 in
theorem draw_behave (c : Nat) (w : World) (hC : Cur w c) :
    Calls Try.prog 103 #[.pointer (some ⟨c, 0, none⟩)] w (BhD c w) := by
  have hcl := hC.lt
  obtain ⟨i0, hi, hz0, hz1, hz2⟩ := info_pl2
  have mixed : Try.prog.follows .mixedOrders = true := by kernel_rfl
  have R_0 := Lib.hid (cells_new w #[.slice none 0 0, .int .i64 0, .int .i64 0, .slice none 0 0, .int .i64 0, .int .i64 0, .int .i64 0, .int .i64 0] 28)
  have D_0 := Lib.hid ((Dr.start hC).alloc (.cells #[.slice none 0 0, .int .i64 0, .int .i64 0, .slice none 0 0, .int .i64 0, .int .i64 0, .int .i64 0, .int .i64 0] 28))
  have HS0 : Hid ((w.alloc (.cells #[.slice none 0 0, .int .i64 0, .int .i64 0, .slice none 0 0, .int .i64 0, .int .i64 0, .int .i64 0, .int .i64 0] 28)).heap.size = w.heap.size + 1) := by show _ = _; simp
  obtain ⟨W0, hW0⟩ : ∃ W0, w.alloc (.cells #[.slice none 0 0, .int .i64 0, .int .i64 0, .slice none 0 0, .int .i64 0, .int .i64 0, .int .i64 0, .int .i64 0] 28) = W0 := ⟨_, rfl⟩
  rw [hW0] at R_0 D_0 HS0
  have HW0 := Lib.hid hW0
  clear hC hW0
  go_enter Try.func103, Try.ntmps103
  go_wp2_with fail
  rw [HW0.out]
  have hR1 := R_0.out.1
  refine (draw_side c _ D_0.out.cur).mono ?_
  rintro e wd1 ⟨s1, v1, rfl, ho1, hl1, hD⟩
  have hC := hD.cur
  have hT := hD.tou
  have R_1 := Lib.hid (CellsW.touch R_0.out hT (by omega))
  have D_1 := Lib.hid (Dr.step D_0.out hC hT)
  clear R_0 D_0
  clear hC hT
  clear hD
  rw [HS0.out] at ho1
  have U_0 := Lib.hid (OwnL.mono (B' := w.heap.size + 1) ho1 (by omega))
  clear ho1
  obtain ⟨m, hm⟩ : ∃ m, wd1.heap.size = m := ⟨_, rfl⟩
  have HV1 : Hid (∀ g, Value.ownBlock v1 = some g → g < m) := fun g hg => by rw [← hm]; exact (World.ownsRow.lt U_0.out g hg).2
  have hmw : w.heap.size + 1 ≤ m := by have := R_1.out.1; have := D_1.out.size; omega
  have HM := Lib.hid hm
  clear hm
  go_wp2_with fail
  refine (draw_side c _ D_1.out.cur).mono ?_
  rintro e wd2 ⟨s2, v2, rfl, ho2, hl2, hD⟩
  have hC := hD.cur
  have hT := hD.tou
  have R_2 := Lib.hid (CellsW.touch R_1.out hT (by omega))
  have D_2 := Lib.hid (Dr.step D_1.out hC hT)
  have U_2 := Lib.hid (row_touch U_0.out (by omega) hT)
  clear R_1 D_1 U_0
  clear hC hT
  clear hD
  rw [HM.out] at ho2
  have V_0 := Lib.hid (OwnL.mono (B' := m) ho2 (by omega))
  clear ho2 HM
  go_wp2_with fail
  refine (below_n c _ (by omega) (by omega) _ D_2.out.cur).mono ?_
  rintro e wd3 ⟨mn, mn1, mn2, rfl, hC, hT⟩
  have R_3 := Lib.hid (CellsW.touch R_2.out hT (by omega))
  have D_3 := Lib.hid (Dr.step D_2.out hC hT)
  have U_3 := Lib.hid (row_touch U_2.out (by omega) hT)
  have V_3 := Lib.hid (row_touch V_0.out (by omega) hT)
  clear R_2 D_2 U_2 V_0
  clear hC hT
  obtain ⟨au, cu, hv1, -⟩ := pl_form U_3.out
  obtain ⟨ad, cd, hv2, -⟩ := pl_form V_3.out
  subst hv1 hv2
  have B_3 := Lib.hid (cells_new wd3 #[.slice au s1.ps.length cu, .int .i64 s1.sel, .int .i64 s1.win, .slice ad s2.ps.length cd, .int .i64 s2.sel, .int .i64 s2.win, .int .i64 mn, .int .i64 0] 28)
  have hzB := D_3.out.size
  have hzR := R_3.out.1
  have HUG := Lib.hid (fun g hg => Nat.ne_of_lt (World.ownsRow.lt U_3.out g hg).2)
  have HVG := Lib.hid (fun g hg => Nat.ne_of_lt (World.ownsRow.lt V_3.out g hg).2)
  have R_4 := Lib.hid (CellsW.al R_3.out (.cells #[.slice au s1.ps.length cu, .int .i64 s1.sel, .int .i64 s1.win, .slice ad s2.ps.length cd, .int .i64 s2.sel, .int .i64 s2.win, .int .i64 mn, .int .i64 0] 28))
  have D_4 := Lib.hid (Dr.alloc D_3.out (.cells #[.slice au s1.ps.length cu, .int .i64 s1.sel, .int .i64 s1.win, .slice ad s2.ps.length cd, .int .i64 s2.sel, .int .i64 s2.win, .int .i64 mn, .int .i64 0] 28))
  have U_4 := Lib.hid (row_alloc U_3.out (.cells #[.slice au s1.ps.length cu, .int .i64 s1.sel, .int .i64 s1.win, .slice ad s2.ps.length cd, .int .i64 s2.sel, .int .i64 s2.win, .int .i64 mn, .int .i64 0] 28))
  have V_4 := Lib.hid (row_alloc V_3.out (.cells #[.slice au s1.ps.length cu, .int .i64 s1.sel, .int .i64 s1.win, .slice ad s2.ps.length cd, .int .i64 s2.sel, .int .i64 s2.win, .int .i64 mn, .int .i64 0] 28))
  clear R_3 D_3 U_3 V_3
  obtain ⟨G, hl⟩ : ∃ x, wd3.heap.size = x := ⟨_, rfl⟩
  rw [hl] at hzB hzR B_3 HUG HVG
  have HL := Lib.hid hl
  clear hl
  go_wp2_with fail
  rw [HL.out]
  clear HL
  obtain ⟨wd4, hw⟩ : ∃ yy : World, wd3.alloc (.cells #[.slice au s1.ps.length cu, .int .i64 s1.sel, .int .i64 s1.win, .slice ad s2.ps.length cd, .int .i64 s2.sel, .int .i64 s2.win, .int .i64 mn, .int .i64 0] 28) = yy := ⟨_, rfl⟩
  rw [hw] at R_4 D_4 U_4 V_4 B_3 ⊢
  clear hw
  have HKA : Hid (∀ o, (wd4.alloc o).drew.cell? ⟨G, 6, none⟩ = some (.int .i64 mn)) := fun o => ((CellsW.dr (CellsW.al B_3.out o)).2 6 (by simp)).1
  have R_5 := Lib.hid (CellsW.dr R_4.out)
  have D_5 := Lib.hid (Dr.drew D_4.out)
  have U_5 := Lib.hid (row_drew U_4.out)
  have V_5 := Lib.hid (row_drew V_4.out)
  have B_5 := Lib.hid (CellsW.dr B_3.out)
  clear R_4 D_4 U_4 V_4 B_3
  have HK : Hid (∀ W', Hid (CellsW W' G [.slice au s1.ps.length cu, .int .i64 s1.sel, .int .i64 s1.win, .slice ad s2.ps.length cd, .int .i64 s2.sel, .int .i64 s2.win, .int .i64 mn, .int .i64 0]) → W'.cell? ⟨G, 6, none⟩ = some (.int .i64 mn)) := fun W' h => (h.out.2 6 (by simp)).1
  have HK2 : Hid (∀ W' u, Hid (CellsW W' G [.slice au s1.ps.length cu, .int .i64 s1.sel, .int .i64 s1.win, .slice ad s2.ps.length cd, .int .i64 s2.sel, .int .i64 s2.win, .int .i64 mn, .int .i64 0]) → (W'.setCell ⟨G, 7, none⟩ u).cell? ⟨G, 6, none⟩ = some (.int .i64 mn)) := fun W' u h => ((CellsW.set h.out 7 u (by simp)).2 6 (by simp)).1
  go_region_held3 (fun w' => w'.cell? ⟨G, 6, none⟩ = some (.int .i64 mn))
    (with_reducible (first | exact HK.out _ B_6 | exact HK.out _ B_5 | exact HKA.out _ | exact HK2.out _ _ B_6))
    (first | (go_at_call 106; refine (pick_new c [4, 10, 20, 0] 4 rfl _ wd4.drew D_5.out.cur rfl (by omega) (by omega) 0 20 (by intro v hv; simp at hv; omega)).mono ?_; rintro e wp ⟨x, x1, x2, rfl, hC, hT⟩; have R_6 := Lib.hid (CellsW.touch R_5.out hT (by omega)); have D_6 := Lib.hid (Dr.step D_5.out hC hT); have U_6 := Lib.hid (row_touch U_5.out (by omega) hT); have V_6 := Lib.hid (row_touch V_5.out (by omega) hT); have B_6 := Lib.hid (CellsW.touch B_5.out hT (by omega)); obtain ⟨y7, fy7⟩ := B_6.out.2 7 (by simp); simp only [List.getElem_cons_zero, List.getElem_cons_succ] at y7; clear hC hT))
  all_goals
    have hwrap : IntKind.i64.wrap (mn + x) = mn + x := by rw [IntKind.wrap_i64]; omega
    rw [hwrap]
    clear y7 fy7 HK HK2 HKA hwrap R_5 D_5 U_5 V_5 B_5
    have R_7 := Lib.hid (CellsW.off R_6.out (c := G) (j := 7) (.int .i64 (mn + x)) (by omega))
    have D_7 := Lib.hid (Dr.setNew D_6.out (g := G) (by omega) 7 (.int .i64 (mn + x)))
    have U_7 := Lib.hid (row_off U_6.out (g := G) (j := 7) (u := .int .i64 (mn + x)) HUG.out)
    have V_7 := Lib.hid (row_off V_6.out (g := G) (j := 7) (u := .int .i64 (mn + x)) HVG.out)
    have B_7 := Lib.hid (CellsW.set B_6.out 7 (.int .i64 (mn + x)) (by simp))
    clear R_6 D_6 U_6 V_6 B_6
    obtain ⟨wq, hw⟩ : ∃ yy : World, wp.setCell ⟨G, 7, none⟩ (.int .i64 (mn + x)) = yy := ⟨_, rfl⟩
    rw [hw] at R_7 D_7 U_7 V_7 B_7 ⊢
    clear hw
    obtain ⟨cs0, fcs0⟩ := B_7.out.2 0 (by simp)
    obtain ⟨cs1, fcs1⟩ := B_7.out.2 1 (by simp)
    obtain ⟨cs2, fcs2⟩ := B_7.out.2 2 (by simp)
    obtain ⟨cs3, fcs3⟩ := B_7.out.2 3 (by simp)
    obtain ⟨cs4, fcs4⟩ := B_7.out.2 4 (by simp)
    obtain ⟨cs5, fcs5⟩ := B_7.out.2 5 (by simp)
    obtain ⟨cs6, fcs6⟩ := B_7.out.2 6 (by simp)
    obtain ⟨cs7, fcs7⟩ := B_7.out.2 7 (by simp)
    try simp only [List.getElem_cons_zero, List.getElem_cons_succ] at cs0 cs1 cs2 cs3 cs4 cs5 cs6 cs7
    obtain ⟨cr0, fcr0⟩ := R_7.out.2 0 (by simp)
    obtain ⟨cr1, fcr1⟩ := R_7.out.2 1 (by simp)
    obtain ⟨cr2, fcr2⟩ := R_7.out.2 2 (by simp)
    obtain ⟨cr3, fcr3⟩ := R_7.out.2 3 (by simp)
    obtain ⟨cr4, fcr4⟩ := R_7.out.2 4 (by simp)
    obtain ⟨cr5, fcr5⟩ := R_7.out.2 5 (by simp)
    obtain ⟨cr6, fcr6⟩ := R_7.out.2 6 (by simp)
    obtain ⟨cr7, fcr7⟩ := R_7.out.2 7 (by simp)
    try simp only [List.getElem_cons_zero, List.getElem_cons_succ] at cr0 cr1 cr2 cr3 cr4 cr5 cr6 cr7
    go_wp2
    have R_8 := Lib.hid (CellsW.set R_7.out 0 (.slice au s1.ps.length cu) (by simp))
    have D_8 := Lib.hid (Dr.setNew D_7.out (g := w.heap.size) (by omega) 0 (.slice au s1.ps.length cu))
    have U_8 := Lib.hid (row_set U_7.out (g := w.heap.size) (j := 0) (u := .slice au s1.ps.length cu) (by omega))
    have V_8 := Lib.hid (row_set V_7.out (g := w.heap.size) (j := 0) (u := .slice au s1.ps.length cu) (by omega))
    have B_8 := Lib.hid (CellsW.off B_7.out (c := w.heap.size) (j := 0) (.slice au s1.ps.length cu) (by omega))
    clear R_7 D_7 U_7 V_7 B_7
    have R_9 := Lib.hid (CellsW.set R_8.out 1 (.int .i64 s1.sel) (by simp))
    have D_9 := Lib.hid (Dr.setNew D_8.out (g := w.heap.size) (by omega) 1 (.int .i64 s1.sel))
    have U_9 := Lib.hid (row_set U_8.out (g := w.heap.size) (j := 1) (u := .int .i64 s1.sel) (by omega))
    have V_9 := Lib.hid (row_set V_8.out (g := w.heap.size) (j := 1) (u := .int .i64 s1.sel) (by omega))
    have B_9 := Lib.hid (CellsW.off B_8.out (c := w.heap.size) (j := 1) (.int .i64 s1.sel) (by omega))
    clear R_8 D_8 U_8 V_8 B_8
    have R_10 := Lib.hid (CellsW.set R_9.out 2 (.int .i64 s1.win) (by simp))
    have D_10 := Lib.hid (Dr.setNew D_9.out (g := w.heap.size) (by omega) 2 (.int .i64 s1.win))
    have U_10 := Lib.hid (row_set U_9.out (g := w.heap.size) (j := 2) (u := .int .i64 s1.win) (by omega))
    have V_10 := Lib.hid (row_set V_9.out (g := w.heap.size) (j := 2) (u := .int .i64 s1.win) (by omega))
    have B_10 := Lib.hid (CellsW.off B_9.out (c := w.heap.size) (j := 2) (.int .i64 s1.win) (by omega))
    clear R_9 D_9 U_9 V_9 B_9
    have R_11 := Lib.hid (CellsW.set R_10.out 3 (.slice ad s2.ps.length cd) (by simp))
    have D_11 := Lib.hid (Dr.setNew D_10.out (g := w.heap.size) (by omega) 3 (.slice ad s2.ps.length cd))
    have U_11 := Lib.hid (row_set U_10.out (g := w.heap.size) (j := 3) (u := .slice ad s2.ps.length cd) (by omega))
    have V_11 := Lib.hid (row_set V_10.out (g := w.heap.size) (j := 3) (u := .slice ad s2.ps.length cd) (by omega))
    have B_11 := Lib.hid (CellsW.off B_10.out (c := w.heap.size) (j := 3) (.slice ad s2.ps.length cd) (by omega))
    clear R_10 D_10 U_10 V_10 B_10
    have R_12 := Lib.hid (CellsW.set R_11.out 4 (.int .i64 s2.sel) (by simp))
    have D_12 := Lib.hid (Dr.setNew D_11.out (g := w.heap.size) (by omega) 4 (.int .i64 s2.sel))
    have U_12 := Lib.hid (row_set U_11.out (g := w.heap.size) (j := 4) (u := .int .i64 s2.sel) (by omega))
    have V_12 := Lib.hid (row_set V_11.out (g := w.heap.size) (j := 4) (u := .int .i64 s2.sel) (by omega))
    have B_12 := Lib.hid (CellsW.off B_11.out (c := w.heap.size) (j := 4) (.int .i64 s2.sel) (by omega))
    clear R_11 D_11 U_11 V_11 B_11
    have R_13 := Lib.hid (CellsW.set R_12.out 5 (.int .i64 s2.win) (by simp))
    have D_13 := Lib.hid (Dr.setNew D_12.out (g := w.heap.size) (by omega) 5 (.int .i64 s2.win))
    have U_13 := Lib.hid (row_set U_12.out (g := w.heap.size) (j := 5) (u := .int .i64 s2.win) (by omega))
    have V_13 := Lib.hid (row_set V_12.out (g := w.heap.size) (j := 5) (u := .int .i64 s2.win) (by omega))
    have B_13 := Lib.hid (CellsW.off B_12.out (c := w.heap.size) (j := 5) (.int .i64 s2.win) (by omega))
    clear R_12 D_12 U_12 V_12 B_12
    have R_14 := Lib.hid (CellsW.set R_13.out 6 (.int .i64 mn) (by simp))
    have D_14 := Lib.hid (Dr.setNew D_13.out (g := w.heap.size) (by omega) 6 (.int .i64 mn))
    have U_14 := Lib.hid (row_set U_13.out (g := w.heap.size) (j := 6) (u := .int .i64 mn) (by omega))
    have V_14 := Lib.hid (row_set V_13.out (g := w.heap.size) (j := 6) (u := .int .i64 mn) (by omega))
    have B_14 := Lib.hid (CellsW.off B_13.out (c := w.heap.size) (j := 6) (.int .i64 mn) (by omega))
    clear R_13 D_13 U_13 V_13 B_13
    have R_15 := Lib.hid (CellsW.set R_14.out 7 (.int .i64 (mn + x)) (by simp))
    have D_15 := Lib.hid (Dr.setNew D_14.out (g := w.heap.size) (by omega) 7 (.int .i64 (mn + x)))
    have U_15 := Lib.hid (row_set U_14.out (g := w.heap.size) (j := 7) (u := .int .i64 (mn + x)) (by omega))
    have V_15 := Lib.hid (row_set V_14.out (g := w.heap.size) (j := 7) (u := .int .i64 (mn + x)) (by omega))
    have B_15 := Lib.hid (CellsW.off B_14.out (c := w.heap.size) (j := 7) (.int .i64 (mn + x)) (by omega))
    clear R_14 D_14 U_14 V_14 B_14
    exact bodyPost_ret (ret_bh rfl R_15.out rfl) rfl ⟨⟨s1, s2, mn, mn + x⟩, _, _, m, rfl, U_15.out, V_15.out, HV1.out, hmw, by simp only; omega, by simp only; omega, by simp only; omega, by simp only; omega, D_15.out⟩
/-- A loose behaviour. -/
def BhL (c : Nat) (w : World) (e : Ending) (w' : World) : Prop := ∃ (b : Bh) (v1 v2 : Value), e = .returned (.agg #[v1, .int .i64 b.up.sel, .int .i64 b.up.win, v2, .int .i64 b.dn.sel, .int .i64 b.dn.win, .int .i64 b.mn, .int .i64 b.mx]) ∧ OwnL w' (w.heap.size + 1) v1 b.up.ps ∧ OwnL w' (w.heap.size + 1) v2 b.dn.ps ∧ b.up.ps.length ≤ 4 ∧ b.dn.ps.length ≤ 4 ∧ (-1 ≤ b.mn ∧ b.mn ≤ 1002) ∧ (0 ≤ b.mx ∧ b.mx ≤ 1001) ∧ Dr c w w'
set_option maxRecDepth 100000 in
set_option maxHeartbeats 8000000 in
theorem loose_behave (c : Nat) (w : World) (hC : Cur w c) :
    Calls Try.prog 43 #[.pointer (some ⟨c, 0, none⟩)] w (BhL c w) := by
  have hcl := hC.lt
  obtain ⟨i0, hi, hz0, hz1, hz2⟩ := info_pl2
  have mixed : Try.prog.follows .mixedOrders = true := by kernel_rfl
  have R_0 := Lib.hid (cells_new w #[.slice none 0 0, .int .i64 0, .int .i64 0, .slice none 0 0, .int .i64 0, .int .i64 0, .int .i64 0, .int .i64 0] 28)
  have D_0 := Lib.hid ((Dr.start hC).alloc (.cells #[.slice none 0 0, .int .i64 0, .int .i64 0, .slice none 0 0, .int .i64 0, .int .i64 0, .int .i64 0, .int .i64 0] 28))
  have HS0 : Hid ((w.alloc (.cells #[.slice none 0 0, .int .i64 0, .int .i64 0, .slice none 0 0, .int .i64 0, .int .i64 0, .int .i64 0, .int .i64 0] 28)).heap.size = w.heap.size + 1) := by show _ = _; simp
  obtain ⟨W0, hW0⟩ : ∃ W0, w.alloc (.cells #[.slice none 0 0, .int .i64 0, .int .i64 0, .slice none 0 0, .int .i64 0, .int .i64 0, .int .i64 0, .int .i64 0] 28) = W0 := ⟨_, rfl⟩
  rw [hW0] at R_0 D_0 HS0
  have HW0 := Lib.hid hW0
  clear hC hW0
  go_enter Try.func43, Try.ntmps43
  go_wp2_with fail
  rw [HW0.out]
  have hR1 := R_0.out.1
  refine (draw_behave c _ D_0.out.cur).mono ?_
  rintro e wd5 ⟨b, v1, v2, m, rfl, ho1, ho2, hv1m, hmw, hl1, hl2, hmn, hmx, hD⟩
  have hC := hD.cur
  have hT := hD.tou
  have R_1 := Lib.hid (CellsW.touch R_0.out hT (by omega))
  have D_1 := Lib.hid (Dr.step D_0.out hC hT)
  clear R_0 D_0
  clear hC hT
  clear hD
  rw [HS0.out] at ho1 hmw
  have U_0 := Lib.hid (OwnL.mono (B' := w.heap.size + 1) ho1 (by omega))
  have V_0 := Lib.hid ho2
  have HVM := Lib.hid hv1m
  clear ho1 ho2 hv1m
  obtain ⟨au, cu, hv1, -⟩ := pl_form U_0.out
  obtain ⟨ad, cd, hv2, -⟩ := pl_form V_0.out
  subst hv1 hv2
  have B_1 := Lib.hid (cells_new wd5 #[.slice au b.up.ps.length cu, .int .i64 (b.up.sel), .int .i64 (b.up.win), .slice ad b.dn.ps.length cd, .int .i64 (b.dn.sel), .int .i64 (b.dn.win), .int .i64 (b.mn), .int .i64 (b.mx)] 28)
  have hzB := D_1.out.size
  have hzR := R_1.out.1
  have HUG := Lib.hid (fun g hg => Nat.ne_of_lt (World.ownsRow.lt U_0.out g hg).2)
  have HVG := Lib.hid (fun g hg => Nat.ne_of_lt (World.ownsRow.lt V_0.out g hg).2)
  have R_2 := Lib.hid (CellsW.al R_1.out (.cells #[.slice au b.up.ps.length cu, .int .i64 (b.up.sel), .int .i64 (b.up.win), .slice ad b.dn.ps.length cd, .int .i64 (b.dn.sel), .int .i64 (b.dn.win), .int .i64 (b.mn), .int .i64 (b.mx)] 28))
  have D_2 := Lib.hid (Dr.alloc D_1.out (.cells #[.slice au b.up.ps.length cu, .int .i64 (b.up.sel), .int .i64 (b.up.win), .slice ad b.dn.ps.length cd, .int .i64 (b.dn.sel), .int .i64 (b.dn.win), .int .i64 (b.mn), .int .i64 (b.mx)] 28))
  have U_2 := Lib.hid (row_alloc U_0.out (.cells #[.slice au b.up.ps.length cu, .int .i64 (b.up.sel), .int .i64 (b.up.win), .slice ad b.dn.ps.length cd, .int .i64 (b.dn.sel), .int .i64 (b.dn.win), .int .i64 (b.mn), .int .i64 (b.mx)] 28))
  have V_2 := Lib.hid (row_alloc V_0.out (.cells #[.slice au b.up.ps.length cu, .int .i64 (b.up.sel), .int .i64 (b.up.win), .slice ad b.dn.ps.length cd, .int .i64 (b.dn.sel), .int .i64 (b.dn.win), .int .i64 (b.mn), .int .i64 (b.mx)] 28))
  clear R_1 D_1 U_0 V_0
  obtain ⟨G, hl⟩ : ∃ x, wd5.heap.size = x := ⟨_, rfl⟩
  rw [hl] at hzB hzR B_1 HUG HVG
  have HL := Lib.hid hl
  clear hl
  go_wp2_with fail
  rw [HL.out]
  clear HL
  obtain ⟨wd6, hw⟩ : ∃ yy : World, wd5.alloc (.cells #[.slice au b.up.ps.length cu, .int .i64 (b.up.sel), .int .i64 (b.up.win), .slice ad b.dn.ps.length cd, .int .i64 (b.dn.sel), .int .i64 (b.dn.win), .int .i64 (b.mn), .int .i64 (b.mx)] 28) = yy := ⟨_, rfl⟩
  rw [hw] at R_2 D_2 U_2 V_2 B_1 ⊢
  clear hw
  refine (once c _ (by omega) (by omega) _ D_2.out.cur).mono ?_
  rintro e wd7 ⟨o, rfl, hC, hT⟩
  have R_3 := Lib.hid (CellsW.touch R_2.out hT (by omega))
  have D_3 := Lib.hid (Dr.step D_2.out hC hT)
  have U_3 := Lib.hid (row_touch U_2.out (by omega) hT)
  have V_3 := Lib.hid (row_touch V_2.out (by omega) hT)
  have B_3 := Lib.hid (CellsW.touch B_1.out hT (by omega))
  clear R_2 D_2 U_2 V_2 B_1
  clear hC hT
  cases o
  · skip
    obtain ⟨cs0, fcs0⟩ := B_3.out.2 0 (by simp)
    obtain ⟨cs1, fcs1⟩ := B_3.out.2 1 (by simp)
    obtain ⟨cs2, fcs2⟩ := B_3.out.2 2 (by simp)
    obtain ⟨cs3, fcs3⟩ := B_3.out.2 3 (by simp)
    obtain ⟨cs4, fcs4⟩ := B_3.out.2 4 (by simp)
    obtain ⟨cs5, fcs5⟩ := B_3.out.2 5 (by simp)
    obtain ⟨cs6, fcs6⟩ := B_3.out.2 6 (by simp)
    obtain ⟨cs7, fcs7⟩ := B_3.out.2 7 (by simp)
    try simp only [List.getElem_cons_zero, List.getElem_cons_succ] at cs0 cs1 cs2 cs3 cs4 cs5 cs6 cs7
    obtain ⟨cr0, fcr0⟩ := R_3.out.2 0 (by simp)
    obtain ⟨cr1, fcr1⟩ := R_3.out.2 1 (by simp)
    obtain ⟨cr2, fcr2⟩ := R_3.out.2 2 (by simp)
    obtain ⟨cr3, fcr3⟩ := R_3.out.2 3 (by simp)
    obtain ⟨cr4, fcr4⟩ := R_3.out.2 4 (by simp)
    obtain ⟨cr5, fcr5⟩ := R_3.out.2 5 (by simp)
    obtain ⟨cr6, fcr6⟩ := R_3.out.2 6 (by simp)
    obtain ⟨cr7, fcr7⟩ := R_3.out.2 7 (by simp)
    try simp only [List.getElem_cons_zero, List.getElem_cons_succ] at cr0 cr1 cr2 cr3 cr4 cr5 cr6 cr7
    go_wp2
    have R_4 := Lib.hid (CellsW.set R_3.out 0 (.slice au b.up.ps.length cu) (by simp))
    have D_4 := Lib.hid (Dr.setNew D_3.out (g := w.heap.size) (by omega) 0 (.slice au b.up.ps.length cu))
    have U_4 := Lib.hid (row_set U_3.out (g := w.heap.size) (j := 0) (u := .slice au b.up.ps.length cu) (by omega))
    have V_4 := Lib.hid (row_set V_3.out (g := w.heap.size) (j := 0) (u := .slice au b.up.ps.length cu) (by omega))
    have B_4 := Lib.hid (CellsW.off B_3.out (c := w.heap.size) (j := 0) (.slice au b.up.ps.length cu) (by omega))
    clear R_3 D_3 U_3 V_3 B_3
    have R_5 := Lib.hid (CellsW.set R_4.out 1 (.int .i64 (b.up.sel)) (by simp))
    have D_5 := Lib.hid (Dr.setNew D_4.out (g := w.heap.size) (by omega) 1 (.int .i64 (b.up.sel)))
    have U_5 := Lib.hid (row_set U_4.out (g := w.heap.size) (j := 1) (u := .int .i64 (b.up.sel)) (by omega))
    have V_5 := Lib.hid (row_set V_4.out (g := w.heap.size) (j := 1) (u := .int .i64 (b.up.sel)) (by omega))
    have B_5 := Lib.hid (CellsW.off B_4.out (c := w.heap.size) (j := 1) (.int .i64 (b.up.sel)) (by omega))
    clear R_4 D_4 U_4 V_4 B_4
    have R_6 := Lib.hid (CellsW.set R_5.out 2 (.int .i64 (b.up.win)) (by simp))
    have D_6 := Lib.hid (Dr.setNew D_5.out (g := w.heap.size) (by omega) 2 (.int .i64 (b.up.win)))
    have U_6 := Lib.hid (row_set U_5.out (g := w.heap.size) (j := 2) (u := .int .i64 (b.up.win)) (by omega))
    have V_6 := Lib.hid (row_set V_5.out (g := w.heap.size) (j := 2) (u := .int .i64 (b.up.win)) (by omega))
    have B_6 := Lib.hid (CellsW.off B_5.out (c := w.heap.size) (j := 2) (.int .i64 (b.up.win)) (by omega))
    clear R_5 D_5 U_5 V_5 B_5
    have R_7 := Lib.hid (CellsW.set R_6.out 3 (.slice ad b.dn.ps.length cd) (by simp))
    have D_7 := Lib.hid (Dr.setNew D_6.out (g := w.heap.size) (by omega) 3 (.slice ad b.dn.ps.length cd))
    have U_7 := Lib.hid (row_set U_6.out (g := w.heap.size) (j := 3) (u := .slice ad b.dn.ps.length cd) (by omega))
    have V_7 := Lib.hid (row_set V_6.out (g := w.heap.size) (j := 3) (u := .slice ad b.dn.ps.length cd) (by omega))
    have B_7 := Lib.hid (CellsW.off B_6.out (c := w.heap.size) (j := 3) (.slice ad b.dn.ps.length cd) (by omega))
    clear R_6 D_6 U_6 V_6 B_6
    have R_8 := Lib.hid (CellsW.set R_7.out 4 (.int .i64 (b.dn.sel)) (by simp))
    have D_8 := Lib.hid (Dr.setNew D_7.out (g := w.heap.size) (by omega) 4 (.int .i64 (b.dn.sel)))
    have U_8 := Lib.hid (row_set U_7.out (g := w.heap.size) (j := 4) (u := .int .i64 (b.dn.sel)) (by omega))
    have V_8 := Lib.hid (row_set V_7.out (g := w.heap.size) (j := 4) (u := .int .i64 (b.dn.sel)) (by omega))
    have B_8 := Lib.hid (CellsW.off B_7.out (c := w.heap.size) (j := 4) (.int .i64 (b.dn.sel)) (by omega))
    clear R_7 D_7 U_7 V_7 B_7
    have R_9 := Lib.hid (CellsW.set R_8.out 5 (.int .i64 (b.dn.win)) (by simp))
    have D_9 := Lib.hid (Dr.setNew D_8.out (g := w.heap.size) (by omega) 5 (.int .i64 (b.dn.win)))
    have U_9 := Lib.hid (row_set U_8.out (g := w.heap.size) (j := 5) (u := .int .i64 (b.dn.win)) (by omega))
    have V_9 := Lib.hid (row_set V_8.out (g := w.heap.size) (j := 5) (u := .int .i64 (b.dn.win)) (by omega))
    have B_9 := Lib.hid (CellsW.off B_8.out (c := w.heap.size) (j := 5) (.int .i64 (b.dn.win)) (by omega))
    clear R_8 D_8 U_8 V_8 B_8
    have R_10 := Lib.hid (CellsW.set R_9.out 6 (.int .i64 (b.mn)) (by simp))
    have D_10 := Lib.hid (Dr.setNew D_9.out (g := w.heap.size) (by omega) 6 (.int .i64 (b.mn)))
    have U_10 := Lib.hid (row_set U_9.out (g := w.heap.size) (j := 6) (u := .int .i64 (b.mn)) (by omega))
    have V_10 := Lib.hid (row_set V_9.out (g := w.heap.size) (j := 6) (u := .int .i64 (b.mn)) (by omega))
    have B_10 := Lib.hid (CellsW.off B_9.out (c := w.heap.size) (j := 6) (.int .i64 (b.mn)) (by omega))
    clear R_9 D_9 U_9 V_9 B_9
    have R_11 := Lib.hid (CellsW.set R_10.out 7 (.int .i64 (b.mx)) (by simp))
    have D_11 := Lib.hid (Dr.setNew D_10.out (g := w.heap.size) (by omega) 7 (.int .i64 (b.mx)))
    have U_11 := Lib.hid (row_set U_10.out (g := w.heap.size) (j := 7) (u := .int .i64 (b.mx)) (by omega))
    have V_11 := Lib.hid (row_set V_10.out (g := w.heap.size) (j := 7) (u := .int .i64 (b.mx)) (by omega))
    have B_11 := Lib.hid (CellsW.off B_10.out (c := w.heap.size) (j := 7) (.int .i64 (b.mx)) (by omega))
    clear R_10 D_10 U_10 V_10 B_10
    exact bodyPost_ret (ret_bh rfl R_11.out rfl) rfl ⟨b, _, _, rfl, OwnL.mono U_11.out (by omega), OwnL.mono V_11.out (by omega), by first | omega | (simp; omega), by first | omega | (simp only; omega), by first | omega | (simp only; omega), by first | omega | (simp only; omega), D_11.out⟩
  · skip
    go_wp2_with fail
    refine (below_n c _ (by omega) (by omega) _ D_3.out.cur).mono ?_
    rintro e wd58 ⟨x, x1, x2, rfl, hC, hT⟩
    have R_4 := Lib.hid (CellsW.touch R_3.out hT (by omega))
    have D_4 := Lib.hid (Dr.step D_3.out hC hT)
    have U_4 := Lib.hid (row_touch U_3.out (by omega) hT)
    have V_4 := Lib.hid (row_touch V_3.out (by omega) hT)
    have B_4 := Lib.hid (CellsW.touch B_3.out hT (by omega))
    clear R_3 D_3 U_3 V_3 B_3
    clear hC hT
    have hx : x = 0 ∨ x = 1 ∨ x = 2 ∨ x = 3 ∨ x = 4 := by omega
    rcases hx with rfl | rfl | rfl | rfl | rfl
    · skip
      obtain ⟨cn7, fcn7⟩ := B_4.out.2 7 (by simp)
      try simp only [List.getElem_cons_zero, List.getElem_cons_succ] at cn7
      go_wp2_with fail
      refine (pick_new c [-1, b.mx + 1] 2 rfl _ wd58 D_4.out.cur rfl (by omega) (by omega) ((-1)) (1002) (by intro v hv; simp at hv; omega)).mono ?_
      clear cn7 fcn7
      rintro e wd759 ⟨u, u1, u2, rfl, hC, hT⟩
      have R_5 := Lib.hid (CellsW.touch R_4.out hT (by omega))
      have D_5 := Lib.hid (Dr.step D_4.out hC hT)
      have U_5 := Lib.hid (row_touch U_4.out (by omega) hT)
      have V_5 := Lib.hid (row_touch V_4.out (by omega) hT)
      have B_5 := Lib.hid (CellsW.touch B_4.out hT (by omega))
      clear R_4 D_4 U_4 V_4 B_4
      clear hC hT
      obtain ⟨ca6, fca6⟩ := B_5.out.2 6 (by simp)
      try simp only [List.getElem_cons_zero, List.getElem_cons_succ] at ca6
      have R_6 := Lib.hid (CellsW.off R_5.out (c := G) (j := 6) (.int .i64 u) (by omega))
      have D_6 := Lib.hid (Dr.setNew D_5.out (g := G) (by omega) 6 (.int .i64 u))
      have U_6 := Lib.hid (row_off U_5.out (g := G) (j := 6) (u := .int .i64 u) HUG.out)
      have V_6 := Lib.hid (row_off V_5.out (g := G) (j := 6) (u := .int .i64 u) HVG.out)
      have B_6 := Lib.hid (CellsW.set B_5.out 6 (.int .i64 u) (by simp))
      clear R_5 D_5 U_5 V_5 B_5
      go_upto_region 14 with fail
      clear ca6 fca6
      obtain ⟨wd760, hw⟩ : ∃ yy : World, wd759.setCell ⟨G, 6, none⟩ (.int .i64 u) = yy := ⟨_, rfl⟩
      rw [hw] at R_6 D_6 U_6 V_6 B_6 ⊢
      clear hw
      obtain ⟨cs0, fcs0⟩ := B_6.out.2 0 (by simp)
      obtain ⟨cs1, fcs1⟩ := B_6.out.2 1 (by simp)
      obtain ⟨cs2, fcs2⟩ := B_6.out.2 2 (by simp)
      obtain ⟨cs3, fcs3⟩ := B_6.out.2 3 (by simp)
      obtain ⟨cs4, fcs4⟩ := B_6.out.2 4 (by simp)
      obtain ⟨cs5, fcs5⟩ := B_6.out.2 5 (by simp)
      obtain ⟨cs6, fcs6⟩ := B_6.out.2 6 (by simp)
      obtain ⟨cs7, fcs7⟩ := B_6.out.2 7 (by simp)
      try simp only [List.getElem_cons_zero, List.getElem_cons_succ] at cs0 cs1 cs2 cs3 cs4 cs5 cs6 cs7
      obtain ⟨cr0, fcr0⟩ := R_6.out.2 0 (by simp)
      obtain ⟨cr1, fcr1⟩ := R_6.out.2 1 (by simp)
      obtain ⟨cr2, fcr2⟩ := R_6.out.2 2 (by simp)
      obtain ⟨cr3, fcr3⟩ := R_6.out.2 3 (by simp)
      obtain ⟨cr4, fcr4⟩ := R_6.out.2 4 (by simp)
      obtain ⟨cr5, fcr5⟩ := R_6.out.2 5 (by simp)
      obtain ⟨cr6, fcr6⟩ := R_6.out.2 6 (by simp)
      obtain ⟨cr7, fcr7⟩ := R_6.out.2 7 (by simp)
      try simp only [List.getElem_cons_zero, List.getElem_cons_succ] at cr0 cr1 cr2 cr3 cr4 cr5 cr6 cr7
      go_wp2
      have R_7 := Lib.hid (CellsW.set R_6.out 0 (.slice au b.up.ps.length cu) (by simp))
      have D_7 := Lib.hid (Dr.setNew D_6.out (g := w.heap.size) (by omega) 0 (.slice au b.up.ps.length cu))
      have U_7 := Lib.hid (row_set U_6.out (g := w.heap.size) (j := 0) (u := .slice au b.up.ps.length cu) (by omega))
      have V_7 := Lib.hid (row_set V_6.out (g := w.heap.size) (j := 0) (u := .slice au b.up.ps.length cu) (by omega))
      have B_7 := Lib.hid (CellsW.off B_6.out (c := w.heap.size) (j := 0) (.slice au b.up.ps.length cu) (by omega))
      clear R_6 D_6 U_6 V_6 B_6
      have R_8 := Lib.hid (CellsW.set R_7.out 1 (.int .i64 (b.up.sel)) (by simp))
      have D_8 := Lib.hid (Dr.setNew D_7.out (g := w.heap.size) (by omega) 1 (.int .i64 (b.up.sel)))
      have U_8 := Lib.hid (row_set U_7.out (g := w.heap.size) (j := 1) (u := .int .i64 (b.up.sel)) (by omega))
      have V_8 := Lib.hid (row_set V_7.out (g := w.heap.size) (j := 1) (u := .int .i64 (b.up.sel)) (by omega))
      have B_8 := Lib.hid (CellsW.off B_7.out (c := w.heap.size) (j := 1) (.int .i64 (b.up.sel)) (by omega))
      clear R_7 D_7 U_7 V_7 B_7
      have R_9 := Lib.hid (CellsW.set R_8.out 2 (.int .i64 (b.up.win)) (by simp))
      have D_9 := Lib.hid (Dr.setNew D_8.out (g := w.heap.size) (by omega) 2 (.int .i64 (b.up.win)))
      have U_9 := Lib.hid (row_set U_8.out (g := w.heap.size) (j := 2) (u := .int .i64 (b.up.win)) (by omega))
      have V_9 := Lib.hid (row_set V_8.out (g := w.heap.size) (j := 2) (u := .int .i64 (b.up.win)) (by omega))
      have B_9 := Lib.hid (CellsW.off B_8.out (c := w.heap.size) (j := 2) (.int .i64 (b.up.win)) (by omega))
      clear R_8 D_8 U_8 V_8 B_8
      have R_10 := Lib.hid (CellsW.set R_9.out 3 (.slice ad b.dn.ps.length cd) (by simp))
      have D_10 := Lib.hid (Dr.setNew D_9.out (g := w.heap.size) (by omega) 3 (.slice ad b.dn.ps.length cd))
      have U_10 := Lib.hid (row_set U_9.out (g := w.heap.size) (j := 3) (u := .slice ad b.dn.ps.length cd) (by omega))
      have V_10 := Lib.hid (row_set V_9.out (g := w.heap.size) (j := 3) (u := .slice ad b.dn.ps.length cd) (by omega))
      have B_10 := Lib.hid (CellsW.off B_9.out (c := w.heap.size) (j := 3) (.slice ad b.dn.ps.length cd) (by omega))
      clear R_9 D_9 U_9 V_9 B_9
      have R_11 := Lib.hid (CellsW.set R_10.out 4 (.int .i64 (b.dn.sel)) (by simp))
      have D_11 := Lib.hid (Dr.setNew D_10.out (g := w.heap.size) (by omega) 4 (.int .i64 (b.dn.sel)))
      have U_11 := Lib.hid (row_set U_10.out (g := w.heap.size) (j := 4) (u := .int .i64 (b.dn.sel)) (by omega))
      have V_11 := Lib.hid (row_set V_10.out (g := w.heap.size) (j := 4) (u := .int .i64 (b.dn.sel)) (by omega))
      have B_11 := Lib.hid (CellsW.off B_10.out (c := w.heap.size) (j := 4) (.int .i64 (b.dn.sel)) (by omega))
      clear R_10 D_10 U_10 V_10 B_10
      have R_12 := Lib.hid (CellsW.set R_11.out 5 (.int .i64 (b.dn.win)) (by simp))
      have D_12 := Lib.hid (Dr.setNew D_11.out (g := w.heap.size) (by omega) 5 (.int .i64 (b.dn.win)))
      have U_12 := Lib.hid (row_set U_11.out (g := w.heap.size) (j := 5) (u := .int .i64 (b.dn.win)) (by omega))
      have V_12 := Lib.hid (row_set V_11.out (g := w.heap.size) (j := 5) (u := .int .i64 (b.dn.win)) (by omega))
      have B_12 := Lib.hid (CellsW.off B_11.out (c := w.heap.size) (j := 5) (.int .i64 (b.dn.win)) (by omega))
      clear R_11 D_11 U_11 V_11 B_11
      have R_13 := Lib.hid (CellsW.set R_12.out 6 (.int .i64 (u)) (by simp))
      have D_13 := Lib.hid (Dr.setNew D_12.out (g := w.heap.size) (by omega) 6 (.int .i64 (u)))
      have U_13 := Lib.hid (row_set U_12.out (g := w.heap.size) (j := 6) (u := .int .i64 (u)) (by omega))
      have V_13 := Lib.hid (row_set V_12.out (g := w.heap.size) (j := 6) (u := .int .i64 (u)) (by omega))
      have B_13 := Lib.hid (CellsW.off B_12.out (c := w.heap.size) (j := 6) (.int .i64 (u)) (by omega))
      clear R_12 D_12 U_12 V_12 B_12
      have R_14 := Lib.hid (CellsW.set R_13.out 7 (.int .i64 (b.mx)) (by simp))
      have D_14 := Lib.hid (Dr.setNew D_13.out (g := w.heap.size) (by omega) 7 (.int .i64 (b.mx)))
      have U_14 := Lib.hid (row_set U_13.out (g := w.heap.size) (j := 7) (u := .int .i64 (b.mx)) (by omega))
      have V_14 := Lib.hid (row_set V_13.out (g := w.heap.size) (j := 7) (u := .int .i64 (b.mx)) (by omega))
      have B_14 := Lib.hid (CellsW.off B_13.out (c := w.heap.size) (j := 7) (.int .i64 (b.mx)) (by omega))
      clear R_13 D_13 U_13 V_13 B_13
      exact bodyPost_ret (ret_bh rfl R_14.out rfl) rfl ⟨⟨b.up, b.dn, u, b.mx⟩, _, _, rfl, OwnL.mono U_14.out (by omega), OwnL.mono V_14.out (by omega), by first | omega | (simp; omega), by first | omega | (simp only; omega), by first | omega | (simp only; omega), by first | omega | (simp only; omega), D_14.out⟩
    · skip
      go_wp2_with fail
      refine (pick_new c [1000, 1001] 2 rfl _ wd58 D_4.out.cur rfl (by omega) (by omega) ((1000)) (1001) (by intro v hv; simp at hv; omega)).mono ?_
      rintro e wd859 ⟨u, u1, u2, rfl, hC, hT⟩
      have R_5 := Lib.hid (CellsW.touch R_4.out hT (by omega))
      have D_5 := Lib.hid (Dr.step D_4.out hC hT)
      have U_5 := Lib.hid (row_touch U_4.out (by omega) hT)
      have V_5 := Lib.hid (row_touch V_4.out (by omega) hT)
      have B_5 := Lib.hid (CellsW.touch B_4.out hT (by omega))
      clear R_4 D_4 U_4 V_4 B_4
      clear hC hT
      obtain ⟨ca7, fca7⟩ := B_5.out.2 7 (by simp)
      try simp only [List.getElem_cons_zero, List.getElem_cons_succ] at ca7
      have R_6 := Lib.hid (CellsW.off R_5.out (c := G) (j := 7) (.int .i64 u) (by omega))
      have D_6 := Lib.hid (Dr.setNew D_5.out (g := G) (by omega) 7 (.int .i64 u))
      have U_6 := Lib.hid (row_off U_5.out (g := G) (j := 7) (u := .int .i64 u) HUG.out)
      have V_6 := Lib.hid (row_off V_5.out (g := G) (j := 7) (u := .int .i64 u) HVG.out)
      have B_6 := Lib.hid (CellsW.set B_5.out 7 (.int .i64 u) (by simp))
      clear R_5 D_5 U_5 V_5 B_5
      go_upto_region 14 with fail
      clear ca7 fca7
      obtain ⟨wd860, hw⟩ : ∃ yy : World, wd859.setCell ⟨G, 7, none⟩ (.int .i64 u) = yy := ⟨_, rfl⟩
      rw [hw] at R_6 D_6 U_6 V_6 B_6 ⊢
      clear hw
      obtain ⟨cs0, fcs0⟩ := B_6.out.2 0 (by simp)
      obtain ⟨cs1, fcs1⟩ := B_6.out.2 1 (by simp)
      obtain ⟨cs2, fcs2⟩ := B_6.out.2 2 (by simp)
      obtain ⟨cs3, fcs3⟩ := B_6.out.2 3 (by simp)
      obtain ⟨cs4, fcs4⟩ := B_6.out.2 4 (by simp)
      obtain ⟨cs5, fcs5⟩ := B_6.out.2 5 (by simp)
      obtain ⟨cs6, fcs6⟩ := B_6.out.2 6 (by simp)
      obtain ⟨cs7, fcs7⟩ := B_6.out.2 7 (by simp)
      try simp only [List.getElem_cons_zero, List.getElem_cons_succ] at cs0 cs1 cs2 cs3 cs4 cs5 cs6 cs7
      obtain ⟨cr0, fcr0⟩ := R_6.out.2 0 (by simp)
      obtain ⟨cr1, fcr1⟩ := R_6.out.2 1 (by simp)
      obtain ⟨cr2, fcr2⟩ := R_6.out.2 2 (by simp)
      obtain ⟨cr3, fcr3⟩ := R_6.out.2 3 (by simp)
      obtain ⟨cr4, fcr4⟩ := R_6.out.2 4 (by simp)
      obtain ⟨cr5, fcr5⟩ := R_6.out.2 5 (by simp)
      obtain ⟨cr6, fcr6⟩ := R_6.out.2 6 (by simp)
      obtain ⟨cr7, fcr7⟩ := R_6.out.2 7 (by simp)
      try simp only [List.getElem_cons_zero, List.getElem_cons_succ] at cr0 cr1 cr2 cr3 cr4 cr5 cr6 cr7
      go_wp2
      have R_7 := Lib.hid (CellsW.set R_6.out 0 (.slice au b.up.ps.length cu) (by simp))
      have D_7 := Lib.hid (Dr.setNew D_6.out (g := w.heap.size) (by omega) 0 (.slice au b.up.ps.length cu))
      have U_7 := Lib.hid (row_set U_6.out (g := w.heap.size) (j := 0) (u := .slice au b.up.ps.length cu) (by omega))
      have V_7 := Lib.hid (row_set V_6.out (g := w.heap.size) (j := 0) (u := .slice au b.up.ps.length cu) (by omega))
      have B_7 := Lib.hid (CellsW.off B_6.out (c := w.heap.size) (j := 0) (.slice au b.up.ps.length cu) (by omega))
      clear R_6 D_6 U_6 V_6 B_6
      have R_8 := Lib.hid (CellsW.set R_7.out 1 (.int .i64 (b.up.sel)) (by simp))
      have D_8 := Lib.hid (Dr.setNew D_7.out (g := w.heap.size) (by omega) 1 (.int .i64 (b.up.sel)))
      have U_8 := Lib.hid (row_set U_7.out (g := w.heap.size) (j := 1) (u := .int .i64 (b.up.sel)) (by omega))
      have V_8 := Lib.hid (row_set V_7.out (g := w.heap.size) (j := 1) (u := .int .i64 (b.up.sel)) (by omega))
      have B_8 := Lib.hid (CellsW.off B_7.out (c := w.heap.size) (j := 1) (.int .i64 (b.up.sel)) (by omega))
      clear R_7 D_7 U_7 V_7 B_7
      have R_9 := Lib.hid (CellsW.set R_8.out 2 (.int .i64 (b.up.win)) (by simp))
      have D_9 := Lib.hid (Dr.setNew D_8.out (g := w.heap.size) (by omega) 2 (.int .i64 (b.up.win)))
      have U_9 := Lib.hid (row_set U_8.out (g := w.heap.size) (j := 2) (u := .int .i64 (b.up.win)) (by omega))
      have V_9 := Lib.hid (row_set V_8.out (g := w.heap.size) (j := 2) (u := .int .i64 (b.up.win)) (by omega))
      have B_9 := Lib.hid (CellsW.off B_8.out (c := w.heap.size) (j := 2) (.int .i64 (b.up.win)) (by omega))
      clear R_8 D_8 U_8 V_8 B_8
      have R_10 := Lib.hid (CellsW.set R_9.out 3 (.slice ad b.dn.ps.length cd) (by simp))
      have D_10 := Lib.hid (Dr.setNew D_9.out (g := w.heap.size) (by omega) 3 (.slice ad b.dn.ps.length cd))
      have U_10 := Lib.hid (row_set U_9.out (g := w.heap.size) (j := 3) (u := .slice ad b.dn.ps.length cd) (by omega))
      have V_10 := Lib.hid (row_set V_9.out (g := w.heap.size) (j := 3) (u := .slice ad b.dn.ps.length cd) (by omega))
      have B_10 := Lib.hid (CellsW.off B_9.out (c := w.heap.size) (j := 3) (.slice ad b.dn.ps.length cd) (by omega))
      clear R_9 D_9 U_9 V_9 B_9
      have R_11 := Lib.hid (CellsW.set R_10.out 4 (.int .i64 (b.dn.sel)) (by simp))
      have D_11 := Lib.hid (Dr.setNew D_10.out (g := w.heap.size) (by omega) 4 (.int .i64 (b.dn.sel)))
      have U_11 := Lib.hid (row_set U_10.out (g := w.heap.size) (j := 4) (u := .int .i64 (b.dn.sel)) (by omega))
      have V_11 := Lib.hid (row_set V_10.out (g := w.heap.size) (j := 4) (u := .int .i64 (b.dn.sel)) (by omega))
      have B_11 := Lib.hid (CellsW.off B_10.out (c := w.heap.size) (j := 4) (.int .i64 (b.dn.sel)) (by omega))
      clear R_10 D_10 U_10 V_10 B_10
      have R_12 := Lib.hid (CellsW.set R_11.out 5 (.int .i64 (b.dn.win)) (by simp))
      have D_12 := Lib.hid (Dr.setNew D_11.out (g := w.heap.size) (by omega) 5 (.int .i64 (b.dn.win)))
      have U_12 := Lib.hid (row_set U_11.out (g := w.heap.size) (j := 5) (u := .int .i64 (b.dn.win)) (by omega))
      have V_12 := Lib.hid (row_set V_11.out (g := w.heap.size) (j := 5) (u := .int .i64 (b.dn.win)) (by omega))
      have B_12 := Lib.hid (CellsW.off B_11.out (c := w.heap.size) (j := 5) (.int .i64 (b.dn.win)) (by omega))
      clear R_11 D_11 U_11 V_11 B_11
      have R_13 := Lib.hid (CellsW.set R_12.out 6 (.int .i64 (b.mn)) (by simp))
      have D_13 := Lib.hid (Dr.setNew D_12.out (g := w.heap.size) (by omega) 6 (.int .i64 (b.mn)))
      have U_13 := Lib.hid (row_set U_12.out (g := w.heap.size) (j := 6) (u := .int .i64 (b.mn)) (by omega))
      have V_13 := Lib.hid (row_set V_12.out (g := w.heap.size) (j := 6) (u := .int .i64 (b.mn)) (by omega))
      have B_13 := Lib.hid (CellsW.off B_12.out (c := w.heap.size) (j := 6) (.int .i64 (b.mn)) (by omega))
      clear R_12 D_12 U_12 V_12 B_12
      have R_14 := Lib.hid (CellsW.set R_13.out 7 (.int .i64 (u)) (by simp))
      have D_14 := Lib.hid (Dr.setNew D_13.out (g := w.heap.size) (by omega) 7 (.int .i64 (u)))
      have U_14 := Lib.hid (row_set U_13.out (g := w.heap.size) (j := 7) (u := .int .i64 (u)) (by omega))
      have V_14 := Lib.hid (row_set V_13.out (g := w.heap.size) (j := 7) (u := .int .i64 (u)) (by omega))
      have B_14 := Lib.hid (CellsW.off B_13.out (c := w.heap.size) (j := 7) (.int .i64 (u)) (by omega))
      clear R_13 D_13 U_13 V_13 B_13
      exact bodyPost_ret (ret_bh rfl R_14.out rfl) rfl ⟨⟨b.up, b.dn, b.mn, u⟩, _, _, rfl, OwnL.mono U_14.out (by omega), OwnL.mono V_14.out (by omega), by first | omega | (simp; omega), by first | omega | (simp only; omega), by first | omega | (simp only; omega), by first | omega | (simp only; omega), D_14.out⟩
    · skip
      go_wp2_with fail
      refine (pick_new c [-1, 3] 2 rfl _ wd58 D_4.out.cur rfl (by omega) (by omega) ((-1)) (3) (by intro v hv; simp at hv; omega)).mono ?_
      rintro e wd259 ⟨u, u1, u2, rfl, hC, hT⟩
      have R_5 := Lib.hid (CellsW.touch R_4.out hT (by omega))
      have D_5 := Lib.hid (Dr.step D_4.out hC hT)
      have U_5 := Lib.hid (row_touch U_4.out (by omega) hT)
      have V_5 := Lib.hid (row_touch V_4.out (by omega) hT)
      have B_5 := Lib.hid (CellsW.touch B_4.out hT (by omega))
      clear R_4 D_4 U_4 V_4 B_4
      clear hC hT
      obtain ⟨ca1, fca1⟩ := B_5.out.2 1 (by simp)
      try simp only [List.getElem_cons_zero, List.getElem_cons_succ] at ca1
      have R_6 := Lib.hid (CellsW.off R_5.out (c := G) (j := 1) (.int .i64 u) (by omega))
      have D_6 := Lib.hid (Dr.setNew D_5.out (g := G) (by omega) 1 (.int .i64 u))
      have U_6 := Lib.hid (row_off U_5.out (g := G) (j := 1) (u := .int .i64 u) HUG.out)
      have V_6 := Lib.hid (row_off V_5.out (g := G) (j := 1) (u := .int .i64 u) HVG.out)
      have B_6 := Lib.hid (CellsW.set B_5.out 1 (.int .i64 u) (by simp))
      clear R_5 D_5 U_5 V_5 B_5
      go_upto_region 14 with fail
      clear ca1 fca1
      obtain ⟨wd260, hw⟩ : ∃ yy : World, wd259.setCell ⟨G, 1, none⟩ (.int .i64 u) = yy := ⟨_, rfl⟩
      rw [hw] at R_6 D_6 U_6 V_6 B_6 ⊢
      clear hw
      obtain ⟨cs0, fcs0⟩ := B_6.out.2 0 (by simp)
      obtain ⟨cs1, fcs1⟩ := B_6.out.2 1 (by simp)
      obtain ⟨cs2, fcs2⟩ := B_6.out.2 2 (by simp)
      obtain ⟨cs3, fcs3⟩ := B_6.out.2 3 (by simp)
      obtain ⟨cs4, fcs4⟩ := B_6.out.2 4 (by simp)
      obtain ⟨cs5, fcs5⟩ := B_6.out.2 5 (by simp)
      obtain ⟨cs6, fcs6⟩ := B_6.out.2 6 (by simp)
      obtain ⟨cs7, fcs7⟩ := B_6.out.2 7 (by simp)
      try simp only [List.getElem_cons_zero, List.getElem_cons_succ] at cs0 cs1 cs2 cs3 cs4 cs5 cs6 cs7
      obtain ⟨cr0, fcr0⟩ := R_6.out.2 0 (by simp)
      obtain ⟨cr1, fcr1⟩ := R_6.out.2 1 (by simp)
      obtain ⟨cr2, fcr2⟩ := R_6.out.2 2 (by simp)
      obtain ⟨cr3, fcr3⟩ := R_6.out.2 3 (by simp)
      obtain ⟨cr4, fcr4⟩ := R_6.out.2 4 (by simp)
      obtain ⟨cr5, fcr5⟩ := R_6.out.2 5 (by simp)
      obtain ⟨cr6, fcr6⟩ := R_6.out.2 6 (by simp)
      obtain ⟨cr7, fcr7⟩ := R_6.out.2 7 (by simp)
      try simp only [List.getElem_cons_zero, List.getElem_cons_succ] at cr0 cr1 cr2 cr3 cr4 cr5 cr6 cr7
      go_wp2
      have R_7 := Lib.hid (CellsW.set R_6.out 0 (.slice au b.up.ps.length cu) (by simp))
      have D_7 := Lib.hid (Dr.setNew D_6.out (g := w.heap.size) (by omega) 0 (.slice au b.up.ps.length cu))
      have U_7 := Lib.hid (row_set U_6.out (g := w.heap.size) (j := 0) (u := .slice au b.up.ps.length cu) (by omega))
      have V_7 := Lib.hid (row_set V_6.out (g := w.heap.size) (j := 0) (u := .slice au b.up.ps.length cu) (by omega))
      have B_7 := Lib.hid (CellsW.off B_6.out (c := w.heap.size) (j := 0) (.slice au b.up.ps.length cu) (by omega))
      clear R_6 D_6 U_6 V_6 B_6
      have R_8 := Lib.hid (CellsW.set R_7.out 1 (.int .i64 (u)) (by simp))
      have D_8 := Lib.hid (Dr.setNew D_7.out (g := w.heap.size) (by omega) 1 (.int .i64 (u)))
      have U_8 := Lib.hid (row_set U_7.out (g := w.heap.size) (j := 1) (u := .int .i64 (u)) (by omega))
      have V_8 := Lib.hid (row_set V_7.out (g := w.heap.size) (j := 1) (u := .int .i64 (u)) (by omega))
      have B_8 := Lib.hid (CellsW.off B_7.out (c := w.heap.size) (j := 1) (.int .i64 (u)) (by omega))
      clear R_7 D_7 U_7 V_7 B_7
      have R_9 := Lib.hid (CellsW.set R_8.out 2 (.int .i64 (b.up.win)) (by simp))
      have D_9 := Lib.hid (Dr.setNew D_8.out (g := w.heap.size) (by omega) 2 (.int .i64 (b.up.win)))
      have U_9 := Lib.hid (row_set U_8.out (g := w.heap.size) (j := 2) (u := .int .i64 (b.up.win)) (by omega))
      have V_9 := Lib.hid (row_set V_8.out (g := w.heap.size) (j := 2) (u := .int .i64 (b.up.win)) (by omega))
      have B_9 := Lib.hid (CellsW.off B_8.out (c := w.heap.size) (j := 2) (.int .i64 (b.up.win)) (by omega))
      clear R_8 D_8 U_8 V_8 B_8
      have R_10 := Lib.hid (CellsW.set R_9.out 3 (.slice ad b.dn.ps.length cd) (by simp))
      have D_10 := Lib.hid (Dr.setNew D_9.out (g := w.heap.size) (by omega) 3 (.slice ad b.dn.ps.length cd))
      have U_10 := Lib.hid (row_set U_9.out (g := w.heap.size) (j := 3) (u := .slice ad b.dn.ps.length cd) (by omega))
      have V_10 := Lib.hid (row_set V_9.out (g := w.heap.size) (j := 3) (u := .slice ad b.dn.ps.length cd) (by omega))
      have B_10 := Lib.hid (CellsW.off B_9.out (c := w.heap.size) (j := 3) (.slice ad b.dn.ps.length cd) (by omega))
      clear R_9 D_9 U_9 V_9 B_9
      have R_11 := Lib.hid (CellsW.set R_10.out 4 (.int .i64 (b.dn.sel)) (by simp))
      have D_11 := Lib.hid (Dr.setNew D_10.out (g := w.heap.size) (by omega) 4 (.int .i64 (b.dn.sel)))
      have U_11 := Lib.hid (row_set U_10.out (g := w.heap.size) (j := 4) (u := .int .i64 (b.dn.sel)) (by omega))
      have V_11 := Lib.hid (row_set V_10.out (g := w.heap.size) (j := 4) (u := .int .i64 (b.dn.sel)) (by omega))
      have B_11 := Lib.hid (CellsW.off B_10.out (c := w.heap.size) (j := 4) (.int .i64 (b.dn.sel)) (by omega))
      clear R_10 D_10 U_10 V_10 B_10
      have R_12 := Lib.hid (CellsW.set R_11.out 5 (.int .i64 (b.dn.win)) (by simp))
      have D_12 := Lib.hid (Dr.setNew D_11.out (g := w.heap.size) (by omega) 5 (.int .i64 (b.dn.win)))
      have U_12 := Lib.hid (row_set U_11.out (g := w.heap.size) (j := 5) (u := .int .i64 (b.dn.win)) (by omega))
      have V_12 := Lib.hid (row_set V_11.out (g := w.heap.size) (j := 5) (u := .int .i64 (b.dn.win)) (by omega))
      have B_12 := Lib.hid (CellsW.off B_11.out (c := w.heap.size) (j := 5) (.int .i64 (b.dn.win)) (by omega))
      clear R_11 D_11 U_11 V_11 B_11
      have R_13 := Lib.hid (CellsW.set R_12.out 6 (.int .i64 (b.mn)) (by simp))
      have D_13 := Lib.hid (Dr.setNew D_12.out (g := w.heap.size) (by omega) 6 (.int .i64 (b.mn)))
      have U_13 := Lib.hid (row_set U_12.out (g := w.heap.size) (j := 6) (u := .int .i64 (b.mn)) (by omega))
      have V_13 := Lib.hid (row_set V_12.out (g := w.heap.size) (j := 6) (u := .int .i64 (b.mn)) (by omega))
      have B_13 := Lib.hid (CellsW.off B_12.out (c := w.heap.size) (j := 6) (.int .i64 (b.mn)) (by omega))
      clear R_12 D_12 U_12 V_12 B_12
      have R_14 := Lib.hid (CellsW.set R_13.out 7 (.int .i64 (b.mx)) (by simp))
      have D_14 := Lib.hid (Dr.setNew D_13.out (g := w.heap.size) (by omega) 7 (.int .i64 (b.mx)))
      have U_14 := Lib.hid (row_set U_13.out (g := w.heap.size) (j := 7) (u := .int .i64 (b.mx)) (by omega))
      have V_14 := Lib.hid (row_set V_13.out (g := w.heap.size) (j := 7) (u := .int .i64 (b.mx)) (by omega))
      have B_14 := Lib.hid (CellsW.off B_13.out (c := w.heap.size) (j := 7) (.int .i64 (b.mx)) (by omega))
      clear R_13 D_13 U_13 V_13 B_13
      exact bodyPost_ret (ret_bh rfl R_14.out rfl) rfl ⟨⟨⟨b.up.ps, u, b.up.win⟩, b.dn, b.mn, b.mx⟩, _, _, rfl, OwnL.mono U_14.out (by omega), OwnL.mono V_14.out (by omega), by first | omega | (simp; omega), by first | omega | (simp only; omega), by first | omega | (simp only; omega), by first | omega | (simp only; omega), D_14.out⟩
    · skip
      go_wp2_with fail
      refine (pick_new c [-1, 1000, 1001] 3 rfl _ wd58 D_4.out.cur rfl (by omega) (by omega) ((-1)) (1001) (by intro v hv; simp at hv; omega)).mono ?_
      rintro e wd659 ⟨u, u1, u2, rfl, hC, hT⟩
      have R_5 := Lib.hid (CellsW.touch R_4.out hT (by omega))
      have D_5 := Lib.hid (Dr.step D_4.out hC hT)
      have U_5 := Lib.hid (row_touch U_4.out (by omega) hT)
      have V_5 := Lib.hid (row_touch V_4.out (by omega) hT)
      have B_5 := Lib.hid (CellsW.touch B_4.out hT (by omega))
      clear R_4 D_4 U_4 V_4 B_4
      clear hC hT
      obtain ⟨ca5, fca5⟩ := B_5.out.2 5 (by simp)
      try simp only [List.getElem_cons_zero, List.getElem_cons_succ] at ca5
      have R_6 := Lib.hid (CellsW.off R_5.out (c := G) (j := 5) (.int .i64 u) (by omega))
      have D_6 := Lib.hid (Dr.setNew D_5.out (g := G) (by omega) 5 (.int .i64 u))
      have U_6 := Lib.hid (row_off U_5.out (g := G) (j := 5) (u := .int .i64 u) HUG.out)
      have V_6 := Lib.hid (row_off V_5.out (g := G) (j := 5) (u := .int .i64 u) HVG.out)
      have B_6 := Lib.hid (CellsW.set B_5.out 5 (.int .i64 u) (by simp))
      clear R_5 D_5 U_5 V_5 B_5
      go_upto_region 14 with fail
      clear ca5 fca5
      obtain ⟨wd660, hw⟩ : ∃ yy : World, wd659.setCell ⟨G, 5, none⟩ (.int .i64 u) = yy := ⟨_, rfl⟩
      rw [hw] at R_6 D_6 U_6 V_6 B_6 ⊢
      clear hw
      obtain ⟨cs0, fcs0⟩ := B_6.out.2 0 (by simp)
      obtain ⟨cs1, fcs1⟩ := B_6.out.2 1 (by simp)
      obtain ⟨cs2, fcs2⟩ := B_6.out.2 2 (by simp)
      obtain ⟨cs3, fcs3⟩ := B_6.out.2 3 (by simp)
      obtain ⟨cs4, fcs4⟩ := B_6.out.2 4 (by simp)
      obtain ⟨cs5, fcs5⟩ := B_6.out.2 5 (by simp)
      obtain ⟨cs6, fcs6⟩ := B_6.out.2 6 (by simp)
      obtain ⟨cs7, fcs7⟩ := B_6.out.2 7 (by simp)
      try simp only [List.getElem_cons_zero, List.getElem_cons_succ] at cs0 cs1 cs2 cs3 cs4 cs5 cs6 cs7
      obtain ⟨cr0, fcr0⟩ := R_6.out.2 0 (by simp)
      obtain ⟨cr1, fcr1⟩ := R_6.out.2 1 (by simp)
      obtain ⟨cr2, fcr2⟩ := R_6.out.2 2 (by simp)
      obtain ⟨cr3, fcr3⟩ := R_6.out.2 3 (by simp)
      obtain ⟨cr4, fcr4⟩ := R_6.out.2 4 (by simp)
      obtain ⟨cr5, fcr5⟩ := R_6.out.2 5 (by simp)
      obtain ⟨cr6, fcr6⟩ := R_6.out.2 6 (by simp)
      obtain ⟨cr7, fcr7⟩ := R_6.out.2 7 (by simp)
      try simp only [List.getElem_cons_zero, List.getElem_cons_succ] at cr0 cr1 cr2 cr3 cr4 cr5 cr6 cr7
      go_wp2
      have R_7 := Lib.hid (CellsW.set R_6.out 0 (.slice au b.up.ps.length cu) (by simp))
      have D_7 := Lib.hid (Dr.setNew D_6.out (g := w.heap.size) (by omega) 0 (.slice au b.up.ps.length cu))
      have U_7 := Lib.hid (row_set U_6.out (g := w.heap.size) (j := 0) (u := .slice au b.up.ps.length cu) (by omega))
      have V_7 := Lib.hid (row_set V_6.out (g := w.heap.size) (j := 0) (u := .slice au b.up.ps.length cu) (by omega))
      have B_7 := Lib.hid (CellsW.off B_6.out (c := w.heap.size) (j := 0) (.slice au b.up.ps.length cu) (by omega))
      clear R_6 D_6 U_6 V_6 B_6
      have R_8 := Lib.hid (CellsW.set R_7.out 1 (.int .i64 (b.up.sel)) (by simp))
      have D_8 := Lib.hid (Dr.setNew D_7.out (g := w.heap.size) (by omega) 1 (.int .i64 (b.up.sel)))
      have U_8 := Lib.hid (row_set U_7.out (g := w.heap.size) (j := 1) (u := .int .i64 (b.up.sel)) (by omega))
      have V_8 := Lib.hid (row_set V_7.out (g := w.heap.size) (j := 1) (u := .int .i64 (b.up.sel)) (by omega))
      have B_8 := Lib.hid (CellsW.off B_7.out (c := w.heap.size) (j := 1) (.int .i64 (b.up.sel)) (by omega))
      clear R_7 D_7 U_7 V_7 B_7
      have R_9 := Lib.hid (CellsW.set R_8.out 2 (.int .i64 (b.up.win)) (by simp))
      have D_9 := Lib.hid (Dr.setNew D_8.out (g := w.heap.size) (by omega) 2 (.int .i64 (b.up.win)))
      have U_9 := Lib.hid (row_set U_8.out (g := w.heap.size) (j := 2) (u := .int .i64 (b.up.win)) (by omega))
      have V_9 := Lib.hid (row_set V_8.out (g := w.heap.size) (j := 2) (u := .int .i64 (b.up.win)) (by omega))
      have B_9 := Lib.hid (CellsW.off B_8.out (c := w.heap.size) (j := 2) (.int .i64 (b.up.win)) (by omega))
      clear R_8 D_8 U_8 V_8 B_8
      have R_10 := Lib.hid (CellsW.set R_9.out 3 (.slice ad b.dn.ps.length cd) (by simp))
      have D_10 := Lib.hid (Dr.setNew D_9.out (g := w.heap.size) (by omega) 3 (.slice ad b.dn.ps.length cd))
      have U_10 := Lib.hid (row_set U_9.out (g := w.heap.size) (j := 3) (u := .slice ad b.dn.ps.length cd) (by omega))
      have V_10 := Lib.hid (row_set V_9.out (g := w.heap.size) (j := 3) (u := .slice ad b.dn.ps.length cd) (by omega))
      have B_10 := Lib.hid (CellsW.off B_9.out (c := w.heap.size) (j := 3) (.slice ad b.dn.ps.length cd) (by omega))
      clear R_9 D_9 U_9 V_9 B_9
      have R_11 := Lib.hid (CellsW.set R_10.out 4 (.int .i64 (b.dn.sel)) (by simp))
      have D_11 := Lib.hid (Dr.setNew D_10.out (g := w.heap.size) (by omega) 4 (.int .i64 (b.dn.sel)))
      have U_11 := Lib.hid (row_set U_10.out (g := w.heap.size) (j := 4) (u := .int .i64 (b.dn.sel)) (by omega))
      have V_11 := Lib.hid (row_set V_10.out (g := w.heap.size) (j := 4) (u := .int .i64 (b.dn.sel)) (by omega))
      have B_11 := Lib.hid (CellsW.off B_10.out (c := w.heap.size) (j := 4) (.int .i64 (b.dn.sel)) (by omega))
      clear R_10 D_10 U_10 V_10 B_10
      have R_12 := Lib.hid (CellsW.set R_11.out 5 (.int .i64 (u)) (by simp))
      have D_12 := Lib.hid (Dr.setNew D_11.out (g := w.heap.size) (by omega) 5 (.int .i64 (u)))
      have U_12 := Lib.hid (row_set U_11.out (g := w.heap.size) (j := 5) (u := .int .i64 (u)) (by omega))
      have V_12 := Lib.hid (row_set V_11.out (g := w.heap.size) (j := 5) (u := .int .i64 (u)) (by omega))
      have B_12 := Lib.hid (CellsW.off B_11.out (c := w.heap.size) (j := 5) (.int .i64 (u)) (by omega))
      clear R_11 D_11 U_11 V_11 B_11
      have R_13 := Lib.hid (CellsW.set R_12.out 6 (.int .i64 (b.mn)) (by simp))
      have D_13 := Lib.hid (Dr.setNew D_12.out (g := w.heap.size) (by omega) 6 (.int .i64 (b.mn)))
      have U_13 := Lib.hid (row_set U_12.out (g := w.heap.size) (j := 6) (u := .int .i64 (b.mn)) (by omega))
      have V_13 := Lib.hid (row_set V_12.out (g := w.heap.size) (j := 6) (u := .int .i64 (b.mn)) (by omega))
      have B_13 := Lib.hid (CellsW.off B_12.out (c := w.heap.size) (j := 6) (.int .i64 (b.mn)) (by omega))
      clear R_12 D_12 U_12 V_12 B_12
      have R_14 := Lib.hid (CellsW.set R_13.out 7 (.int .i64 (b.mx)) (by simp))
      have D_14 := Lib.hid (Dr.setNew D_13.out (g := w.heap.size) (by omega) 7 (.int .i64 (b.mx)))
      have U_14 := Lib.hid (row_set U_13.out (g := w.heap.size) (j := 7) (u := .int .i64 (b.mx)) (by omega))
      have V_14 := Lib.hid (row_set V_13.out (g := w.heap.size) (j := 7) (u := .int .i64 (b.mx)) (by omega))
      have B_14 := Lib.hid (CellsW.off B_13.out (c := w.heap.size) (j := 7) (.int .i64 (b.mx)) (by omega))
      clear R_13 D_13 U_13 V_13 B_13
      exact bodyPost_ret (ret_bh rfl R_14.out rfl) rfl ⟨⟨b.up, ⟨b.dn.ps, b.dn.sel, u⟩, b.mn, b.mx⟩, _, _, rfl, OwnL.mono U_14.out (by omega), OwnL.mono V_14.out (by omega), by first | omega | (simp; omega), by first | omega | (simp only; omega), by first | omega | (simp only; omega), by first | omega | (simp only; omega), D_14.out⟩
    · skip
      obtain ⟨cs0, fcs0⟩ := B_4.out.2 0 (by simp)
      try simp only [List.getElem_cons_zero] at cs0
      have hgz := D_4.out.size
      have hGz := B_4.out.1
      go_wp2_with (at_builtin; refine wpList_append_own _ rfl _ _ 24 rfl (w.heap.size + 1) 106 i0 (plV zeroL) 3 24 Try.underlying24 hi hz0 hz1 hz2 rfl (by decide) _ _ _ rfl (row_alloc U_4.out _) ⟨wd58.heap.size, 0, none⟩ 1 1 [.int .i64 2, .int .i64 1, .int .i64 1] rfl rfl ?c1 ?c2 ?c3 ?c4 ?c5 ?_)
      case c1 => exact pl_cells _ (⟨2, 1, 1⟩ : Pl) _
      case c2 => first | rfl | exact pl_one (⟨2, 1, 1⟩ : Pl)
      case c3 => unfold maxLen; omega
      case c4 => omega
      case c5 => first | omega | (simp; omega)
      · intro v' w9 hown' hgrow _
        have hrow : ∀ g, Value.ownBlock _ = some g → w.heap.size + 1 ≤ g := fun g hg => (World.ownsRow.lt U_4.out g hg).1
        have U_99 := Lib.hid (pl_snoc (p := (⟨2, 1, 1⟩ : Pl)) hown')
        have D_99 := Lib.hid (Dr.grown (Dr.alloc D_4.out (.cells #[.int .i64 2, .int .i64 1, .int .i64 1] 106)) hgrow (fun g hg => by have := hrow g hg; omega))
        have R_99 := Lib.hid (CellsW.grown (CellsW.al R_4.out (.cells #[.int .i64 2, .int .i64 1, .int .i64 1] 106)) hgrow (by intro e; have := hrow _ e.symm; omega))
        have B_99 := Lib.hid (CellsW.grown (CellsW.al B_4.out (.cells #[.int .i64 2, .int .i64 1, .int .i64 1] 106)) hgrow (by intro e; exact HUG.out _ e.symm rfl))
        have V_99 := Lib.hid (row_grown (row_alloc V_4.out (.cells #[.int .i64 2, .int .i64 1, .int .i64 1] 106)) hgrow (fun g hg e => by have h1 := HVM.out _ e.symm; have h2 := (World.ownsRow.lt V_4.out g hg).1; omega))
        clear hown' hgrow hrow R_4 D_4 U_4 V_4 B_4
        clear cs0 fcs0
        obtain ⟨av, cv, rfl, -⟩ := pl_form U_99.out
        obtain ⟨nl, hnl⟩ : ∃ n, (b.up.ps ++ [(⟨2, 1, 1⟩ : Pl)]).length = n := ⟨_, rfl⟩
        rw [hnl] at U_99 ⊢
        have HN := Lib.hid hnl
        clear hnl
        obtain ⟨ct0, fct0⟩ := B_99.out.2 0 (by simp)
        try simp only [List.getElem_cons_zero] at ct0
        have HUG := Lib.hid (own_ne U_99.out (by simp) ct0)
        have R_100 := Lib.hid (CellsW.off R_99.out (c := G) (j := 0) (.slice av nl cv) (by omega))
        have B_100 := Lib.hid (CellsW.set B_99.out 0 (.slice av nl cv) (by simp))
        have U_100 := Lib.hid (row_off U_99.out (g := G) (j := 0) (u := .slice av nl cv) HUG.out)
        have V_100 := Lib.hid (row_off V_99.out (g := G) (j := 0) (u := .slice av nl cv) HVG.out)
        have D_100 := Lib.hid (Dr.setNew D_99.out (g := G) (by omega) 0 (.slice av nl cv))
        clear R_99 B_99 U_99 V_99 D_99
        go_upto_region 14 with fail
        clear ct0 fct0
        obtain ⟨wd2059, hw⟩ : ∃ yy : World, w9.setCell ⟨G, 0, none⟩ (.slice av nl cv) = yy := ⟨_, rfl⟩
        rw [hw] at R_100 B_100 U_100 V_100 D_100 ⊢
        clear hw
        obtain ⟨cs0, fcs0⟩ := B_100.out.2 0 (by simp)
        obtain ⟨cs1, fcs1⟩ := B_100.out.2 1 (by simp)
        obtain ⟨cs2, fcs2⟩ := B_100.out.2 2 (by simp)
        obtain ⟨cs3, fcs3⟩ := B_100.out.2 3 (by simp)
        obtain ⟨cs4, fcs4⟩ := B_100.out.2 4 (by simp)
        obtain ⟨cs5, fcs5⟩ := B_100.out.2 5 (by simp)
        obtain ⟨cs6, fcs6⟩ := B_100.out.2 6 (by simp)
        obtain ⟨cs7, fcs7⟩ := B_100.out.2 7 (by simp)
        try simp only [List.getElem_cons_zero, List.getElem_cons_succ] at cs0 cs1 cs2 cs3 cs4 cs5 cs6 cs7
        obtain ⟨cr0, fcr0⟩ := R_100.out.2 0 (by simp)
        obtain ⟨cr1, fcr1⟩ := R_100.out.2 1 (by simp)
        obtain ⟨cr2, fcr2⟩ := R_100.out.2 2 (by simp)
        obtain ⟨cr3, fcr3⟩ := R_100.out.2 3 (by simp)
        obtain ⟨cr4, fcr4⟩ := R_100.out.2 4 (by simp)
        obtain ⟨cr5, fcr5⟩ := R_100.out.2 5 (by simp)
        obtain ⟨cr6, fcr6⟩ := R_100.out.2 6 (by simp)
        obtain ⟨cr7, fcr7⟩ := R_100.out.2 7 (by simp)
        try simp only [List.getElem_cons_zero, List.getElem_cons_succ] at cr0 cr1 cr2 cr3 cr4 cr5 cr6 cr7
        go_wp2
        have R_101 := Lib.hid (CellsW.set R_100.out 0 (.slice av nl cv) (by simp))
        have B_101 := Lib.hid (CellsW.off B_100.out (c := w.heap.size) (j := 0) (.slice av nl cv) (by omega))
        have U_101 := Lib.hid (row_set U_100.out (g := w.heap.size) (j := 0) (u := .slice av nl cv) (by omega))
        have V_101 := Lib.hid (row_set V_100.out (g := w.heap.size) (j := 0) (u := .slice av nl cv) (by omega))
        have D_101 := Lib.hid (Dr.setNew D_100.out (g := w.heap.size) (by omega) 0 (.slice av nl cv))
        clear R_100 B_100 U_100 V_100 D_100
        have R_102 := Lib.hid (CellsW.set R_101.out 1 (.int .i64 (b.up.sel)) (by simp))
        have B_102 := Lib.hid (CellsW.off B_101.out (c := w.heap.size) (j := 1) (.int .i64 (b.up.sel)) (by omega))
        have U_102 := Lib.hid (row_set U_101.out (g := w.heap.size) (j := 1) (u := .int .i64 (b.up.sel)) (by omega))
        have V_102 := Lib.hid (row_set V_101.out (g := w.heap.size) (j := 1) (u := .int .i64 (b.up.sel)) (by omega))
        have D_102 := Lib.hid (Dr.setNew D_101.out (g := w.heap.size) (by omega) 1 (.int .i64 (b.up.sel)))
        clear R_101 B_101 U_101 V_101 D_101
        have R_103 := Lib.hid (CellsW.set R_102.out 2 (.int .i64 (b.up.win)) (by simp))
        have B_103 := Lib.hid (CellsW.off B_102.out (c := w.heap.size) (j := 2) (.int .i64 (b.up.win)) (by omega))
        have U_103 := Lib.hid (row_set U_102.out (g := w.heap.size) (j := 2) (u := .int .i64 (b.up.win)) (by omega))
        have V_103 := Lib.hid (row_set V_102.out (g := w.heap.size) (j := 2) (u := .int .i64 (b.up.win)) (by omega))
        have D_103 := Lib.hid (Dr.setNew D_102.out (g := w.heap.size) (by omega) 2 (.int .i64 (b.up.win)))
        clear R_102 B_102 U_102 V_102 D_102
        have R_104 := Lib.hid (CellsW.set R_103.out 3 (.slice ad b.dn.ps.length cd) (by simp))
        have B_104 := Lib.hid (CellsW.off B_103.out (c := w.heap.size) (j := 3) (.slice ad b.dn.ps.length cd) (by omega))
        have U_104 := Lib.hid (row_set U_103.out (g := w.heap.size) (j := 3) (u := .slice ad b.dn.ps.length cd) (by omega))
        have V_104 := Lib.hid (row_set V_103.out (g := w.heap.size) (j := 3) (u := .slice ad b.dn.ps.length cd) (by omega))
        have D_104 := Lib.hid (Dr.setNew D_103.out (g := w.heap.size) (by omega) 3 (.slice ad b.dn.ps.length cd))
        clear R_103 B_103 U_103 V_103 D_103
        have R_105 := Lib.hid (CellsW.set R_104.out 4 (.int .i64 (b.dn.sel)) (by simp))
        have B_105 := Lib.hid (CellsW.off B_104.out (c := w.heap.size) (j := 4) (.int .i64 (b.dn.sel)) (by omega))
        have U_105 := Lib.hid (row_set U_104.out (g := w.heap.size) (j := 4) (u := .int .i64 (b.dn.sel)) (by omega))
        have V_105 := Lib.hid (row_set V_104.out (g := w.heap.size) (j := 4) (u := .int .i64 (b.dn.sel)) (by omega))
        have D_105 := Lib.hid (Dr.setNew D_104.out (g := w.heap.size) (by omega) 4 (.int .i64 (b.dn.sel)))
        clear R_104 B_104 U_104 V_104 D_104
        have R_106 := Lib.hid (CellsW.set R_105.out 5 (.int .i64 (b.dn.win)) (by simp))
        have B_106 := Lib.hid (CellsW.off B_105.out (c := w.heap.size) (j := 5) (.int .i64 (b.dn.win)) (by omega))
        have U_106 := Lib.hid (row_set U_105.out (g := w.heap.size) (j := 5) (u := .int .i64 (b.dn.win)) (by omega))
        have V_106 := Lib.hid (row_set V_105.out (g := w.heap.size) (j := 5) (u := .int .i64 (b.dn.win)) (by omega))
        have D_106 := Lib.hid (Dr.setNew D_105.out (g := w.heap.size) (by omega) 5 (.int .i64 (b.dn.win)))
        clear R_105 B_105 U_105 V_105 D_105
        have R_107 := Lib.hid (CellsW.set R_106.out 6 (.int .i64 (b.mn)) (by simp))
        have B_107 := Lib.hid (CellsW.off B_106.out (c := w.heap.size) (j := 6) (.int .i64 (b.mn)) (by omega))
        have U_107 := Lib.hid (row_set U_106.out (g := w.heap.size) (j := 6) (u := .int .i64 (b.mn)) (by omega))
        have V_107 := Lib.hid (row_set V_106.out (g := w.heap.size) (j := 6) (u := .int .i64 (b.mn)) (by omega))
        have D_107 := Lib.hid (Dr.setNew D_106.out (g := w.heap.size) (by omega) 6 (.int .i64 (b.mn)))
        clear R_106 B_106 U_106 V_106 D_106
        have R_108 := Lib.hid (CellsW.set R_107.out 7 (.int .i64 (b.mx)) (by simp))
        have B_108 := Lib.hid (CellsW.off B_107.out (c := w.heap.size) (j := 7) (.int .i64 (b.mx)) (by omega))
        have U_108 := Lib.hid (row_set U_107.out (g := w.heap.size) (j := 7) (u := .int .i64 (b.mx)) (by omega))
        have V_108 := Lib.hid (row_set V_107.out (g := w.heap.size) (j := 7) (u := .int .i64 (b.mx)) (by omega))
        have D_108 := Lib.hid (Dr.setNew D_107.out (g := w.heap.size) (by omega) 7 (.int .i64 (b.mx)))
        clear R_107 B_107 U_107 V_107 D_107
        exact bodyPost_ret (ret_bh rfl R_108.out rfl) rfl ⟨⟨⟨b.up.ps ++ [(⟨2, 1, 1⟩ : Pl)], b.up.sel, b.up.win⟩, b.dn, b.mn, b.mx⟩, _, _, rfl, OwnL.mono U_108.out (by omega), OwnL.mono V_108.out (by omega), by first | omega | (simp; omega), by first | omega | (simp only; omega), by first | omega | (simp only; omega), by first | omega | (simp only; omega), D_108.out⟩
end Go.Proofs.Ytcjjdnfikccnmaa.Draw6
