/- The draws of chapter 6: notes, moves, ticks, counts; DrawSteady, DrawDecide. -/
import Derived.Test.YtcjjdnfikccnmaaDraw6
namespace Go.Proofs.Ytcjjdnfikccnmaa.Draw6N
open Go.RowKit Go.Deep
open Go.Proofs.Ytcjjdnfikccnmaa.C1 Go.Proofs.Ytcjjdnfikccnmaa.Ints Go.Proofs.Ytcjjdnfikccnmaa.Draw
open Go.Proofs.Ytcjjdnfikccnmaa.Mem (CellsW)
open Go.Proofs.Ytcjjdnfikccnmaa.Smps
open Go.Proofs.Ytcjjdnfikccnmaa.Ser (Pt ptV gf encP gf_append)
open Go.Proofs.Ytcjjdnfikccnmaa.Ser2 (encP_len zeroP cells_new)
open Go.Proofs.Ytcjjdnfikccnmaa.Pl
open Go.Proofs.Ytcjjdnfikccnmaa.Drw
open Go.Proofs.Ytcjjdnfikccnmaa.Draw6
set_option linter.unusedVariables false

theorem draw_now (c : Nat) (w : World) (hC : Cur w c) :
    Calls Try.prog 45 #[.pointer (some ⟨c, 0, none⟩)] w (Num c w (-1) 1000000000) := by
  have hcl := hC.lt
  have D_0 := Lib.hid (Dr.start hC)
  clear hC
  go_enter Try.func45, Try.ntmps45
  go_wp2_with fail
  refine (below_n c _ (by omega) (by omega) _ D_0.out.cur).mono ?_
  rintro e wd1 ⟨x, x1, x2, rfl, hC, hT⟩
  have D_1 := Lib.hid (Dr.step D_0.out hC hT)
  clear D_0
  clear hC hT
  go_wp2_with fail
  refine (below_n c _ (by omega) (by omega) _ D_1.out.cur).mono ?_
  rintro e wd2 ⟨y, y1, y2, rfl, hC, hT⟩
  have D_2 := Lib.hid (Dr.step D_1.out hC hT)
  clear D_1
  clear hC hT
  go_wp2_with fail
  refine (pick_new c [x, y, 30, -1, 1000000000] 5 rfl _ wd2 D_2.out.cur rfl (by omega) (by omega) ((-1)) (1000000000) (by intro v hv; simp at hv; omega)).mono ?_
  rintro e wd3 ⟨u, u1, u2, rfl, hC, hT⟩
  have D_3 := Lib.hid (Dr.step D_2.out hC hT)
  clear D_2
  clear hC hT
  go_wp2
  go_ret
  exact ⟨u, u1, u2, rfl, D_3.out.cur, D_3.out.tou⟩
theorem draw_count (c : Nat) (w : World) (hC : Cur w c) :
    Calls Try.prog 46 #[.pointer (some ⟨c, 0, none⟩)] w (Num c w (-1) 1001) := by
  have hcl := hC.lt
  have D_0 := Lib.hid (Dr.start hC)
  clear hC
  go_enter Try.func46, Try.ntmps46
  go_wp2_with fail
  refine (below_n c _ (by omega) (by omega) _ D_0.out.cur).mono ?_
  rintro e wd1 ⟨x, x1, x2, rfl, hC, hT⟩
  have D_1 := Lib.hid (Dr.step D_0.out hC hT)
  clear D_0
  clear hC hT
  go_wp2_with fail
  refine (below_n c _ (by omega) (by omega) _ D_1.out.cur).mono ?_
  rintro e wd2 ⟨y, y1, y2, rfl, hC, hT⟩
  have D_2 := Lib.hid (Dr.step D_1.out hC hT)
  clear D_1
  clear hC hT
  go_wp2_with fail
  refine (below_n c _ (by omega) (by omega) _ D_2.out.cur).mono ?_
  rintro e wd3 ⟨z, z1, z2, rfl, hC, hT⟩
  have D_3 := Lib.hid (Dr.step D_2.out hC hT)
  clear D_2
  clear hC hT
  go_wp2_with fail
  refine (pick_new c [x, y, z, 0, 1000, 1001, -1] 7 rfl _ wd3 D_3.out.cur rfl (by omega) (by omega) ((-1)) (1001) (by intro v hv; simp at hv; omega)).mono ?_
  rintro e wd4 ⟨u, u1, u2, rfl, hC, hT⟩
  have D_4 := Lib.hid (Dr.step D_3.out hC hT)
  clear D_3
  clear hC hT
  go_wp2
  go_ret
  exact ⟨u, u1, u2, rfl, D_4.out.cur, D_4.out.tou⟩
def sliceLen (v : Value) : Nat := match v with
  | .slice _ n _ => n
  | _ => 0

/-- What a draw of nts hands back: a row of the draw's own. -/
def NtD (c : Nat) (w : World) (e : Ending) (w' : World) : Prop := ∃ (ps : List Pt) (v : Value), e = .returned v ∧ Nt.OwnP w' w.heap.size v ps ∧ ps.length ≤ 301 ∧ Dr c w w'
set_option maxRecDepth 100000 in
set_option maxHeartbeats 8000000 in
theorem draw_notes (c : Nat) (w : World) (hC : Cur w c) :
    Calls Try.prog 44 #[.pointer (some ⟨c, 0, none⟩)] w (NtD c w) := by
  have hcl := hC.lt
  obtain ⟨i0, hi, hz0, hz1, hz2⟩ := info_nt2
  have O_0 := Lib.hid (nt_new w)
  have D_0 := Lib.hid ((Dr.start hC).alloc (.cells #[] 93))
  have HB0 := Lib.hid (show w.heap.size ≤ (w.alloc (.cells #[] 93)).heap.size by simp)
  obtain ⟨B, hB⟩ : ∃ B, w.heap.size = B := ⟨_, rfl⟩
  obtain ⟨W0, hW0⟩ : ∃ W0, w.alloc (.cells #[] 93) = W0 := ⟨_, rfl⟩
  rw [hW0] at O_0 D_0 HB0
  rw [hB] at O_0 hcl HB0
  have HW0 := Lib.hid hW0
  have HB := Lib.hid hB
  clear hC hW0 hB
  go_enter Try.func44, Try.ntmps44
  go_wp2_with fail
  rw [HW0.out]
  refine (below_n c _ (by omega) (by omega) _ D_0.out.cur).mono ?_
  rintro e wd1 ⟨k0, k01, k02, rfl, hC, hT⟩
  have O_1 := Lib.hid (row_touch O_0.out (by omega) hT)
  have D_1 := Lib.hid (Dr.step D_0.out hC hT)
  clear O_0 D_0
  clear hC hT
  rw [HB.out]
  go_wp2_with fail
  go_loopw [3, 4, 5] (fun o t i wr => ∃ (q : Nat) (ps : List Pt) (x : Int), i = .int .i64 q ∧ t = .int .i64 x ∧ 0 ≤ x ∧ x + 10 * q ≤ 1000 ∧ q + ps.length ≤ 9 ∧ Hid (Nt.OwnP wr B o ps) ∧ Hid (Dr c w wr)) (fun _ _ i _ => (intOf i).toNat)
  case atStart => exact ⟨k0.toNat, [], 0, int_eq (by omega), rfl, by omega, by omega, by simp; omega, O_1.out, D_1.out⟩
  case round =>
    clear O_1 D_1
    obtain ⟨q, ps, t, rfl, rfl, ht0, ht1, hq, O_9, D_9⟩ := hrel
    by_cases hq0 : 0 < q
    · skip
      go_wp2_with fail
      refine (below_n c _ (by omega) (by omega) _ D_9.out.cur).mono ?_
      rintro e wd2 ⟨x, x1, x2, rfl, hC, hT⟩
      have O_10 := Lib.hid (row_touch O_9.out (by omega) hT)
      have D_10 := Lib.hid (Dr.step D_9.out hC hT)
      clear O_9 D_9
      clear hC hT
      go_wp2_with fail
      refine (below_n c _ (by omega) (by omega) _ D_10.out.cur).mono ?_
      rintro e wd3 ⟨y, y1, y2, rfl, hC, hT⟩
      have O_11 := Lib.hid (row_touch O_10.out (by omega) hT)
      have D_11 := Lib.hid (Dr.step D_10.out hC hT)
      clear O_10 D_10
      clear hC hT
      have hgz := D_11.out.size
      rw [HB.out] at hgz
      go_wp2_with (at_builtin; refine wpList_append_own _ rfl _ _ 29 rfl B 93 i0 (ptV zeroP) 2 16 Try.underlying29 hi hz0 hz1 hz2 rfl (by decide) _ _ _ rfl (row_alloc O_11.out _) ⟨wd3.heap.size, 0, none⟩ 1 1 [.int .i64 (t + x), .int .i64 (y)] rfl rfl ?c1 ?c2 ?c3 ?c4 ?c5 ?_)
      case c1 => exact pt_cells _ (⟨t + x, y⟩ : Pt) _
      case c2 => first | rfl | exact pt_one (⟨t + x, y⟩ : Pt)
      case c3 => unfold maxLen; omega
      case c4 => omega
      case c5 => first | omega | (simp; omega)
      · intro v' w9 hown' hgrow _
        have hrow : ∀ g, Value.ownBlock _ = some g → B ≤ g := fun g hg => (World.ownsRow.lt O_11.out g hg).1
        have O_99 := Lib.hid (nt_snoc (p := (⟨t + x, y⟩ : Pt)) hown')
        have D_99 := Lib.hid (Dr.grown (Dr.alloc D_11.out (.cells #[.int .i64 (t + x), .int .i64 (y)] 93)) hgrow (fun g hg => by have := hrow g hg; rw [HB.out]; exact this))
        clear hown' hgrow hrow O_11 D_11
        go_wp2
        go_roundw
        case rel => exact ⟨q - 1, ps ++ [(⟨t + x, y⟩ : Pt)], t + x, int_eq (by omega), int_eq (by omega), by omega, by omega, by simp; omega, O_99, D_99⟩
        case measure => simp [intOf]; omega
    · obtain rfl : q = 0 := by omega
      obtain ⟨a, cap, rfl, -⟩ := nt_form O_9.out
      clear ht0 ht1
      go_wp2_with fail
      refine (once c _ (by omega) (by omega) _ D_9.out.cur).mono ?_
      rintro e wd32 ⟨o, rfl, hC, hT⟩
      have O_10 := Lib.hid (row_touch O_9.out (by omega) hT)
      have D_10 := Lib.hid (Dr.step D_9.out hC hT)
      clear O_9 D_9
      clear hC hT
      cases o
      · skip
        go_wp2_with fail
        refine (once c _ (by omega) (by omega) _ D_10.out.cur).mono ?_
        rintro e wd33 ⟨o2, rfl, hC, hT⟩
        have O_11 := Lib.hid (row_touch O_10.out (by omega) hT)
        have D_11 := Lib.hid (Dr.step D_10.out hC hT)
        clear O_10 D_10
        clear hC hT
        cases o2
        · go_wp2
          go_ret
          exact ⟨_, _, rfl, by rw [HB.out]; exact O_11.out, by omega, D_11.out⟩
        · skip
          go_wp2
          go_loopw [3] (fun o wr => ∃ (ps : List Pt), ps.length ≤ 201 ∧ Hid (Nt.OwnP wr B o ps) ∧ Hid (Dr c w wr)) (fun o _ => 201 - sliceLen o)
          case atStart => exact ⟨_, by omega, O_11.out, D_11.out⟩
          case round =>
            clear O_11 D_11
            obtain ⟨qs, hql, O_9, D_9⟩ := hrel
            obtain ⟨a3, cap3, rfl, -⟩ := nt_form O_9.out
            go_wp2_with fail
            refine (below_n c _ (by omega) (by omega) _ D_9.out.cur).mono ?_
            rintro e wd41 ⟨z, z1, z2, rfl, hC, hT⟩
            have O_10 := Lib.hid (row_touch O_9.out (by omega) hT)
            have D_10 := Lib.hid (Dr.step D_9.out hC hT)
            clear O_9 D_9
            clear hC hT
            by_cases hz : (qs.length : Int) < 200 + z
            · skip
              have hgz := D_10.out.size
              rw [HB.out] at hgz
              go_wp2_with (at_builtin; refine wpList_append_own _ rfl _ _ 29 rfl B 93 i0 (ptV zeroP) 2 16 Try.underlying29 hi hz0 hz1 hz2 rfl (by decide) _ _ _ rfl (row_alloc O_10.out _) ⟨wd41.heap.size, 0, none⟩ 1 1 [.int .i64 (90), .int .i64 (3)] rfl rfl ?c1 ?c2 ?c3 ?c4 ?c5 ?_)
              case c1 => exact pt_cells _ (⟨90, 3⟩ : Pt) _
              case c2 => first | rfl | exact pt_one (⟨90, 3⟩ : Pt)
              case c3 => unfold maxLen; omega
              case c4 => omega
              case c5 => first | omega | (simp; omega)
              · intro v' w9 hown' hgrow _
                have hrow : ∀ g, Value.ownBlock _ = some g → B ≤ g := fun g hg => (World.ownsRow.lt O_10.out g hg).1
                have O_99 := Lib.hid (nt_snoc (p := (⟨90, 3⟩ : Pt)) hown')
                have D_99 := Lib.hid (Dr.grown (Dr.alloc D_10.out (.cells #[.int .i64 (90), .int .i64 (3)] 93)) hgrow (fun g hg => by have := hrow g hg; rw [HB.out]; exact this))
                clear hown' hgrow hrow O_10 D_10
                obtain ⟨a8, c8, rfl, -⟩ := nt_form O_99.out
                go_wp2
                go_roundw
                case rel => exact ⟨qs ++ [(⟨90, 3⟩ : Pt)], by simp; omega, O_99, D_99⟩
                case measure => simp [sliceLen]; omega
            · go_wp2
              go_ret
              exact ⟨_, _, rfl, by rw [HB.out]; exact O_10.out, by omega, D_10.out⟩
      · skip
        by_cases hp : 0 < ps.length
        · skip
          go_wp2_with fail
          refine (below_k c _ hp (by omega) _ D_10.out.cur).mono ?_
          rintro e wd73 ⟨j, hj, rfl, hC, hT⟩
          have O_11 := Lib.hid (row_touch O_10.out (by omega) hT)
          have D_11 := Lib.hid (Dr.step D_10.out hC hT)
          clear O_10 D_10
          clear hC hT
          go_wp2_with fail
          refine (pick_new c [-1, 999, 0] 3 rfl _ wd73 D_11.out.cur rfl (by omega) (by omega) ((-1)) (999) (by intro v hv; simp at hv; omega)).mono ?_
          rintro e wd74 ⟨u, u1, u2, rfl, hC, hT⟩
          have O_12 := Lib.hid (row_touch O_11.out (by omega) hT)
          have D_12 := Lib.hid (Dr.step D_11.out hC hT)
          clear O_11 D_11
          clear hC hT
          go_wp2_with fail
          refine (pick_new c [-1, 5, 1001] 3 rfl _ wd74 D_12.out.cur rfl (by omega) (by omega) ((-1)) (1001) (by intro v hv; simp at hv; omega)).mono ?_
          rintro e wd75 ⟨v, v1, v2, rfl, hC, hT⟩
          have O_13 := Lib.hid (row_touch O_12.out (by omega) hT)
          have D_13 := Lib.hid (Dr.step D_12.out hC hT)
          clear O_12 D_12
          clear hC hT
          obtain ⟨g, rfl⟩ : ∃ g, a = some ⟨g, 0, none⟩ := by
            rcases O_13.out.2 with ⟨hv, h0⟩ | ⟨g, cap9, cur9, hv, _⟩
            · omega
            · cases hv; exact ⟨g, rfl⟩
          have hgB := (World.ownsRow.lt O_13.out g rfl).1
          obtain ⟨x0, x1⟩ := Nt.OwnP.at2 (h := O_13.out) j hj
          have f0 := Nt.OwnP.frozen O_13.out (j * 2)
          have f1 := Nt.OwnP.frozen O_13.out (j * 2 + 1)
          have O_77 := Lib.hid (Nt.OwnP.put O_13.out j hj ⟨u, v⟩)
          have D_77 := Lib.hid (Dr.setNew (g := g) (Dr.setNew (g := g) D_13.out (by rw [HB.out]; exact hgB) (j * 2) (.int .i64 u)) (by rw [HB.out]; exact hgB) (j * 2 + 1) (.int .i64 v))
          have HPL : Hid ((ps.set j ⟨u, v⟩).length ≤ 9) := by show _ ≤ _; rw [List.length_set]; omega
          clear O_13 D_13
          go_upto_region 10 with fail
          clear x0 x1 f0 f1
          obtain ⟨wd76, hw⟩ : ∃ yy : World, (wd75.setCell ⟨g, j * 2, none⟩ (.int .i64 u)).setCell ⟨g, j * 2 + 1, none⟩ (.int .i64 v) = yy := ⟨_, rfl⟩
          rw [hw] at O_77 D_77 ⊢
          clear hw
          have hpl := HPL.out
          go_wp2_with fail
          refine (once c _ (by omega) (by omega) _ D_77.out.cur).mono ?_
          rintro e wd77 ⟨o2, rfl, hC, hT⟩
          have O_78 := Lib.hid (row_touch O_77.out (by omega) hT)
          have D_78 := Lib.hid (Dr.step D_77.out hC hT)
          clear O_77 D_77
          clear hC hT
          cases o2
          · go_wp2
            go_ret
            exact ⟨_, _, rfl, by rw [HB.out]; exact O_78.out, by omega, D_78.out⟩
          · skip
            go_wp2
            go_loopw [3] (fun o wr => ∃ (ps : List Pt), ps.length ≤ 201 ∧ Hid (Nt.OwnP wr B o ps) ∧ Hid (Dr c w wr)) (fun o _ => 201 - sliceLen o)
            case atStart => exact ⟨_, by omega, O_78.out, D_78.out⟩
            case round =>
              clear O_78 D_78
              obtain ⟨qs, hql, O_9, D_9⟩ := hrel
              obtain ⟨a3, cap3, rfl, -⟩ := nt_form O_9.out
              go_wp2_with fail
              refine (below_n c _ (by omega) (by omega) _ D_9.out.cur).mono ?_
              rintro e wd85 ⟨z, z1, z2, rfl, hC, hT⟩
              have O_10 := Lib.hid (row_touch O_9.out (by omega) hT)
              have D_10 := Lib.hid (Dr.step D_9.out hC hT)
              clear O_9 D_9
              clear hC hT
              by_cases hz : (qs.length : Int) < 200 + z
              · skip
                have hgz := D_10.out.size
                rw [HB.out] at hgz
                go_wp2_with (at_builtin; refine wpList_append_own _ rfl _ _ 29 rfl B 93 i0 (ptV zeroP) 2 16 Try.underlying29 hi hz0 hz1 hz2 rfl (by decide) _ _ _ rfl (row_alloc O_10.out _) ⟨wd85.heap.size, 0, none⟩ 1 1 [.int .i64 (90), .int .i64 (3)] rfl rfl ?c1 ?c2 ?c3 ?c4 ?c5 ?_)
                case c1 => exact pt_cells _ (⟨90, 3⟩ : Pt) _
                case c2 => first | rfl | exact pt_one (⟨90, 3⟩ : Pt)
                case c3 => unfold maxLen; omega
                case c4 => omega
                case c5 => first | omega | (simp; omega)
                · intro v' w9 hown' hgrow _
                  have hrow : ∀ g, Value.ownBlock _ = some g → B ≤ g := fun g hg => (World.ownsRow.lt O_10.out g hg).1
                  have O_99 := Lib.hid (nt_snoc (p := (⟨90, 3⟩ : Pt)) hown')
                  have D_99 := Lib.hid (Dr.grown (Dr.alloc D_10.out (.cells #[.int .i64 (90), .int .i64 (3)] 93)) hgrow (fun g hg => by have := hrow g hg; rw [HB.out]; exact this))
                  clear hown' hgrow hrow O_10 D_10
                  obtain ⟨a8, c8, rfl, -⟩ := nt_form O_99.out
                  go_wp2
                  go_roundw
                  case rel => exact ⟨qs ++ [(⟨90, 3⟩ : Pt)], by simp; omega, O_99, D_99⟩
                  case measure => simp [sliceLen]; omega
              · go_wp2
                go_ret
                exact ⟨_, _, rfl, by rw [HB.out]; exact O_10.out, by omega, D_10.out⟩
        · skip
          go_wp2_with fail
          refine (once c _ (by omega) (by omega) _ D_10.out.cur).mono ?_
          rintro e wd133 ⟨o2, rfl, hC, hT⟩
          have O_11 := Lib.hid (row_touch O_10.out (by omega) hT)
          have D_11 := Lib.hid (Dr.step D_10.out hC hT)
          clear O_10 D_10
          clear hC hT
          cases o2
          · go_wp2
            go_ret
            exact ⟨_, _, rfl, by rw [HB.out]; exact O_11.out, by omega, D_11.out⟩
          · skip
            go_wp2
            go_loopw [3] (fun o wr => ∃ (ps : List Pt), ps.length ≤ 201 ∧ Hid (Nt.OwnP wr B o ps) ∧ Hid (Dr c w wr)) (fun o _ => 201 - sliceLen o)
            case atStart => exact ⟨_, by omega, O_11.out, D_11.out⟩
            case round =>
              clear O_11 D_11
              obtain ⟨qs, hql, O_9, D_9⟩ := hrel
              obtain ⟨a3, cap3, rfl, -⟩ := nt_form O_9.out
              go_wp2_with fail
              refine (below_n c _ (by omega) (by omega) _ D_9.out.cur).mono ?_
              rintro e wd141 ⟨z, z1, z2, rfl, hC, hT⟩
              have O_10 := Lib.hid (row_touch O_9.out (by omega) hT)
              have D_10 := Lib.hid (Dr.step D_9.out hC hT)
              clear O_9 D_9
              clear hC hT
              by_cases hz : (qs.length : Int) < 200 + z
              · skip
                have hgz := D_10.out.size
                rw [HB.out] at hgz
                go_wp2_with (at_builtin; refine wpList_append_own _ rfl _ _ 29 rfl B 93 i0 (ptV zeroP) 2 16 Try.underlying29 hi hz0 hz1 hz2 rfl (by decide) _ _ _ rfl (row_alloc O_10.out _) ⟨wd141.heap.size, 0, none⟩ 1 1 [.int .i64 (90), .int .i64 (3)] rfl rfl ?c1 ?c2 ?c3 ?c4 ?c5 ?_)
                case c1 => exact pt_cells _ (⟨90, 3⟩ : Pt) _
                case c2 => first | rfl | exact pt_one (⟨90, 3⟩ : Pt)
                case c3 => unfold maxLen; omega
                case c4 => omega
                case c5 => first | omega | (simp; omega)
                · intro v' w9 hown' hgrow _
                  have hrow : ∀ g, Value.ownBlock _ = some g → B ≤ g := fun g hg => (World.ownsRow.lt O_10.out g hg).1
                  have O_99 := Lib.hid (nt_snoc (p := (⟨90, 3⟩ : Pt)) hown')
                  have D_99 := Lib.hid (Dr.grown (Dr.alloc D_10.out (.cells #[.int .i64 (90), .int .i64 (3)] 93)) hgrow (fun g hg => by have := hrow g hg; rw [HB.out]; exact this))
                  clear hown' hgrow hrow O_10 D_10
                  obtain ⟨a8, c8, rfl, -⟩ := nt_form O_99.out
                  go_wp2
                  go_roundw
                  case rel => exact ⟨qs ++ [(⟨90, 3⟩ : Pt)], by simp; omega, O_99, D_99⟩
                  case measure => simp [sliceLen]; omega
              · go_wp2
                go_ret
                exact ⟨_, _, rfl, by rw [HB.out]; exact O_10.out, by omega, D_10.out⟩
/-- What a draw of mvs hands back: a row of the draw's own. -/
def MvD (c : Nat) (w : World) (e : Ending) (w' : World) : Prop := ∃ (ps : List Pt) (v : Value), e = .returned v ∧ Mv.OwnP w' w.heap.size v ps ∧ ps.length ≤ 301 ∧ Dr c w w'
set_option maxRecDepth 100000 in
set_option maxHeartbeats 8000000 in
theorem draw_moves (c : Nat) (w : World) (hC : Cur w c) :
    Calls Try.prog 58 #[.pointer (some ⟨c, 0, none⟩)] w (MvD c w) := by
  have hcl := hC.lt
  obtain ⟨i0, hi, hz0, hz1, hz2⟩ := info_mv2
  have O_0 := Lib.hid (mv_new w)
  have D_0 := Lib.hid ((Dr.start hC).alloc (.cells #[] 157))
  have HB0 := Lib.hid (show w.heap.size ≤ (w.alloc (.cells #[] 157)).heap.size by simp)
  obtain ⟨B, hB⟩ : ∃ B, w.heap.size = B := ⟨_, rfl⟩
  obtain ⟨W0, hW0⟩ : ∃ W0, w.alloc (.cells #[] 157) = W0 := ⟨_, rfl⟩
  rw [hW0] at O_0 D_0 HB0
  rw [hB] at O_0 hcl HB0
  have HW0 := Lib.hid hW0
  have HB := Lib.hid hB
  clear hC hW0 hB
  go_enter Try.func58, Try.ntmps58
  go_wp2_with fail
  rw [HW0.out]
  refine (below_n c _ (by omega) (by omega) _ D_0.out.cur).mono ?_
  rintro e wd1 ⟨k0, k01, k02, rfl, hC, hT⟩
  have O_1 := Lib.hid (row_touch O_0.out (by omega) hT)
  have D_1 := Lib.hid (Dr.step D_0.out hC hT)
  clear O_0 D_0
  clear hC hT
  rw [HB.out]
  go_wp2_with fail
  go_loopw [3, 4, 5] (fun o t i wr => ∃ (q : Nat) (ps : List Pt) (x : Int), i = .int .i64 q ∧ t = .int .i64 x ∧ 0 ≤ x ∧ x + 10 * q ≤ 1000 ∧ q + ps.length ≤ 9 ∧ Hid (Mv.OwnP wr B o ps) ∧ Hid (Dr c w wr)) (fun _ _ i _ => (intOf i).toNat)
  case atStart => exact ⟨k0.toNat, [], 0, int_eq (by omega), rfl, by omega, by omega, by simp; omega, O_1.out, D_1.out⟩
  case round =>
    clear O_1 D_1
    obtain ⟨q, ps, t, rfl, rfl, ht0, ht1, hq, O_9, D_9⟩ := hrel
    by_cases hq0 : 0 < q
    · skip
      go_wp2_with fail
      refine (below_n c _ (by omega) (by omega) _ D_9.out.cur).mono ?_
      rintro e wd2 ⟨x, x1, x2, rfl, hC, hT⟩
      have O_10 := Lib.hid (row_touch O_9.out (by omega) hT)
      have D_10 := Lib.hid (Dr.step D_9.out hC hT)
      clear O_9 D_9
      clear hC hT
      go_wp2_with fail
      refine (below_n c _ (by omega) (by omega) _ D_10.out.cur).mono ?_
      rintro e wd3 ⟨y, y1, y2, rfl, hC, hT⟩
      have O_11 := Lib.hid (row_touch O_10.out (by omega) hT)
      have D_11 := Lib.hid (Dr.step D_10.out hC hT)
      clear O_10 D_10
      clear hC hT
      have hgz := D_11.out.size
      rw [HB.out] at hgz
      go_wp2_with (at_builtin; refine wpList_append_own _ rfl _ _ 33 rfl B 157 i0 (ptV zeroP) 2 16 Try.underlying33 hi hz0 hz1 hz2 rfl (by decide) _ _ _ rfl (row_alloc O_11.out _) ⟨wd3.heap.size, 0, none⟩ 1 1 [.int .i64 (t + x), .int .i64 (y - 4)] rfl rfl ?c1 ?c2 ?c3 ?c4 ?c5 ?_)
      case c1 => exact pt_cells _ (⟨t + x, y - 4⟩ : Pt) _
      case c2 => first | rfl | exact pt_one (⟨t + x, y - 4⟩ : Pt)
      case c3 => unfold maxLen; omega
      case c4 => omega
      case c5 => first | omega | (simp; omega)
      · intro v' w9 hown' hgrow _
        have hrow : ∀ g, Value.ownBlock _ = some g → B ≤ g := fun g hg => (World.ownsRow.lt O_11.out g hg).1
        have O_99 := Lib.hid (mv_snoc (p := (⟨t + x, y - 4⟩ : Pt)) hown')
        have D_99 := Lib.hid (Dr.grown (Dr.alloc D_11.out (.cells #[.int .i64 (t + x), .int .i64 (y - 4)] 157)) hgrow (fun g hg => by have := hrow g hg; rw [HB.out]; exact this))
        clear hown' hgrow hrow O_11 D_11
        go_wp2
        go_roundw
        case rel => exact ⟨q - 1, ps ++ [(⟨t + x, y - 4⟩ : Pt)], t + x, int_eq (by omega), int_eq (by omega), by omega, by omega, by simp; omega, O_99, D_99⟩
        case measure => simp [intOf]; omega
    · obtain rfl : q = 0 := by omega
      obtain ⟨a, cap, rfl, -⟩ := mv_form O_9.out
      clear ht0 ht1
      go_wp2_with fail
      refine (once c _ (by omega) (by omega) _ D_9.out.cur).mono ?_
      rintro e wd32 ⟨o, rfl, hC, hT⟩
      have O_10 := Lib.hid (row_touch O_9.out (by omega) hT)
      have D_10 := Lib.hid (Dr.step D_9.out hC hT)
      clear O_9 D_9
      clear hC hT
      cases o
      · skip
        go_wp2
        go_ret
        exact ⟨_, _, rfl, by rw [HB.out]; exact O_10.out, by omega, D_10.out⟩
      · skip
        by_cases hp : 0 < ps.length
        · skip
          go_wp2_with fail
          refine (below_k c _ hp (by omega) _ D_10.out.cur).mono ?_
          rintro e wd73 ⟨j, hj, rfl, hC, hT⟩
          have O_11 := Lib.hid (row_touch O_10.out (by omega) hT)
          have D_11 := Lib.hid (Dr.step D_10.out hC hT)
          clear O_10 D_10
          clear hC hT
          go_wp2_with fail
          refine (pick_new c [-1, 999, 0] 3 rfl _ wd73 D_11.out.cur rfl (by omega) (by omega) ((-1)) (999) (by intro v hv; simp at hv; omega)).mono ?_
          rintro e wd74 ⟨u, u1, u2, rfl, hC, hT⟩
          have O_12 := Lib.hid (row_touch O_11.out (by omega) hT)
          have D_12 := Lib.hid (Dr.step D_11.out hC hT)
          clear O_11 D_11
          clear hC hT
          go_wp2_with fail
          refine (pick_new c [1000, 1001, -1001] 3 rfl _ wd74 D_12.out.cur rfl (by omega) (by omega) ((-1001)) (1001) (by intro v hv; simp at hv; omega)).mono ?_
          rintro e wd75 ⟨v, v1, v2, rfl, hC, hT⟩
          have O_13 := Lib.hid (row_touch O_12.out (by omega) hT)
          have D_13 := Lib.hid (Dr.step D_12.out hC hT)
          clear O_12 D_12
          clear hC hT
          obtain ⟨g, rfl⟩ : ∃ g, a = some ⟨g, 0, none⟩ := by
            rcases O_13.out.2 with ⟨hv, h0⟩ | ⟨g, cap9, cur9, hv, _⟩
            · omega
            · cases hv; exact ⟨g, rfl⟩
          have hgB := (World.ownsRow.lt O_13.out g rfl).1
          obtain ⟨x0, x1⟩ := Mv.OwnP.at2 (h := O_13.out) j hj
          have f0 := Mv.OwnP.frozen O_13.out (j * 2)
          have f1 := Mv.OwnP.frozen O_13.out (j * 2 + 1)
          have O_77 := Lib.hid (Mv.OwnP.put O_13.out j hj ⟨u, v⟩)
          have D_77 := Lib.hid (Dr.setNew (g := g) (Dr.setNew (g := g) D_13.out (by rw [HB.out]; exact hgB) (j * 2) (.int .i64 u)) (by rw [HB.out]; exact hgB) (j * 2 + 1) (.int .i64 v))
          have HPL : Hid ((ps.set j ⟨u, v⟩).length ≤ 9) := by show _ ≤ _; rw [List.length_set]; omega
          clear O_13 D_13
          go_upto_region 10 with fail
          clear x0 x1 f0 f1
          obtain ⟨wd76, hw⟩ : ∃ yy : World, (wd75.setCell ⟨g, j * 2, none⟩ (.int .i64 u)).setCell ⟨g, j * 2 + 1, none⟩ (.int .i64 v) = yy := ⟨_, rfl⟩
          rw [hw] at O_77 D_77 ⊢
          clear hw
          have hpl := HPL.out
          go_wp2
          go_ret
          exact ⟨_, _, rfl, by rw [HB.out]; exact O_77.out, by omega, D_77.out⟩
        · skip
          go_wp2
          go_ret
          exact ⟨_, _, rfl, by rw [HB.out]; exact O_10.out, by omega, D_10.out⟩
end Go.Proofs.Ytcjjdnfikccnmaa.Draw6N
