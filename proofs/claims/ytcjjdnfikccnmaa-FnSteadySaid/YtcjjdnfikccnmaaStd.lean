/- Steady: the model's and the program's. -/
import Derived.Test.YtcjjdnfikccnmaaCons
import Derived.Test.YtcjjdnfikccnmaaSdI
import Derived.Test.YtcjjdnfikccnmaaSdT
import Derived.Test.YtcjjdnfikccnmaaLogS
namespace Go.Proofs.Ytcjjdnfikccnmaa.Std
open Go.RowKit Go.Shelf Go.BigFrame
open Go.Proofs.Ytcjjdnfikccnmaa.C1
open Go.Proofs.Ytcjjdnfikccnmaa.C2
open Go.Proofs.Ytcjjdnfikccnmaa.Smps
open Go.Proofs.Ytcjjdnfikccnmaa.Mem
open Go.Proofs.Ytcjjdnfikccnmaa.Ser
open Go.Proofs.Ytcjjdnfikccnmaa.Pl
open Go.Proofs.Ytcjjdnfikccnmaa.BhM
open Go.Proofs.Ytcjjdnfikccnmaa.BhI
open Go.Proofs.Ytcjjdnfikccnmaa.LogS
open Go.Proofs.Ytcjjdnfikccnmaa.LogI
open Go.Proofs.Ytcjjdnfikccnmaa.SdS
open Go.Proofs.Ytcjjdnfikccnmaa.SdI
open Go.Proofs.Ytcjjdnfikccnmaa.SdT
open Go.Proofs.Ytcjjdnfikccnmaa.Itr
open Go.Proofs.Ytcjjdnfikccnmaa.Win
open Go.Proofs.Ytcjjdnfikccnmaa.Ext
open Go.Proofs.Ytcjjdnfikccnmaa.Cons
set_option linter.unusedVariables false

theorem steady_no {b : Bh} {ns : List Pt} {now count want : Int} (h : steadyG b ns now count want = false) : steadyV b ns now count want = -1 := by
  unfold steadyV; rw [if_neg (by rw [h]; simp)]
theorem steady_yes {b : Bh} {ns : List Pt} {now count want : Int} (h : steadyG b ns now count want = true) : steadyV b ns now count want = cutTo count (lowV ns now b.up.win want) (highV ns now b.dn.win want) := by
  unfold steadyV; rw [if_pos h]
theorem four_boxes {w w' : World} {v0 v1 v2 v3 : Value} {t0 t1 t2 t3 : TypeId} (h : w' = (((w.alloc (.cells #[v0] t0)).alloc (.cells #[v1] t1)).alloc (.cells #[v2] t2)).alloc (.cells #[v3] t3)) :
    CellsW w' w.heap.size [v0] ∧ CellsW w' (w.heap.size + 1) [v1] ∧ CellsW w' (w.heap.size + 2) [v2] ∧ CellsW w' (w.heap.size + 3) [v3] ∧ Below w.heap.size w w' ∧ w'.heap.size = w.heap.size + 4 := by
  obtain ⟨k1, k2, k3, hb, hz⟩ := three_boxes (w := w) (v0 := v0) (v1 := v1) (v2 := v2) (t0 := t0) (t1 := t1) (t2 := t2) rfl
  have k4 := Ser2.cells_new (((w.alloc (.cells #[v0] t0)).alloc (.cells #[v1] t1)).alloc (.cells #[v2] t2)) #[v3] t3
  rw [hz] at k4
  have hb2 := box_below (((w.alloc (.cells #[v0] t0)).alloc (.cells #[v1] t1)).alloc (.cells #[v2] t2)) #[v3] t3
  subst h
  exact ⟨k1.kept hb2, k2.kept hb2, k3.kept hb2, k4, hb.trans (hb2.mono hb.size), by simp⟩
theorem low_step {now win want : Int} {ns : List Pt} {k : Nat} (hk : k < ns.length) : lowV (ns.take (k + 1)) now win want = if winB now win ns[k] = true then min (lowV (ns.take k) now win want) ns[k].val else lowV (ns.take k) now win want := by
  unfold lowV
  rw [winL_take _ _ _ _ hk]
  split
  · rw [valsL_snoc, leastF_snoc]
  · rw [List.append_nil]
theorem high_step {now win want : Int} {ns : List Pt} {k : Nat} (hk : k < ns.length) : highV (ns.take (k + 1)) now win want = if winB now win ns[k] = true then max (highV (ns.take k) now win want) ns[k].val else highV (ns.take k) now win want := by
  unfold highV
  rw [winL_take _ _ _ _ hk]
  split
  · rw [valsL_snoc, mostF_snoc]
  · rw [List.append_nil]
set_option maxHeartbeats 4000000 in
set_option maxRecDepth 100000 in
theorem spec_steady (b : Bh) (a : Option Addr) (c : Nat) (a' : Option Addr) (c' : Nat) (ns : List Pt) (an : Option Addr) (cn : Nat) (now count want : Int) (w : World) (hu : Pls w a b.up.ps) (hd : Pls w a' b.dn.ps) (hn : Pts w an ns) (m1 : b.up.ps.length ≤ 1048576) (m2 : b.dn.ps.length ≤ 1048576) (m3 : ns.length ≤ 1048576) :
    Calls Try.prog 11 #[bhV b a c a' c', .slice an ns.length cn, .int .i64 now, .int .i64 count, .int .i64 want] w fun e w' => e = .returned (.int .i64 (steadyV b ns now count want)) ∧ Below w.heap.size w w' := by
  have hsp := fun w h1 h2 => spec_behok b a c a' c' w h1 h2 (by omega) (by omega)
  have hnt := fun w h => spec_notesok ns an cn w h m3
  unfold bhV at hsp ⊢
  have hbx := box_below w #[.slice a b.up.ps.length c, .int .i64 b.up.sel, .int .i64 b.up.win, .slice a' b.dn.ps.length c', .int .i64 b.dn.sel, .int .i64 b.dn.win, .int .i64 b.mn, .int .i64 b.mx] 28
  have HU := Lib.hid (hu.kept hbx)
  have HD := Lib.hid (hd.kept hbx)
  have HN0 := Lib.hid (hn.kept hbx)
  clear hu hd hn hbx
  cases d1 : behV b
  · have HNO := Lib.hid (steady_no (b := b) (ns := ns) (now := now) (count := count) (want := want) (by unfold steadyG; rw [d1]; rfl))
    rw [HNO.out]
    simp only [d1] at hsp
    have HSP := Lib.hid hsp
    have HNT := Lib.hid hnt
    clear hsp hnt d1
    go_enter Try.func11, Try.ntmps11
    go_wp2_with (first | (go_at_call 54; refine (HSP.out _ HU.out HD.out).mono ?_; rintro e w2 ⟨rfl, hb2⟩; obtain ⟨k0, hB, hz⟩ := one_read hb2; have HB2 := Lib.hid hB; have K2 : Hid (CW8 w2 w.heap.size _ _ _ _ _ _ _ _) := k0; have HN2 := Lib.hid (HN0.out.kept hb2); clear k0 hB hb2 hz))
    go_ret
    exact ⟨rfl, HB2.out⟩
  · skip
    cases d2 : logV noteV ns
    · have HNO := Lib.hid (steady_no (b := b) (ns := ns) (now := now) (count := count) (want := want) (by unfold steadyG; rw [d1, d2]; rfl))
      rw [HNO.out]
      simp only [d1] at hsp
      simp only [d2] at hnt
      have HSP := Lib.hid hsp
      have HNT := Lib.hid hnt
      clear hsp hnt d1 d2
      go_enter Try.func11, Try.ntmps11
      go_wp2_with (first | (go_at_call 54; refine (HSP.out _ HU.out HD.out).mono ?_; rintro e w2 ⟨rfl, hb2⟩; obtain ⟨k0, hB, hz⟩ := one_read hb2; have HB2 := Lib.hid hB; have K2 : Hid (CW8 w2 w.heap.size _ _ _ _ _ _ _ _) := k0; have HN2 := Lib.hid (HN0.out.kept hb2); clear k0 hB hb2 hz) | (go_at_call 55; refine (HNT.out _ HN2.out).mono ?_; rintro e w3 ⟨rfl, hb3⟩; have HB3 := Lib.hid (HB2.out.trans (hb3.mono HB2.out.size)); have K3 := Lib.hid (K2.out.kept hb3); have HN3 := Lib.hid (HN2.out.kept hb3); clear hb3))
      go_ret
      exact ⟨rfl, HB3.out⟩
    · skip
      cases d3 : tickV now
      · have HNO := Lib.hid (steady_no (b := b) (ns := ns) (now := now) (count := count) (want := want) (by unfold steadyG; rw [d1, d2, d3]; rfl))
        rw [HNO.out]
        simp only [d1] at hsp
        simp only [d2] at hnt
        have HSP := Lib.hid hsp
        have HNT := Lib.hid hnt
        clear hsp hnt d1 d2
        go_enter Try.func11, Try.ntmps11
        go_wp2_with (first | (go_at_call 54; refine (HSP.out _ HU.out HD.out).mono ?_; rintro e w2 ⟨rfl, hb2⟩; obtain ⟨k0, hB, hz⟩ := one_read hb2; have HB2 := Lib.hid hB; have K2 : Hid (CW8 w2 w.heap.size _ _ _ _ _ _ _ _) := k0; have HN2 := Lib.hid (HN0.out.kept hb2); clear k0 hB hb2 hz) | (go_at_call 55; refine (HNT.out _ HN2.out).mono ?_; rintro e w3 ⟨rfl, hb3⟩; have HB3 := Lib.hid (HB2.out.trans (hb3.mono HB2.out.size)); have K3 := Lib.hid (K2.out.kept hb3); have HN3 := Lib.hid (HN2.out.kept hb3); clear hb3) | (go_at_call 56; refine (spec_tick6 _ _).mono ?_; rw [d3]; rintro e w' ⟨rfl, rfl⟩))
        go_ret
        exact ⟨rfl, HB3.out⟩
      · skip
        cases d4 : countV count
        · have HNO := Lib.hid (steady_no (b := b) (ns := ns) (now := now) (count := count) (want := want) (by unfold steadyG; rw [d1, d2, d3, d4]; rfl))
          rw [HNO.out]
          simp only [d1] at hsp
          simp only [d2] at hnt
          have HSP := Lib.hid hsp
          have HNT := Lib.hid hnt
          clear hsp hnt d1 d2
          go_enter Try.func11, Try.ntmps11
          go_wp2_with (first | (go_at_call 54; refine (HSP.out _ HU.out HD.out).mono ?_; rintro e w2 ⟨rfl, hb2⟩; obtain ⟨k0, hB, hz⟩ := one_read hb2; have HB2 := Lib.hid hB; have K2 : Hid (CW8 w2 w.heap.size _ _ _ _ _ _ _ _) := k0; have HN2 := Lib.hid (HN0.out.kept hb2); clear k0 hB hb2 hz) | (go_at_call 55; refine (HNT.out _ HN2.out).mono ?_; rintro e w3 ⟨rfl, hb3⟩; have HB3 := Lib.hid (HB2.out.trans (hb3.mono HB2.out.size)); have K3 := Lib.hid (K2.out.kept hb3); have HN3 := Lib.hid (HN2.out.kept hb3); clear hb3) | (go_at_call 56; refine (spec_tick6 _ _).mono ?_; rw [d3]; rintro e w' ⟨rfl, rfl⟩) | (go_at_call 57; refine (spec_count6 _ _).mono ?_; (first | rw [d4] | rw [d5]); rintro e w' ⟨rfl, rfl⟩))
          go_ret
          exact ⟨rfl, HB3.out⟩
        · skip
          cases d5 : countV want
          · have HNO := Lib.hid (steady_no (b := b) (ns := ns) (now := now) (count := count) (want := want) (by unfold steadyG; rw [d1, d2, d3, d4, d5]; rfl))
            rw [HNO.out]
            simp only [d1] at hsp
            simp only [d2] at hnt
            have HSP := Lib.hid hsp
            have HNT := Lib.hid hnt
            clear hsp hnt d1 d2
            go_enter Try.func11, Try.ntmps11
            go_wp2_with (first | (go_at_call 54; refine (HSP.out _ HU.out HD.out).mono ?_; rintro e w2 ⟨rfl, hb2⟩; obtain ⟨k0, hB, hz⟩ := one_read hb2; have HB2 := Lib.hid hB; have K2 : Hid (CW8 w2 w.heap.size _ _ _ _ _ _ _ _) := k0; have HN2 := Lib.hid (HN0.out.kept hb2); clear k0 hB hb2 hz) | (go_at_call 55; refine (HNT.out _ HN2.out).mono ?_; rintro e w3 ⟨rfl, hb3⟩; have HB3 := Lib.hid (HB2.out.trans (hb3.mono HB2.out.size)); have K3 := Lib.hid (K2.out.kept hb3); have HN3 := Lib.hid (HN2.out.kept hb3); clear hb3) | (go_at_call 56; refine (spec_tick6 _ _).mono ?_; rw [d3]; rintro e w' ⟨rfl, rfl⟩) | (go_at_call 57; refine (spec_count6 _ _).mono ?_; (first | rw [d4] | rw [d5]); rintro e w' ⟨rfl, rfl⟩))
            go_ret
            exact ⟨rfl, HB3.out⟩
          · skip
            have hG : steadyG b ns now count want = true := by unfold steadyG; rw [d1, d2, d3, d4, d5]; rfl
            rw [steady_yes hG]
            simp only [d1] at hsp
            simp only [d2] at hnt
            have HSP := Lib.hid hsp
            have HNT := Lib.hid hnt
            have hl := (logV_yes d2).1
            obtain ⟨s1, s2, -, -, -⟩ := beh_bd d1
            obtain ⟨-, -, u0, u1, -⟩ := side_bd s1
            obtain ⟨-, -, v0, v1, -⟩ := side_bd s2
            have hnow : 0 ≤ now ∧ now ≤ 1000000000 := by simpa [tickV, inV_iff] using d3
            have hcnt : 0 ≤ count ∧ count ≤ 1000 := by simpa [countV, inV_iff] using d4
            have hwnt : 0 ≤ want ∧ want ≤ 1000 := by simpa [countV, inV_iff] using d5
            have D2 := Lib.hid d2
            clear hsp hnt d1 d2 hG s1 s2
            go_enter Try.func11, Try.ntmps11
            go_wp2_with (first | (go_at_call 54; refine (HSP.out _ HU.out HD.out).mono ?_; rintro e w2 ⟨rfl, hb2⟩; obtain ⟨k0, hB, hz⟩ := one_read hb2; have HB2 := Lib.hid hB; have K2 : Hid (CW8 w2 w.heap.size _ _ _ _ _ _ _ _) := k0; have HN2 := Lib.hid (HN0.out.kept hb2); clear k0 hB hb2 hz) | (go_at_call 55; refine (HNT.out _ HN2.out).mono ?_; rintro e w3 ⟨rfl, hb3⟩; have HB3 := Lib.hid (HB2.out.trans (hb3.mono HB2.out.size)); have K3 := Lib.hid (K2.out.kept hb3); have HN3 := Lib.hid (HN2.out.kept hb3); clear hb3) | (go_at_call 56; refine (spec_tick6 _ _).mono ?_; rw [d3]; rintro e w' ⟨rfl, rfl⟩) | (go_at_call 57; refine (spec_count6 _ _).mono ?_; (first | rw [d4] | rw [d5]); rintro e w' ⟨rfl, rfl⟩))
            clear d3 d4 d5
            obtain ⟨nb, noff, na, nbb, ncell⟩ := HN3.out.cells
            have Hc := Lib.hid ncell
            have Ha := Lib.hid na
            have Hb := Lib.hid nbb
            clear ncell na nbb
            go_loopw [11, 12, 13] (fun lo hi i wr => ∃ (k : Nat) (lv hv : Int), k ≤ ns.length ∧ i = .int .i64 k ∧ lo = .int .i64 lv ∧ hi = .int .i64 hv ∧ Hid (lv = lowV (ns.take k) now b.up.win want ∧ hv = highV (ns.take k) now b.dn.win want) ∧ Hid (Below w3.heap.size w3 wr)) (fun _ _ i _ => ns.length - (intOf i).toNat)
            case atStart => exact ⟨0, want, want, Nat.zero_le _, rfl, rfl, rfl, by simp [lowV, highV, winL, valsL, leastF, mostF, Hid], Below.refl _ _⟩
            case round =>
              obtain ⟨k, lv, hv, hk, rfl, rfl, rfl, HV, HB⟩ := hrel
              have HKr := Lib.hid (K3.out.kept HB.out)
              have HBw := Lib.hid (HB3.out.trans (HB.out.mono HB3.out.size))
              by_cases hlt : k < ns.length
              · obtain rfl := Ha.out (by omega)
                obtain ⟨x, hx⟩ : ∃ x, ns[k] = x := ⟨_, rfl⟩
                have hq := (Hc.out k hlt).kept HB.out (Hb.out (by omega))
                have hbd := note_bd (logV_mem D2.out ns[k] (List.getElem_mem hlt))
                have HLW := Lib.hid (low_step (now := now) (win := b.up.win) (want := want) hlt)
                have HHG := Lib.hid (high_step (now := now) (win := b.dn.win) (want := want) hlt)
                rw [hx] at hq hbd HLW HHG
                rw [← HV.out.1] at HLW
                rw [← HV.out.2] at HHG
                obtain ⟨q0, q1⟩ := hq
                obtain ⟨x0, x1, x2, x3⟩ := hbd
                obtain ⟨⟨-, -, p2, -, -, p5, -, -⟩, -⟩ := HKr.out.get
                have HBX := Lib.hid (HB.out.alloc HB.out.size (.cells #[.int .i64 x.tick, .int .i64 x.val] 93))
                have hlw := HKr.out.1
                clear hx HV HKr
                have hup : (¬ now - b.up.win < x.tick) ∨ (now - b.up.win < x.tick ∧ ¬ x.tick ≤ now) ∨ (now - b.up.win < x.tick ∧ x.tick ≤ now ∧ ¬ x.val < lv) ∨ (now - b.up.win < x.tick ∧ x.tick ≤ now ∧ x.val < lv) := by omega
                have hdn : (¬ now - b.dn.win < x.tick) ∨ (now - b.dn.win < x.tick ∧ ¬ x.tick ≤ now) ∨ (now - b.dn.win < x.tick ∧ x.tick ≤ now ∧ ¬ hv < x.val) ∨ (now - b.dn.win < x.tick ∧ x.tick ≤ now ∧ hv < x.val) := by omega
                rcases hup with h1 | ⟨h1, h2⟩ | ⟨h1, h2, h3⟩ | ⟨h1, h2, h3⟩ <;> rcases hdn with g1 | ⟨g1, g2⟩ | ⟨g1, g2, g3⟩ | ⟨g1, g2, g3⟩
                all_goals first | (exfalso; omega) | skip
                all_goals
                  go_wp2
                  go_roundw
                  case rel => exact ⟨k + 1, _, _, by omega, by go_num, rfl, rfl, ⟨by rw [HLW.out]; first | (rw [if_pos (by unfold winB; simp; omega)]; omega) | rw [if_neg (by unfold winB; simp; omega)], by rw [HHG.out]; first | (rw [if_pos (by unfold winB; simp; omega)]; omega) | rw [if_neg (by unfold winB; simp; omega)]⟩, HBX.out⟩
                  case measure => simp [intOf]; omega
              · obtain rfl : k = ns.length := by omega
                have hlv : lv = lowV ns now b.up.win want ∧ hv = highV ns now b.dn.win want := by have := HV.out; rw [List.take_length] at this; exact this
                have hlh := low_high ns now b.up.win b.dn.win want
                have HC : Hid (cutTo count (lowV ns now b.up.win want) (highV ns now b.dn.win want) = if count < lv then lv else if count > hv then hv else count) := by
                  show _ = _
                  rw [← hlv.1, ← hlv.2] at hlh ⊢
                  exact cutTo_ways _ _ _ (by omega)
                clear hlv HV HKr hlh
                by_cases g1 : count < lv
                · go_wp2
                  go_ret
                  exact ⟨ret1I (by rw [HC.out, if_pos (by omega)]), HBw.out⟩
                · by_cases g2 : count > hv
                  · go_wp2
                    go_ret
                    exact ⟨ret1I (by rw [HC.out, if_neg (by omega), if_pos (by omega)]), HBw.out⟩
                  · go_wp2
                    go_ret
                    exact ⟨ret1I (by rw [HC.out, if_neg (by omega), if_neg (by omega)]), HBw.out⟩
set_option maxHeartbeats 4000000 in
set_option maxRecDepth 100000 in
theorem impl_steady (b : Bh) (a : Option Addr) (c : Nat) (a' : Option Addr) (c' : Nat) (ns : List Pt) (an : Option Addr) (cn : Nat) (now count want : Int) (w : World) (hu : Pls w a b.up.ps) (hd : Pls w a' b.dn.ps) (hn : Pts w an ns) (m1 : b.up.ps.length ≤ 1048576) (m2 : b.dn.ps.length ≤ 1048576) (m3 : ns.length ≤ 1048576) :
    Calls Try.prog 10 #[bhV b a c a' c', .slice an ns.length cn, .int .i64 now, .int .i64 count, .int .i64 want] w fun e w' => e = .returned (.int .i64 (steadyV b ns now count want)) ∧ Below w.heap.size w w' := by
  have hsp := fun w h1 h2 => impl_behok b a c a' c' w h1 h2 (by omega) (by omega)
  have hnt := fun w h => impl_notesok ns an cn w h m3
  unfold bhV at hsp ⊢
  have hbx := box_below w #[.slice a b.up.ps.length c, .int .i64 b.up.sel, .int .i64 b.up.win, .slice a' b.dn.ps.length c', .int .i64 b.dn.sel, .int .i64 b.dn.win, .int .i64 b.mn, .int .i64 b.mx] 28
  have HU := Lib.hid (hu.kept hbx)
  have HD := Lib.hid (hd.kept hbx)
  have HN0 := Lib.hid (hn.kept hbx)
  clear hu hd hn hbx
  cases d1 : behV b
  · have HNO := Lib.hid (steady_no (b := b) (ns := ns) (now := now) (count := count) (want := want) (by unfold steadyG; rw [d1]; rfl))
    rw [HNO.out]
    simp only [d1] at hsp
    have HSP := Lib.hid hsp
    have HNT := Lib.hid hnt
    clear hsp hnt d1
    go_enter Try.func10, Try.ntmps10
    go_wp2_with (first | (go_at_call 47; refine (HSP.out _ HU.out HD.out).mono ?_; rintro e w2 ⟨rfl, hb2⟩; obtain ⟨k0, hB, hz⟩ := one_read hb2; have HB2 := Lib.hid hB; have K2 : Hid (CW8 w2 w.heap.size _ _ _ _ _ _ _ _) := k0; have HN2 := Lib.hid (HN0.out.kept hb2); clear k0 hB hb2 hz))
    go_ret
    exact ⟨rfl, HB2.out⟩
  · skip
    cases d2 : logV noteV ns
    · have HNO := Lib.hid (steady_no (b := b) (ns := ns) (now := now) (count := count) (want := want) (by unfold steadyG; rw [d1, d2]; rfl))
      rw [HNO.out]
      simp only [d1] at hsp
      simp only [d2] at hnt
      have HSP := Lib.hid hsp
      have HNT := Lib.hid hnt
      clear hsp hnt d1 d2
      go_enter Try.func10, Try.ntmps10
      go_wp2_with (first | (go_at_call 47; refine (HSP.out _ HU.out HD.out).mono ?_; rintro e w2 ⟨rfl, hb2⟩; obtain ⟨k0, hB, hz⟩ := one_read hb2; have HB2 := Lib.hid hB; have K2 : Hid (CW8 w2 w.heap.size _ _ _ _ _ _ _ _) := k0; have HN2 := Lib.hid (HN0.out.kept hb2); clear k0 hB hb2 hz) | (go_at_call 48; refine (HNT.out _ HN2.out).mono ?_; rintro e w3 ⟨rfl, hb3⟩; have HB3 := Lib.hid (HB2.out.trans (hb3.mono HB2.out.size)); have K3 := Lib.hid (K2.out.kept hb3); have HN3 := Lib.hid (HN2.out.kept hb3); clear hb3))
      go_ret
      exact ⟨rfl, HB3.out⟩
    · skip
      cases d3 : tickV now
      · have HNO := Lib.hid (steady_no (b := b) (ns := ns) (now := now) (count := count) (want := want) (by unfold steadyG; rw [d1, d2, d3]; rfl))
        rw [HNO.out]
        simp only [d1] at hsp
        simp only [d2] at hnt
        have HSP := Lib.hid hsp
        have HNT := Lib.hid hnt
        clear hsp hnt d1 d2
        go_enter Try.func10, Try.ntmps10
        go_wp2_with (first | (go_at_call 47; refine (HSP.out _ HU.out HD.out).mono ?_; rintro e w2 ⟨rfl, hb2⟩; obtain ⟨k0, hB, hz⟩ := one_read hb2; have HB2 := Lib.hid hB; have K2 : Hid (CW8 w2 w.heap.size _ _ _ _ _ _ _ _) := k0; have HN2 := Lib.hid (HN0.out.kept hb2); clear k0 hB hb2 hz) | (go_at_call 48; refine (HNT.out _ HN2.out).mono ?_; rintro e w3 ⟨rfl, hb3⟩; have HB3 := Lib.hid (HB2.out.trans (hb3.mono HB2.out.size)); have K3 := Lib.hid (K2.out.kept hb3); have HN3 := Lib.hid (HN2.out.kept hb3); clear hb3) | (go_at_call 49; refine (impl_tick6 _ _).mono ?_; rw [d3]; rintro e w' ⟨rfl, rfl⟩))
        go_ret
        exact ⟨rfl, HB3.out⟩
      · skip
        cases d4 : countV count
        · have HNO := Lib.hid (steady_no (b := b) (ns := ns) (now := now) (count := count) (want := want) (by unfold steadyG; rw [d1, d2, d3, d4]; rfl))
          rw [HNO.out]
          simp only [d1] at hsp
          simp only [d2] at hnt
          have HSP := Lib.hid hsp
          have HNT := Lib.hid hnt
          clear hsp hnt d1 d2
          go_enter Try.func10, Try.ntmps10
          go_wp2_with (first | (go_at_call 47; refine (HSP.out _ HU.out HD.out).mono ?_; rintro e w2 ⟨rfl, hb2⟩; obtain ⟨k0, hB, hz⟩ := one_read hb2; have HB2 := Lib.hid hB; have K2 : Hid (CW8 w2 w.heap.size _ _ _ _ _ _ _ _) := k0; have HN2 := Lib.hid (HN0.out.kept hb2); clear k0 hB hb2 hz) | (go_at_call 48; refine (HNT.out _ HN2.out).mono ?_; rintro e w3 ⟨rfl, hb3⟩; have HB3 := Lib.hid (HB2.out.trans (hb3.mono HB2.out.size)); have K3 := Lib.hid (K2.out.kept hb3); have HN3 := Lib.hid (HN2.out.kept hb3); clear hb3) | (go_at_call 49; refine (impl_tick6 _ _).mono ?_; rw [d3]; rintro e w' ⟨rfl, rfl⟩) | (go_at_call 50; refine (impl_count6 _ _).mono ?_; (first | rw [d4] | rw [d5]); rintro e w' ⟨rfl, rfl⟩))
          go_ret
          exact ⟨rfl, HB3.out⟩
        · skip
          cases d5 : countV want
          · have HNO := Lib.hid (steady_no (b := b) (ns := ns) (now := now) (count := count) (want := want) (by unfold steadyG; rw [d1, d2, d3, d4, d5]; rfl))
            rw [HNO.out]
            simp only [d1] at hsp
            simp only [d2] at hnt
            have HSP := Lib.hid hsp
            have HNT := Lib.hid hnt
            clear hsp hnt d1 d2
            go_enter Try.func10, Try.ntmps10
            go_wp2_with (first | (go_at_call 47; refine (HSP.out _ HU.out HD.out).mono ?_; rintro e w2 ⟨rfl, hb2⟩; obtain ⟨k0, hB, hz⟩ := one_read hb2; have HB2 := Lib.hid hB; have K2 : Hid (CW8 w2 w.heap.size _ _ _ _ _ _ _ _) := k0; have HN2 := Lib.hid (HN0.out.kept hb2); clear k0 hB hb2 hz) | (go_at_call 48; refine (HNT.out _ HN2.out).mono ?_; rintro e w3 ⟨rfl, hb3⟩; have HB3 := Lib.hid (HB2.out.trans (hb3.mono HB2.out.size)); have K3 := Lib.hid (K2.out.kept hb3); have HN3 := Lib.hid (HN2.out.kept hb3); clear hb3) | (go_at_call 49; refine (impl_tick6 _ _).mono ?_; rw [d3]; rintro e w' ⟨rfl, rfl⟩) | (go_at_call 50; refine (impl_count6 _ _).mono ?_; (first | rw [d4] | rw [d5]); rintro e w' ⟨rfl, rfl⟩))
            go_ret
            exact ⟨rfl, HB3.out⟩
          · skip
            have hG : steadyG b ns now count want = true := by unfold steadyG; rw [d1, d2, d3, d4, d5]; rfl
            rw [steady_yes hG]
            simp only [d1] at hsp
            simp only [d2] at hnt
            have HSP := Lib.hid hsp
            have HNT := Lib.hid hnt
            have hl := (logV_yes d2).1
            obtain ⟨s1, s2, -, -, -⟩ := beh_bd d1
            obtain ⟨-, -, u0, u1, -⟩ := side_bd s1
            obtain ⟨-, -, v0, v1, -⟩ := side_bd s2
            have hnow : 0 ≤ now ∧ now ≤ 1000000000 := by simpa [tickV, inV_iff] using d3
            have hcnt : 0 ≤ count ∧ count ≤ 1000 := by simpa [countV, inV_iff] using d4
            have hwnt : 0 ≤ want ∧ want ≤ 1000 := by simpa [countV, inV_iff] using d5
            have D2 := Lib.hid d2
            clear hsp hnt d1 d2 hG s1 s2
            go_enter Try.func10, Try.ntmps10
            go_wp2_with (first | (go_at_call 47; refine (HSP.out _ HU.out HD.out).mono ?_; rintro e w2 ⟨rfl, hb2⟩; obtain ⟨k0, hB, hz⟩ := one_read hb2; have HB2 := Lib.hid hB; have K2 : Hid (CW8 w2 w.heap.size _ _ _ _ _ _ _ _) := k0; have HN2 := Lib.hid (HN0.out.kept hb2); clear k0 hB hb2 hz) | (go_at_call 48; refine (HNT.out _ HN2.out).mono ?_; rintro e w3 ⟨rfl, hb3⟩; have HB3 := Lib.hid (HB2.out.trans (hb3.mono HB2.out.size)); have K3 := Lib.hid (K2.out.kept hb3); have HN3 := Lib.hid (HN2.out.kept hb3); obtain ⟨⟨-, -, p2, -, -, p5, -, -⟩, -⟩ := K3.out.get; clear hb3) | (go_at_call 49; refine (impl_tick6 _ _).mono ?_; rw [d3]; rintro e w' ⟨rfl, rfl⟩) | (go_at_call 50; refine (impl_count6 _ _).mono ?_; (first | rw [d4] | rw [d5]); rintro e w' ⟨rfl, rfl⟩))
            clear d3 d4 d5
            refine (considered_fn an ns.length cn now b.up.win want _).mono ?_
            rintro e w4 ⟨rfl, hw⟩
            obtain ⟨y0, y1, y2, y3, hB, hz⟩ := four_boxes hw
            have hit := iter_cons ns an cn now b.up.win want hnow ⟨u0, u1⟩ hl (w3.heap.size + 3) w3.heap.size (w3.heap.size + 1) (w3.heap.size + 2) w4 y3 y0 y1 y2 (HN3.out.kept hB)
            have hm : ∀ k, (k = w3.heap.size + 3 ∨ k = w3.heap.size ∨ k = w3.heap.size + 1 ∨ k = w3.heap.size + 2 ∨ InBlock an ns.length k) → k < w4.heap.size := fun k hk => by
              rcases hk with rfl | rfl | rfl | rfl | ⟨hk, o, s, e⟩
              · omega
              · omega
              · omega
              · omega
              · rcases HN3.out with h | ⟨bb, off, h1, h2, h3⟩
                · rw [h] at hk; simp at hk
                · rw [h1] at e; cases e; omega
            have HEX := Lib.hid (extremes_of _ _ _ want (valsL (winL now b.up.win ns)) w4 hit enters_cons hm)
            have HBa := Lib.hid (HB3.out.trans (hB.mono HB3.out.size))
            have Ka := Lib.hid (K3.out.kept hB)
            have HNa := Lib.hid (HN3.out.kept hB)
            clear y0 y1 y2 y3 hB hz hw hit hm p2 p5
            go_wp2_with fail
            refine HEX.out.mono ?_
            rintro e w5 ⟨rfl, hb⟩
            have HB5 := Lib.hid (HBa.out.trans (hb.mono HBa.out.size))
            have K5 := Lib.hid (Ka.out.kept hb)
            have HN5 := Lib.hid (HNa.out.kept hb)
            obtain ⟨⟨-, -, -, -, -, p5, -, -⟩, -⟩ := K5.out.get
            clear hb HEX HBa Ka HNa
            go_wp2_with fail
            refine (considered_fn an ns.length cn now b.dn.win want _).mono ?_
            rintro e w6 ⟨rfl, hw⟩
            obtain ⟨y0, y1, y2, y3, hB, hz⟩ := four_boxes hw
            have hit := iter_cons ns an cn now b.dn.win want hnow ⟨v0, v1⟩ hl (w5.heap.size + 3) w5.heap.size (w5.heap.size + 1) (w5.heap.size + 2) w6 y3 y0 y1 y2 (HN5.out.kept hB)
            have hm : ∀ k, (k = w5.heap.size + 3 ∨ k = w5.heap.size ∨ k = w5.heap.size + 1 ∨ k = w5.heap.size + 2 ∨ InBlock an ns.length k) → k < w6.heap.size := fun k hk => by
              rcases hk with rfl | rfl | rfl | rfl | ⟨hk, o, s, e⟩
              · omega
              · omega
              · omega
              · omega
              · rcases HN5.out with h | ⟨bb, off, h1, h2, h3⟩
                · rw [h] at hk; simp at hk
                · rw [h1] at e; cases e; omega
            have HEX := Lib.hid (extremes_of _ _ _ want (valsL (winL now b.dn.win ns)) w6 hit enters_cons hm)
            have HBa := Lib.hid (HB5.out.trans (hB.mono HB5.out.size))
            have Ka := Lib.hid (K5.out.kept hB)
            have HNa := Lib.hid (HN5.out.kept hB)
            clear y0 y1 y2 y3 hB hz hw hit hm p5
            go_wp2_with fail
            refine HEX.out.mono ?_
            rintro e w7 ⟨rfl, hb⟩
            have HB7 := Lib.hid (HBa.out.trans (hb.mono HBa.out.size))
            clear hb HEX HBa Ka HNa
            go_wp2_with (go_at_call 53; refine (impl_limited _ _ _ _).mono ?_; rintro e w' ⟨rfl, rfl⟩)
            go_ret
            exact ⟨rfl, HB7.out⟩
end Go.Proofs.Ytcjjdnfikccnmaa.Std
