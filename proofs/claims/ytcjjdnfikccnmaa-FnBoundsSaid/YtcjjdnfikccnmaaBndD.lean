/- DownBound: the model's. -/
import Derived.Test.YtcjjdnfikccnmaaBndS
namespace Go.Proofs.Ytcjjdnfikccnmaa.BndD
open Go.RowKit Go.Sort Go.BigFrame
open Go.Proofs.Ytcjjdnfikccnmaa.C1
open Go.Proofs.Ytcjjdnfikccnmaa.C2
open Go.Proofs.Ytcjjdnfikccnmaa.Smps
open Go.Proofs.Ytcjjdnfikccnmaa.Mem
open Go.Proofs.Ytcjjdnfikccnmaa.Ser
open Go.Proofs.Ytcjjdnfikccnmaa.Pl
open Go.Proofs.Ytcjjdnfikccnmaa.BhM
open Go.Proofs.Ytcjjdnfikccnmaa.BhI
open Go.Proofs.Ytcjjdnfikccnmaa.LogS
open Go.Proofs.Ytcjjdnfikccnmaa.SdS
open Go.Proofs.Ytcjjdnfikccnmaa.SdT
open Go.Proofs.Ytcjjdnfikccnmaa.Mvd
open Go.Proofs.Ytcjjdnfikccnmaa.Std
open Go.Proofs.Ytcjjdnfikccnmaa.BndS
set_option linter.unusedVariables false

set_option maxHeartbeats 8000000 in
set_option maxRecDepth 100000 in
theorem spec_dn (s : Sd) (a : Option Addr) (c : Nat) (ms : List Pt) (am : Option Addr) (cm : Nat) (now count : Int) (w : World) (hu : Pls w a s.ps) (hp : Pts w am ms) (m1 : s.ps.length ≤ 1048576) (m2 : ms.length ≤ 1048576) :
    Calls Try.prog 18 #[.agg #[.slice a s.ps.length c, .int .i64 s.sel, .int .i64 s.win], .slice am ms.length cm, .int .i64 now, .int .i64 count] w fun e w' => e = .returned (.int .i64 (dnV s ms now count)) ∧ Below w.heap.size w w' := by
  have hgd := fun w h1 h2 => spec_good s a c ms am cm now count w h1 h2 m1 m2
  have hbx := box_below w #[.slice a s.ps.length c, .int .i64 s.sel, .int .i64 s.win] 26
  have HU := Lib.hid (hu.kept hbx)
  have HP0 := Lib.hid (hp.kept hbx)
  clear hu hp hbx
  cases dG : boundG s ms now count
  · rw [dn_no dG]
    simp only [dG] at hgd
    have HGD := Lib.hid hgd
    clear hgd dG
    go_enter Try.func18, Try.ntmps18
    go_wp2_with (go_at_call 68; refine (HGD.out _ HU.out HP0.out).mono ?_; rintro e w2 ⟨rfl, hb2⟩; obtain ⟨k0, hB, hz⟩ := one_read hb2; have HB2 := Lib.hid hB; clear k0 hB hb2 hz)
    go_ret
    exact ⟨rfl, HB2.out⟩
  · have hG := bound_good dG
    obtain ⟨g1, g2, g3, g4⟩ := hG
    have hcnt : 0 ≤ count ∧ count ≤ 1000 := by simpa [countV, inV_iff] using g4
    have hside := side_bd g1
    obtain ⟨hl3, hsel, -, -, hpol⟩ := hside
    have HMEM := Lib.hid (dn_mem dG)
    have HV : Hid (dnV s ms now count = if s.sel = 2 then count else match boundsL dnB s ms now count with | [] => 0 | x :: r => min (pick x r (decide (s.sel = 1))) count) := by show _ = _; unfold dnV; rw [if_pos dG]; cases boundsL dnB s ms now count <;> rfl
    simp only [dG] at hgd
    have HGD := Lib.hid hgd
    have G2 := Lib.hid g2
    have G3 := Lib.hid g3
    have HPOL := Lib.hid hpol
    clear hgd dG g1 g2 g3 g4 hpol
    by_cases h2 : s.sel = 2
    · have HR : Hid (dnV s ms now count = count) := by rw [HV.out, if_pos h2]; exact rfl
      rw [HR.out]
      have e2 : (s.sel == 2) = true := by rw [h2]; rfl
      clear h2 hsel HMEM HV
      go_enter Try.func18, Try.ntmps18
      go_wp2_with (go_at_call 68; refine (HGD.out _ HU.out HP0.out).mono ?_; rintro e w2 ⟨rfl, hb2⟩; obtain ⟨k0, hB, hz⟩ := one_read hb2; have HB2 := Lib.hid hB; obtain ⟨c1, f1⟩ := k0.2 1 (by simp); simp at c1; clear k0 hB hb2 hz)
      go_ret
      exact ⟨rfl, HB2.out⟩
    · by_cases h0 : s.ps.length = 0
      · have HR : Hid (dnV s ms now count = 0) := by
          rw [HV.out, if_neg h2]
          have : boundsL dnB s ms now count = [] := by unfold boundsL; rw [List.length_eq_zero_iff.1 h0]; rfl
          rw [this]; exact rfl
        rw [HR.out]
        have e2 : (s.sel == 2) = false := by simpa using h2
        have e0 : ((s.ps.length : Int) == 0) = true := by rw [h0]; rfl
        clear HMEM h0 h2 hsel HV hl3
        go_enter Try.func18, Try.ntmps18
        go_wp2_with (go_at_call 68; refine (HGD.out _ HU.out HP0.out).mono ?_; rintro e w2 ⟨rfl, hb2⟩; obtain ⟨k0, hB, hz⟩ := one_read hb2; have HB2 := Lib.hid hB; obtain ⟨c0, f0⟩ := k0.2 0 (by simp); obtain ⟨c1, f1⟩ := k0.2 1 (by simp); simp at c0 c1; clear k0 hB hb2 hz)
        go_ret
        exact ⟨rfl, HB2.out⟩
      · have hsel01 : s.sel = 0 ∨ s.sel = 1 := by omega
        have HFIN : Hid (∀ bv, bv = (boundsL dnB s ms now count).foldl (foldM (decide (s.sel = 1))) (-1) → dnV s ms now count = min bv count) := fun bv hbv => by
          rw [HV.out, if_neg h2]
          cases hq : boundsL dnB s ms now count with
          | nil => exfalso; have := congrArg List.length hq; simp [boundsL] at this; rw [this] at h0; exact h0 rfl
          | cons x r =>
            rw [hq, foldM_all _ _ _ (fun y hy => (HMEM.out y (by rw [hq]; exact hy)).1)] at hbv
            show min (pick x r (decide (s.sel = 1))) count = _
            rw [← hbv]
        have HFB := Lib.hid (fun k => foldM_bd (decide (s.sel = 1)) ((boundsL dnB s ms now count).take k) (fun y hy => HMEM.out y (List.mem_of_mem_take hy)))
        have e2 : (s.sel == 2) = false := by simpa using h2
        have e0 : ((s.ps.length : Int) == 0) = false := by simp; exact fun h => h0 (by rw [h]; rfl)
        clear HV hsel h2
        obtain ⟨v, hv⟩ : ∃ v, dnV s ms now count = v := ⟨_, rfl⟩
        rw [hv] at HFIN ⊢
        clear hv
        go_enter Try.func18, Try.ntmps18
        go_wp2_with (go_at_call 68; refine (HGD.out _ HU.out HP0.out).mono ?_; rintro e w2 ⟨rfl, hb2⟩; obtain ⟨k0, hB, hz⟩ := one_read hb2; have HB2 := Lib.hid hB; have HU2 := Lib.hid (HU.out.kept hb2); have HP2 := Lib.hid (HP0.out.kept hb2); have K2 : Hid (CW3 w2 w.heap.size _ _ _) := k0; obtain ⟨c0, f0⟩ := k0.2 0 (by simp); obtain ⟨c1, f1⟩ := k0.2 1 (by simp); simp at c0 c1; clear k0 hB hb2 hz HGD HU HP0)
        clear c0 c1 f0 f1
        obtain ⟨nb, noff, na, nbb, ncell⟩ := HU2.out.cells
        have Hc := Lib.hid ncell
        have Ha := Lib.hid na
        have Hb := Lib.hid nbb
        clear ncell na nbb
        go_loopw [9, 10] (fun bo i wr => ∃ (k : Nat) (bv : Int), k ≤ s.ps.length ∧ i = .int .i64 k ∧ bo = .int .i64 bv ∧ Hid (bv = ((boundsL dnB s ms now count).take k).foldl (foldM (decide (s.sel = 1))) (-1)) ∧ Hid (Below w2.heap.size w2 wr)) (fun _ i _ => s.ps.length - (intOf i).toNat)
        case atStart => exact ⟨0, -1, Nat.zero_le _, rfl, rfl, rfl, Below.refl _ _⟩
        case round =>
          obtain ⟨k, bv, hk, rfl, rfl, HV, HB⟩ := hrel
          have HKr := Lib.hid (K2.out.kept HB.out)
          have HBw := Lib.hid (HB2.out.trans (HB.out.mono HB2.out.size))
          have hlw := HKr.out.1
          obtain ⟨⟨c0, c1, -⟩, -⟩ := HKr.out.get
          have hbvb := HFB.out k
          rw [← HV.out] at hbvb
          obtain ⟨b0, b1⟩ := hbvb
          by_cases hlt : k < s.ps.length
          · obtain rfl := Ha.out (by omega)
            obtain ⟨l, hll⟩ : ∃ l, s.ps[k] = l := ⟨_, rfl⟩
            have hq := (Hc.out k hlt).kept HB.out (Hb.out (by omega))
            have hpl := HPOL.out s.ps[k] (List.getElem_mem hlt)
            have hst := boundsL_take dnB s ms now count k hlt
            rw [hll] at hq hpl hst
            obtain ⟨q0, q1, q2⟩ := hq
            obtain ⟨hkd, hva0, hva1, hpe0, hpe1⟩ := pol_bd hpl
            have HBASE := Lib.hid (fun w hp => spec_base l ms am cm now count G2.out G3.out (by simp [inV]; omega) hcnt w hp m2)
            have hbb := base_bd G2.out now l.pe hcnt
            obtain ⟨base, hbase⟩ : ∃ base, baseV ms now count l.pe = base := ⟨_, rfl⟩
            rw [hbase] at HBASE hbb hst
            have HNX : Hid (∀ u, u = foldM (decide (s.sel = 1)) bv (dnB l base) → u = ((boundsL dnB s ms now count).take (k + 1)).foldl (foldM (decide (s.sel = 1))) (-1)) := fun u hu => by rw [hst, fold_snoc, ← HV.out]; exact hu
            have hfb := dnB_bd hpl hbb.1
            obtain ⟨z0, z1⟩ := hbb
            obtain ⟨xv, hxv⟩ : ∃ xv, dnB l base = xv := ⟨_, rfl⟩
            rw [hxv] at HNX hfb
            have HPr := Lib.hid (HP2.out.kept HB.out)
            have HPX := Lib.hid (HPr.out.kept (box_below wr #[.int .i64 l.kd, .int .i64 l.va, .int .i64 l.pe] 106))
            have HBX := Lib.hid (HB.out.alloc HB.out.size (.cells #[.int .i64 l.kd, .int .i64 l.va, .int .i64 l.pe] 106))
            have HKX := Lib.hid (HKr.out.kept (box_below wr #[.int .i64 l.kd, .int .i64 l.va, .int .i64 l.pe] 106))
            clear hll hst hbase hpl hpe0 hpe1 HV HKr HPr HFB HMEM
            go_wp2_with fail
            clear c0 c1 q0 q1 q2
            refine (HBASE.out _ HPX.out).mono ?_
            rintro e w4 ⟨rfl, hb4⟩
            obtain ⟨k4, hB4, hz4⟩ := one_read hb4
            have HB4 := Lib.hid (HB.out.trans (hB4.mono HB.out.size))
            have HK4 := Lib.hid (HKX.out.kept hb4)
            obtain ⟨⟨c0, c1, -⟩, -⟩ := HK4.out.get
            obtain ⟨p0, -⟩ := k4.2 0 (by simp)
            obtain ⟨p1, -⟩ := k4.2 1 (by simp)
            simp at p0 p1
            clear k4 hb4 hB4 hz4 HBASE HPX HBX HKX

            obtain ⟨bc, hbc⟩ : ∃ bc, min base 1000 = bc := ⟨_, rfl⟩
            obtain ⟨lf, hlf⟩ : ∃ lf, max (100 - l.va) 0 = lf := ⟨_, rfl⟩
            have hbcb : 0 ≤ bc ∧ bc ≤ 1000 := by omega
            have hlfb : 0 ≤ lf ∧ lf ≤ 100 := by omega
            have hml := mul_bd hbcb hlfb
            have hcl := fun w => spec_floor (bc * lf) 100 w ⟨by omega, by omega⟩
            obtain ⟨cv, hcv⟩ : ∃ cv, flD (bc * lf) 100 = cv := ⟨_, rfl⟩
            have hcvb : 0 ≤ cv ∧ cv ≤ 1000 := by rw [← hcv]; unfold flD; rw [if_neg (by omega)]; omega
            simp only [hcv] at hcl
            have HCL := Lib.hid hcl
            have hx : ((1000 < base ∧ bc = 1000) ∨ (¬ 1000 < base ∧ bc = base)) ∧ (((l.kd == 1) = false ∧ bc - l.va < 0 ∧ xv = 0) ∨ ((l.kd == 1) = false ∧ ¬ bc - l.va < 0 ∧ xv = bc - l.va) ∨ ((l.kd == 1) = true ∧ 100 - l.va < 0 ∧ xv = 0) ∨ ((l.kd == 1) = true ∧ ¬ 100 - l.va < 0 ∧ lf = 100 - l.va ∧ xv = cv)) := by
              refine ⟨by omega, ?_⟩
              rw [← hxv]; unfold dnB; simp only [hbc, hlf]
              rcases hkd with h | h
              · rw [if_neg (by omega)]; by_cases g : bc - l.va < 0
                · exact .inl ⟨by rw [h]; rfl, g, by omega⟩
                · exact .inr (.inl ⟨by rw [h]; rfl, g, by omega⟩)
              · rw [if_pos h, hcv]; by_cases g : 100 - l.va < 0
                · exact .inr (.inr (.inl ⟨by rw [h]; rfl, g, by rw [← hcv, show lf = 0 by omega, Int.mul_zero]; rfl⟩))
                · exact .inr (.inr (.inr ⟨by rw [h]; rfl, g, by omega, rfl⟩))
            have HCL0 : Hid (∀ w, Calls Try.prog 71 #[.int .i64 0, .int .i64 100] w fun e w' => e = .returned (.int .i64 0) ∧ w = w') := fun w => (spec_floor 0 100 w ⟨by omega, by omega⟩)
            clear hcl hcv hxv hkd hbc hlf
            have hu : (bv < 0 ∧ foldM (decide (s.sel = 1)) bv xv = xv) ∨ (¬ bv < 0 ∧ ((s.sel == 0) = true ∧ (s.sel == 1) = false) ∧ xv < bv ∧ foldM (decide (s.sel = 1)) bv xv = xv) ∨ (¬ bv < 0 ∧ ((s.sel == 0) = true ∧ (s.sel == 1) = false) ∧ ¬ xv < bv ∧ foldM (decide (s.sel = 1)) bv xv = bv) ∨ (¬ bv < 0 ∧ ((s.sel == 0) = false ∧ (s.sel == 1) = true) ∧ bv < xv ∧ foldM (decide (s.sel = 1)) bv xv = xv) ∨ (¬ bv < 0 ∧ ((s.sel == 0) = false ∧ (s.sel == 1) = true) ∧ ¬ bv < xv ∧ foldM (decide (s.sel = 1)) bv xv = bv) := by
              unfold foldM
              by_cases g : bv < 0
              · exact .inl ⟨g, by rw [if_pos g]⟩
              · rw [if_neg g]
                rcases hsel01 with h | h
                · have hm : decide (s.sel = 1) = false := by rw [h]; rfl
                  rw [hm]
                  by_cases g2 : xv < bv
                  · exact .inr (.inl (⟨g, ⟨by rw [h]; rfl, by rw [h]; rfl⟩, g2, by simp; omega⟩))
                  · exact .inr (.inr (.inl (⟨g, ⟨by rw [h]; rfl, by rw [h]; rfl⟩, g2, by simp; omega⟩)))
                · have hm : decide (s.sel = 1) = true := by rw [h]; rfl
                  rw [hm]
                  by_cases g2 : bv < xv
                  · exact .inr (.inr (.inr (.inl (⟨g, ⟨by rw [h]; rfl, by rw [h]; rfl⟩, g2, by simp; omega⟩))))
                  · exact .inr (.inr (.inr (.inr (⟨g, ⟨by rw [h]; rfl, by rw [h]; rfl⟩, g2, by simp; omega⟩))))
            clear hsel01
            obtain ⟨hx1, hx2⟩ := hx
            rcases hx1 with ⟨j1, rfl⟩ | ⟨j1, rfl⟩
            all_goals
              rcases hx2 with ⟨k1, k2, rfl⟩ | ⟨k1, k2, rfl⟩ | ⟨k1, k2, rfl⟩ | ⟨k1, k2, rfl, rfl⟩
              · clear HCL HCL0 hml
                rcases hu with ⟨g1, gF⟩ | ⟨g1, ⟨g2, g2b⟩, g3, gF⟩ | ⟨g1, ⟨g2, g2b⟩, g3, gF⟩ | ⟨g1, ⟨g2, g2b⟩, g3, gF⟩ | ⟨g1, ⟨g2, g2b⟩, g3, gF⟩
                all_goals
                  have HG := Lib.hid gF
                  clear gF
                  first
                    | (exfalso; omega)
                    | (go_wp2_with fail
                       go_roundw
                       case rel => exact ⟨k + 1, _, by omega, by go_num, rfl, HNX.out _ HG.out.symm, HB4.out⟩
                       case measure => simp [intOf]; omega)
              · clear HCL HCL0 hml
                rcases hu with ⟨g1, gF⟩ | ⟨g1, ⟨g2, g2b⟩, g3, gF⟩ | ⟨g1, ⟨g2, g2b⟩, g3, gF⟩ | ⟨g1, ⟨g2, g2b⟩, g3, gF⟩ | ⟨g1, ⟨g2, g2b⟩, g3, gF⟩
                all_goals
                  have HG := Lib.hid gF
                  clear gF
                  first
                    | (exfalso; omega)
                    | (go_wp2_with fail
                       go_roundw
                       case rel => exact ⟨k + 1, _, by omega, by go_num, rfl, HNX.out _ HG.out.symm, HB4.out⟩
                       case measure => simp [intOf]; omega)
              · clear HCL hml
                rcases hu with ⟨g1, gF⟩ | ⟨g1, ⟨g2, g2b⟩, g3, gF⟩ | ⟨g1, ⟨g2, g2b⟩, g3, gF⟩ | ⟨g1, ⟨g2, g2b⟩, g3, gF⟩ | ⟨g1, ⟨g2, g2b⟩, g3, gF⟩
                all_goals
                  have HG := Lib.hid gF
                  clear gF
                  first
                    | (exfalso; omega)
                    | (go_wp2_with (go_at_call 71; refine (HCL0.out _).mono ?_; rintro e w' ⟨rfl, rfl⟩)
                       go_roundw
                       case rel => exact ⟨k + 1, _, by omega, by go_num, rfl, HNX.out _ HG.out.symm, HB4.out⟩
                       case measure => simp [intOf]; omega)
              · clear HCL0
                rcases hu with ⟨g1, gF⟩ | ⟨g1, ⟨g2, g2b⟩, g3, gF⟩ | ⟨g1, ⟨g2, g2b⟩, g3, gF⟩ | ⟨g1, ⟨g2, g2b⟩, g3, gF⟩ | ⟨g1, ⟨g2, g2b⟩, g3, gF⟩
                all_goals
                  have HG := Lib.hid gF
                  clear gF
                  first
                    | (exfalso; omega)
                    | (go_wp2_with (go_at_call 71; refine (HCL.out _).mono ?_; rintro e w' ⟨rfl, rfl⟩)
                       go_roundw
                       case rel => exact ⟨k + 1, _, by omega, by go_num, rfl, HNX.out _ HG.out.symm, HB4.out⟩
                       case measure => simp [intOf]; omega)
          · obtain rfl : k = s.ps.length := by omega
            have hfin := HFIN.out bv (by have := HV.out; rw [List.take_of_length_le (by simp [boundsL])] at this; exact this)
            have HF := Lib.hid hfin
            clear hfin HV HFIN HMEM HFB HKr
            by_cases g : count < bv
            · go_wp2
              go_ret
              exact ⟨ret1I (by rw [HF.out]; omega), HBw.out⟩
            · go_wp2
              go_ret
              exact ⟨ret1I (by rw [HF.out]; omega), HBw.out⟩
end Go.Proofs.Ytcjjdnfikccnmaa.BndD
