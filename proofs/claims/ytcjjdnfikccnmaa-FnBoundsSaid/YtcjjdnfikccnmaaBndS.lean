/- UpBound, DownBound: the model's. -/
import Derived.Test.YtcjjdnfikccnmaaMvd
import Derived.Test.YtcjjdnfikccnmaaStd
namespace Go.Proofs.Ytcjjdnfikccnmaa.BndS
open Go.RowKit Go.Sort Go.BigFrame
open Go.Proofs.Ytcjjdnfikccnmaa.C1
open Go.Proofs.Ytcjjdnfikccnmaa.C2
open Go.Proofs.Ytcjjdnfikccnmaa.Smps
open Go.Proofs.Ytcjjdnfikccnmaa.Mem
open Go.Proofs.Ytcjjdnfikccnmaa.Ser
open Go.Proofs.Ytcjjdnfikccnmaa.Pl
open Go.Proofs.Ytcjjdnfikccnmaa.BhM
open Go.Proofs.Ytcjjdnfikccnmaa.BhI
open Go.Proofs.Ytcjjdnfikccnmaa.LogS
open Go.Proofs.Ytcjjdnfikccnmaa.SdS
open Go.Proofs.Ytcjjdnfikccnmaa.SdT
open Go.Proofs.Ytcjjdnfikccnmaa.Mvd
open Go.Proofs.Ytcjjdnfikccnmaa.Std
set_option linter.unusedVariables false

theorem spec_base (p : Pl) (ms : List Pt) (a : Option Addr) (cap : Nat) (now cnt : Int) (hv : logV moveV ms = true) (hn : tickV now = true) (hs : inV p.pe 0 1000 = true) (hc : 0 ≤ cnt ∧ cnt ≤ 1000) (w : World) (hp : Pts w a ms) (hm : ms.length ≤ 1048576) :
    Calls Try.prog 69 #[.agg #[.int .i64 p.kd, .int .i64 p.va, .int .i64 p.pe], .slice a ms.length cap, .int .i64 now, .int .i64 cnt] w fun e w' => e = .returned (.int .i64 (baseV ms now cnt p.pe)) ∧ Below w.heap.size w w' := by
  have hmv := fun w h => spec_moved ms a cap now p.pe w h hm
  have hG : movedG ms now p.pe = true := by unfold movedG; rw [hv, hn, hs]; rfl
  have e1 : mvR ms now p.pe = movedR ms now p.pe := by unfold mvR; rw [if_pos hG]
  have e2 : mvF ms now p.pe = movedF ms now p.pe := by unfold mvF; rw [if_pos hG]
  have hbd := movedRF_bd hv now p.pe
  unfold baseV
  obtain ⟨rv, hrv⟩ : ∃ rv, movedR ms now p.pe = rv := ⟨_, rfl⟩
  obtain ⟨fv, hfv⟩ : ∃ fv, movedF ms now p.pe = fv := ⟨_, rfl⟩
  simp only [e1, e2, hrv, hfv] at hmv
  rw [hrv, hfv] at hbd ⊢
  have HMV := Lib.hid hmv
  have HP := Lib.hid (hp.kept (box_below w #[.int .i64 p.kd, .int .i64 p.va, .int .i64 p.pe] 106))
  clear hmv e1 e2 hrv hfv hG hv hn hs hp
  obtain ⟨h1, h2, h3, h4⟩ := hbd
  have hways : (cnt - rv + fv < 0 ∧ max (cnt - rv + fv) 0 = 0) ∨ (0 ≤ cnt - rv + fv ∧ max (cnt - rv + fv) 0 = cnt - rv + fv) := by omega
  rcases hways with ⟨h5, e⟩ | ⟨h5, e⟩
  all_goals
    rw [e]
    clear e
    go_enter Try.func69, Try.ntmps69
    go_wp2_with (go_at_call 121; refine (HMV.out _ HP.out).mono ?_; rintro e w2 ⟨rfl, hb2⟩; obtain ⟨k0, hB, hz⟩ := one_read hb2; have HB2 := Lib.hid hB; clear k0 hB hb2 hz)
    go_ret
    exact ⟨ret1I (by first | rfl | omega), HB2.out⟩
theorem bound_good {s : Sd} {ms : List Pt} {now count : Int} (h : boundG s ms now count = true) : sideV s = true ∧ logV moveV ms = true ∧ tickV now = true ∧ countV count = true := by
  simp only [boundG, Bool.and_eq_true] at h; exact h
theorem spec_good (s : Sd) (a : Option Addr) (c : Nat) (ms : List Pt) (am : Option Addr) (cm : Nat) (now count : Int) (w : World) (hu : Pls w a s.ps) (hp : Pts w am ms) (m1 : s.ps.length ≤ 1048576) (m2 : ms.length ≤ 1048576) :
    Calls Try.prog 68 #[.agg #[.slice a s.ps.length c, .int .i64 s.sel, .int .i64 s.win], .slice am ms.length cm, .int .i64 now, .int .i64 count] w fun e w' => e = .returned (.bool (boundG s ms now count)) ∧ Below w.heap.size w w' := by
  have hsp := fun w h => spec_sideok s a c w h (by omega)
  have hmk := fun w h => spec_movesok ms am cm w h m2
  unfold sdV at hsp
  have hbx := box_below w #[.slice a s.ps.length c, .int .i64 s.sel, .int .i64 s.win] 26
  have HU := Lib.hid (hu.kept hbx)
  have HP0 := Lib.hid (hp.kept hbx)
  clear hu hp hbx
  unfold boundG
  cases d1 : sideV s
  · simp only [d1] at hsp
    have HSP := Lib.hid hsp
    have HMK := Lib.hid hmk
    clear hsp hmk d1
    go_enter Try.func68, Try.ntmps68
    go_wp2_with (first | (go_at_call 111; refine (HSP.out _ HU.out).mono ?_; rintro e w2 ⟨rfl, hb2⟩; obtain ⟨k0, hB, hz⟩ := one_read hb2; have HB2 := Lib.hid hB; have HP2 := Lib.hid (HP0.out.kept hb2); clear k0 hB hb2 hz))
    go_ret
    exact ⟨ret1B (by simp), HB2.out⟩
  · skip
    cases d2 : logV moveV ms
    · simp only [d1] at hsp
      simp only [d2] at hmk
      have HSP := Lib.hid hsp
      have HMK := Lib.hid hmk
      clear hsp hmk d1 d2
      go_enter Try.func68, Try.ntmps68
      go_wp2_with (first | (go_at_call 111; refine (HSP.out _ HU.out).mono ?_; rintro e w2 ⟨rfl, hb2⟩; obtain ⟨k0, hB, hz⟩ := one_read hb2; have HB2 := Lib.hid hB; have HP2 := Lib.hid (HP0.out.kept hb2); clear k0 hB hb2 hz) | (go_at_call 112; refine (HMK.out _ HP2.out).mono ?_; rintro e w3 ⟨rfl, hb3⟩; have HB3 := Lib.hid (HB2.out.trans (hb3.mono HB2.out.size)); clear hb3))
      go_ret
      exact ⟨ret1B (by simp), HB3.out⟩
    · skip
      cases d3 : tickV now
      · simp only [d1] at hsp
        simp only [d2] at hmk
        have HSP := Lib.hid hsp
        have HMK := Lib.hid hmk
        clear hsp hmk d1 d2
        go_enter Try.func68, Try.ntmps68
        go_wp2_with (first | (go_at_call 111; refine (HSP.out _ HU.out).mono ?_; rintro e w2 ⟨rfl, hb2⟩; obtain ⟨k0, hB, hz⟩ := one_read hb2; have HB2 := Lib.hid hB; have HP2 := Lib.hid (HP0.out.kept hb2); clear k0 hB hb2 hz) | (go_at_call 112; refine (HMK.out _ HP2.out).mono ?_; rintro e w3 ⟨rfl, hb3⟩; have HB3 := Lib.hid (HB2.out.trans (hb3.mono HB2.out.size)); clear hb3) | (go_at_call 56; refine (spec_tick6 _ _).mono ?_; rw [d3]; rintro e w' ⟨rfl, rfl⟩))
        go_ret
        exact ⟨ret1B (by simp), HB3.out⟩
      · simp only [d1] at hsp
        simp only [d2] at hmk
        have HSP := Lib.hid hsp
        have HMK := Lib.hid hmk
        clear hsp hmk d1 d2
        go_enter Try.func68, Try.ntmps68
        go_wp2_with (first | (go_at_call 111; refine (HSP.out _ HU.out).mono ?_; rintro e w2 ⟨rfl, hb2⟩; obtain ⟨k0, hB, hz⟩ := one_read hb2; have HB2 := Lib.hid hB; have HP2 := Lib.hid (HP0.out.kept hb2); clear k0 hB hb2 hz) | (go_at_call 112; refine (HMK.out _ HP2.out).mono ?_; rintro e w3 ⟨rfl, hb3⟩; have HB3 := Lib.hid (HB2.out.trans (hb3.mono HB2.out.size)); clear hb3) | (go_at_call 56; refine (spec_tick6 _ _).mono ?_; rw [d3]; rintro e w' ⟨rfl, rfl⟩) | (go_at_call 57; refine (spec_count6 _ _).mono ?_; rintro e w' ⟨rfl, rfl⟩))
        go_ret
        exact ⟨ret1B (by simp), HB3.out⟩

theorem fold_snoc (mst : Bool) (l : List Int) (b x : Int) : (l ++ [x]).foldl (foldM mst) b = foldM mst (l.foldl (foldM mst) b) x := by simp
theorem up_raw (base va : Int) : clD (base * (100 + va)) 100 = base + clD (base * va) 100 := by
  have h : base * (100 + va) = base * 100 + base * va := Int.mul_add _ _ _
  obtain ⟨m, hm⟩ : ∃ m, base * va = m := ⟨_, rfl⟩
  rw [h, hm]
  unfold clD
  rw [if_neg (by omega), if_neg (by omega)]
  omega
theorem mul_bd {x y a b : Int} (hx : 0 ≤ x ∧ x ≤ a) (hy : 0 ≤ y ∧ y ≤ b) : 0 ≤ x * y ∧ x * y ≤ a * b := ⟨Int.mul_nonneg hx.1 hy.1, Int.mul_le_mul hx.2 hy.2 hy.1 (by omega)⟩
theorem foldM_bd (mst : Bool) (l : List Int) (h : ∀ y ∈ l, 0 ≤ y ∧ y ≤ 1000) : -1 ≤ l.foldl (foldM mst) (-1) ∧ l.foldl (foldM mst) (-1) ≤ 1000 := by
  induction l using snoc_ind with
  | h0 => simp
  | h1 l x ih =>
    have h1 := ih (fun y hy => h y (List.mem_append_left _ hy))
    have h2 := h x (by simp)
    rw [fold_snoc]
    obtain ⟨q, hq⟩ : ∃ q, l.foldl (foldM mst) (-1) = q := ⟨_, rfl⟩
    rw [hq] at h1 ⊢
    have hc : foldM mst q x = x ∨ foldM mst q x = max q x ∨ foldM mst q x = min q x := by
      unfold foldM
      split
      · exact .inl rfl
      · split
        · exact .inr (.inl rfl)
        · exact .inr (.inr rfl)
    rcases hc with h | h | h <;> rw [h] <;> omega
set_option maxHeartbeats 8000000 in
set_option maxRecDepth 100000 in
theorem spec_up (s : Sd) (a : Option Addr) (c : Nat) (ms : List Pt) (am : Option Addr) (cm : Nat) (now count : Int) (w : World) (hu : Pls w a s.ps) (hp : Pts w am ms) (m1 : s.ps.length ≤ 1048576) (m2 : ms.length ≤ 1048576) :
    Calls Try.prog 17 #[.agg #[.slice a s.ps.length c, .int .i64 s.sel, .int .i64 s.win], .slice am ms.length cm, .int .i64 now, .int .i64 count] w fun e w' => e = .returned (.int .i64 (upV s ms now count)) ∧ Below w.heap.size w w' := by
  have hgd := fun w h1 h2 => spec_good s a c ms am cm now count w h1 h2 m1 m2
  have hbx := box_below w #[.slice a s.ps.length c, .int .i64 s.sel, .int .i64 s.win] 26
  have HU := Lib.hid (hu.kept hbx)
  have HP0 := Lib.hid (hp.kept hbx)
  clear hu hp hbx
  cases dG : boundG s ms now count
  · rw [up_no dG]
    simp only [dG] at hgd
    have HGD := Lib.hid hgd
    clear hgd dG
    go_enter Try.func17, Try.ntmps17
    go_wp2_with (go_at_call 68; refine (HGD.out _ HU.out HP0.out).mono ?_; rintro e w2 ⟨rfl, hb2⟩; obtain ⟨k0, hB, hz⟩ := one_read hb2; have HB2 := Lib.hid hB; clear k0 hB hb2 hz)
    go_ret
    exact ⟨rfl, HB2.out⟩
  · have hG := bound_good dG
    obtain ⟨g1, g2, g3, g4⟩ := hG
    have hcnt : 0 ≤ count ∧ count ≤ 1000 := by simpa [countV, inV_iff] using g4
    have hside := side_bd g1
    obtain ⟨hl3, hsel, -, -, hpol⟩ := hside
    have HMEM := Lib.hid (up_mem dG)
    have HV : Hid (upV s ms now count = if s.sel = 2 then count else match boundsL upB s ms now count with | [] => 1000 | x :: r => max (pick x r (decide (s.sel = 0))) count) := by show _ = _; unfold upV; rw [if_pos dG]; cases boundsL upB s ms now count <;> rfl
    simp only [dG] at hgd
    have HGD := Lib.hid hgd
    have G2 := Lib.hid g2
    have G3 := Lib.hid g3
    have HPOL := Lib.hid hpol
    clear hgd dG g1 g2 g3 g4 hpol
    by_cases h2 : s.sel = 2
    · have HR : Hid (upV s ms now count = count) := by rw [HV.out, if_pos h2]; exact rfl
      rw [HR.out]
      have e2 : (s.sel == 2) = true := by rw [h2]; rfl
      clear h2 hsel HMEM HV
      go_enter Try.func17, Try.ntmps17
      go_wp2_with (go_at_call 68; refine (HGD.out _ HU.out HP0.out).mono ?_; rintro e w2 ⟨rfl, hb2⟩; obtain ⟨k0, hB, hz⟩ := one_read hb2; have HB2 := Lib.hid hB; obtain ⟨c1, f1⟩ := k0.2 1 (by simp); simp at c1; clear k0 hB hb2 hz)
      go_ret
      exact ⟨rfl, HB2.out⟩
    · by_cases h0 : s.ps.length = 0
      · have HR : Hid (upV s ms now count = 1000) := by
          rw [HV.out, if_neg h2]
          have : boundsL upB s ms now count = [] := by unfold boundsL; rw [List.length_eq_zero_iff.1 h0]; rfl
          rw [this]; exact rfl
        rw [HR.out]
        have e2 : (s.sel == 2) = false := by simpa using h2
        have e0 : ((s.ps.length : Int) == 0) = true := by rw [h0]; rfl
        clear HMEM h0 h2 hsel HV hl3
        go_enter Try.func17, Try.ntmps17
        go_wp2_with (go_at_call 68; refine (HGD.out _ HU.out HP0.out).mono ?_; rintro e w2 ⟨rfl, hb2⟩; obtain ⟨k0, hB, hz⟩ := one_read hb2; have HB2 := Lib.hid hB; obtain ⟨c0, f0⟩ := k0.2 0 (by simp); obtain ⟨c1, f1⟩ := k0.2 1 (by simp); simp at c0 c1; clear k0 hB hb2 hz)
        go_ret
        exact ⟨rfl, HB2.out⟩
      · have hsel01 : s.sel = 0 ∨ s.sel = 1 := by omega
        have HFIN : Hid (∀ bv, bv = (boundsL upB s ms now count).foldl (foldM (decide (s.sel = 0))) (-1) → upV s ms now count = max bv count) := fun bv hbv => by
          rw [HV.out, if_neg h2]
          cases hq : boundsL upB s ms now count with
          | nil => exfalso; have := congrArg List.length hq; simp [boundsL] at this; rw [this] at h0; exact h0 rfl
          | cons x r =>
            rw [hq, foldM_all _ _ _ (fun y hy => (HMEM.out y (by rw [hq]; exact hy)).1)] at hbv
            show max (pick x r (decide (s.sel = 0))) count = _
            rw [← hbv]
        have HFB := Lib.hid (fun k => foldM_bd (decide (s.sel = 0)) ((boundsL upB s ms now count).take k) (fun y hy => HMEM.out y (List.mem_of_mem_take hy)))
        have e2 : (s.sel == 2) = false := by simpa using h2
        have e0 : ((s.ps.length : Int) == 0) = false := by simp; exact fun h => h0 (by rw [h]; rfl)
        clear HV hsel h2
        obtain ⟨v, hv⟩ : ∃ v, upV s ms now count = v := ⟨_, rfl⟩
        rw [hv] at HFIN ⊢
        clear hv
        go_enter Try.func17, Try.ntmps17
        go_wp2_with (go_at_call 68; refine (HGD.out _ HU.out HP0.out).mono ?_; rintro e w2 ⟨rfl, hb2⟩; obtain ⟨k0, hB, hz⟩ := one_read hb2; have HB2 := Lib.hid hB; have HU2 := Lib.hid (HU.out.kept hb2); have HP2 := Lib.hid (HP0.out.kept hb2); have K2 : Hid (CW3 w2 w.heap.size _ _ _) := k0; obtain ⟨c0, f0⟩ := k0.2 0 (by simp); obtain ⟨c1, f1⟩ := k0.2 1 (by simp); simp at c0 c1; clear k0 hB hb2 hz HGD HU HP0)
        clear c0 c1 f0 f1
        obtain ⟨nb, noff, na, nbb, ncell⟩ := HU2.out.cells
        have Hc := Lib.hid ncell
        have Ha := Lib.hid na
        have Hb := Lib.hid nbb
        clear ncell na nbb
        go_loopw [9, 10] (fun bo i wr => ∃ (k : Nat) (bv : Int), k ≤ s.ps.length ∧ i = .int .i64 k ∧ bo = .int .i64 bv ∧ Hid (bv = ((boundsL upB s ms now count).take k).foldl (foldM (decide (s.sel = 0))) (-1)) ∧ Hid (Below w2.heap.size w2 wr)) (fun _ i _ => s.ps.length - (intOf i).toNat)
        case atStart => exact ⟨0, -1, Nat.zero_le _, rfl, rfl, rfl, Below.refl _ _⟩
        case round =>
          obtain ⟨k, bv, hk, rfl, rfl, HV, HB⟩ := hrel
          have HKr := Lib.hid (K2.out.kept HB.out)
          have HBw := Lib.hid (HB2.out.trans (HB.out.mono HB2.out.size))
          have hlw := HKr.out.1
          obtain ⟨⟨c0, c1, -⟩, -⟩ := HKr.out.get
          have hbvb := HFB.out k
          rw [← HV.out] at hbvb
          obtain ⟨b0, b1⟩ := hbvb
          by_cases hlt : k < s.ps.length
          · obtain rfl := Ha.out (by omega)
            obtain ⟨l, hll⟩ : ∃ l, s.ps[k] = l := ⟨_, rfl⟩
            have hq := (Hc.out k hlt).kept HB.out (Hb.out (by omega))
            have hpl := HPOL.out s.ps[k] (List.getElem_mem hlt)
            have hst := boundsL_take upB s ms now count k hlt
            rw [hll] at hq hpl hst
            obtain ⟨q0, q1, q2⟩ := hq
            obtain ⟨hkd, hva0, hva1, hpe0, hpe1⟩ := pol_bd hpl
            have HBASE := Lib.hid (fun w hp => spec_base l ms am cm now count G2.out G3.out (by simp [inV]; omega) hcnt w hp m2)
            have hbb := base_bd G2.out now l.pe hcnt
            obtain ⟨base, hbase⟩ : ∃ base, baseV ms now count l.pe = base := ⟨_, rfl⟩
            rw [hbase] at HBASE hbb hst
            have HNX : Hid (∀ u, u = foldM (decide (s.sel = 0)) bv (upB l base) → u = ((boundsL upB s ms now count).take (k + 1)).foldl (foldM (decide (s.sel = 0))) (-1)) := fun u hu => by rw [hst, fold_snoc, ← HV.out]; exact hu
            have hfb := upB_bd hpl hbb
            obtain ⟨z0, z1⟩ := hbb
            obtain ⟨xv, hxv⟩ : ∃ xv, upB l base = xv := ⟨_, rfl⟩
            rw [hxv] at HNX hfb
            have HPr := Lib.hid (HP2.out.kept HB.out)
            have HPX := Lib.hid (HPr.out.kept (box_below wr #[.int .i64 l.kd, .int .i64 l.va, .int .i64 l.pe] 106))
            have HBX := Lib.hid (HB.out.alloc HB.out.size (.cells #[.int .i64 l.kd, .int .i64 l.va, .int .i64 l.pe] 106))
            have HKX := Lib.hid (HKr.out.kept (box_below wr #[.int .i64 l.kd, .int .i64 l.va, .int .i64 l.pe] 106))
            clear hll hst hbase hpl hpe0 hpe1 HV HKr HPr HFB HMEM
            go_wp2_with fail
            clear c0 c1 q0 q1 q2
            refine (HBASE.out _ HPX.out).mono ?_
            rintro e w4 ⟨rfl, hb4⟩
            obtain ⟨k4, hB4, hz4⟩ := one_read hb4
            have HB4 := Lib.hid (HB.out.trans (hB4.mono HB.out.size))
            have HK4 := Lib.hid (HKX.out.kept hb4)
            obtain ⟨⟨c0, c1, -⟩, -⟩ := HK4.out.get
            obtain ⟨p0, -⟩ := k4.2 0 (by simp)
            obtain ⟨p1, -⟩ := k4.2 1 (by simp)
            simp at p0 p1
            clear k4 hb4 hB4 hz4 HBASE HPX HBX HKX

            have hml := mul_bd (x := base) (y := 100 + l.va) (a := 201000) (b := 1100) ⟨z0, z1⟩ ⟨by omega, by omega⟩
            have hcl := fun w => spec_ceil (base * (100 + l.va)) 100 w ⟨by omega, by omega⟩
            rw [up_raw] at hcl
            obtain ⟨cv, hcv⟩ : ∃ cv, base + clD (base * l.va) 100 = cv := ⟨_, rfl⟩
            have hcvb : 0 ≤ cv ∧ cv ≤ 10000000 := by rw [← hcv, ← up_raw]; unfold clD; rw [if_neg (by omega)]; omega
            simp only [hcv] at hcl
            have HCL := Lib.hid hcl
            have hx : ((l.kd == 1) = false ∧ ¬ 1000 < base + l.va ∧ xv = base + l.va) ∨ ((l.kd == 1) = false ∧ 1000 < base + l.va ∧ xv = 1000) ∨ ((l.kd == 1) = true ∧ ¬ 1000 < cv ∧ xv = cv) ∨ ((l.kd == 1) = true ∧ 1000 < cv ∧ xv = 1000) := by
              rw [← hxv]; unfold upB
              rcases hkd with h | h
              · rw [if_neg (by omega)]; by_cases g : 1000 < base + l.va
                · exact .inr (.inl ⟨by rw [h]; rfl, g, by omega⟩)
                · exact .inl ⟨by rw [h]; rfl, g, by omega⟩
              · rw [if_pos h, hcv]; by_cases g : 1000 < cv
                · exact .inr (.inr (.inr ⟨by rw [h]; rfl, g, by omega⟩))
                · exact .inr (.inr (.inl ⟨by rw [h]; rfl, g, by omega⟩))
            clear hcl hcv hxv hkd
            have hu : (bv < 0 ∧ foldM (decide (s.sel = 0)) bv xv = xv) ∨ (¬ bv < 0 ∧ ((s.sel == 0) = true ∧ (s.sel == 1) = false) ∧ bv < xv ∧ foldM (decide (s.sel = 0)) bv xv = xv) ∨ (¬ bv < 0 ∧ ((s.sel == 0) = true ∧ (s.sel == 1) = false) ∧ ¬ bv < xv ∧ foldM (decide (s.sel = 0)) bv xv = bv) ∨ (¬ bv < 0 ∧ ((s.sel == 0) = false ∧ (s.sel == 1) = true) ∧ xv < bv ∧ foldM (decide (s.sel = 0)) bv xv = xv) ∨ (¬ bv < 0 ∧ ((s.sel == 0) = false ∧ (s.sel == 1) = true) ∧ ¬ xv < bv ∧ foldM (decide (s.sel = 0)) bv xv = bv) := by
              unfold foldM
              by_cases g : bv < 0
              · exact .inl ⟨g, by rw [if_pos g]⟩
              · rw [if_neg g]
                rcases hsel01 with h | h
                · have hm : decide (s.sel = 0) = true := by rw [h]; rfl
                  rw [hm]
                  by_cases g2 : bv < xv
                  · exact .inr (.inl (⟨g, ⟨by rw [h]; rfl, by rw [h]; rfl⟩, g2, by simp; omega⟩))
                  · exact .inr (.inr (.inl (⟨g, ⟨by rw [h]; rfl, by rw [h]; rfl⟩, g2, by simp; omega⟩)))
                · have hm : decide (s.sel = 0) = false := by rw [h]; rfl
                  rw [hm]
                  by_cases g2 : xv < bv
                  · exact .inr (.inr (.inr (.inl (⟨g, ⟨by rw [h]; rfl, by rw [h]; rfl⟩, g2, by simp; omega⟩))))
                  · exact .inr (.inr (.inr (.inr (⟨g, ⟨by rw [h]; rfl, by rw [h]; rfl⟩, g2, by simp; omega⟩))))
            clear hsel01
            rcases hx with ⟨k1, k2, rfl⟩ | ⟨k1, k2, rfl⟩ | ⟨k1, k2, rfl⟩ | ⟨k1, k2, rfl⟩ <;> rcases hu with ⟨g1, gF⟩ | ⟨g1, ⟨g2, g2b⟩, g3, gF⟩ | ⟨g1, ⟨g2, g2b⟩, g3, gF⟩ | ⟨g1, ⟨g2, g2b⟩, g3, gF⟩ | ⟨g1, ⟨g2, g2b⟩, g3, gF⟩
            all_goals
              have HG := Lib.hid gF
              clear gF
              first
                | (exfalso; omega)
                | (go_wp2_with (go_at_call 70; refine (HCL.out _).mono ?_; rintro e w' ⟨rfl, rfl⟩)
                   go_roundw
                   case rel => exact ⟨k + 1, _, by omega, by go_num, rfl, HNX.out _ HG.out.symm, HB4.out⟩
                   case measure => simp [intOf]; omega)
          · obtain rfl : k = s.ps.length := by omega
            have hfin := HFIN.out bv (by have := HV.out; rw [List.take_of_length_le (by simp [boundsL])] at this; exact this)
            have HF := Lib.hid hfin
            clear hfin HV HFIN HMEM HFB HKr
            by_cases g : bv < count
            · go_wp2
              go_ret
              exact ⟨ret1I (by rw [HF.out]; omega), HBw.out⟩
            · go_wp2
              go_ret
              exact ⟨ret1I (by rw [HF.out]; omega), HBw.out⟩
end Go.Proofs.Ytcjjdnfikccnmaa.BndS
