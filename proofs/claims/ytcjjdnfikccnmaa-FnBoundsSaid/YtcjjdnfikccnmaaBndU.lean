/- UpBound, DownBound: the program's. -/
import Derived.Test.YtcjjdnfikccnmaaBndJ
import Derived.Test.YtcjjdnfikccnmaaSdI
namespace Go.Proofs.Ytcjjdnfikccnmaa.BndU
open Go.RowKit Go.Sort Go.BigFrame
open Go.Proofs.Ytcjjdnfikccnmaa.C1
open Go.Proofs.Ytcjjdnfikccnmaa.C2
open Go.Proofs.Ytcjjdnfikccnmaa.Smps
open Go.Proofs.Ytcjjdnfikccnmaa.Mem
open Go.Proofs.Ytcjjdnfikccnmaa.Ser
open Go.Proofs.Ytcjjdnfikccnmaa.Pl
open Go.Proofs.Ytcjjdnfikccnmaa.BhM
open Go.Proofs.Ytcjjdnfikccnmaa.BhI
open Go.Proofs.Ytcjjdnfikccnmaa.LogI
open Go.Proofs.Ytcjjdnfikccnmaa.SdI
open Go.Proofs.Ytcjjdnfikccnmaa.Itr
open Go.Proofs.Ytcjjdnfikccnmaa.Win
open Go.Proofs.Ytcjjdnfikccnmaa.Ext
open Go.Proofs.Ytcjjdnfikccnmaa.Cons
open Go.Proofs.Ytcjjdnfikccnmaa.Mvd
open Go.Proofs.Ytcjjdnfikccnmaa.BndI
open Go.Proofs.Ytcjjdnfikccnmaa.BndJ
set_option linter.unusedVariables false

def pastG (ms : List Pt) (now cnt : Int) : Bool := logV moveV ms && (tickV now && countV cnt)
theorem past_ok (ms : List Pt) (am : Option Addr) (cm : Nat) (now cnt : Int) (w : World) (hp : Pts w am ms) (m2 : ms.length ≤ 1048576) :
    Calls Try.prog 63 #[.agg #[.slice am ms.length cm, .int .i64 now, .int .i64 cnt]] w fun e w' => e = .returned (.bool (pastG ms now cnt)) ∧ Below w.heap.size w w' := by
  have hmk := fun w h => impl_movesok ms am cm w h m2
  have HP := Lib.hid (hp.kept (box_below w #[.slice am ms.length cm, .int .i64 now, .int .i64 cnt] 101))
  clear hp
  unfold pastG
  cases d1 : logV moveV ms
  · simp only [d1] at hmk
    have HMK := Lib.hid hmk
    clear hmk d1
    go_enter Try.func63, Try.ntmps63
    go_wp2_with (go_at_call 116; refine (HMK.out _ HP.out).mono ?_; rintro e w2 ⟨rfl, hb2⟩; obtain ⟨k0, hB, hz⟩ := one_read hb2; have HB2 := Lib.hid hB; clear k0 hB hb2 hz)
    go_ret
    exact ⟨ret1B (by simp), HB2.out⟩
  · simp only [d1] at hmk
    have HMK := Lib.hid hmk
    clear hmk d1
    cases d2 : tickV now
    all_goals
      go_enter Try.func63, Try.ntmps63
      go_wp2_with (first | (go_at_call 116; refine (HMK.out _ HP.out).mono ?_; rintro e w2 ⟨rfl, hb2⟩; obtain ⟨k0, hB, hz⟩ := one_read hb2; have HB2 := Lib.hid hB; obtain ⟨c1, -⟩ := k0.2 1 (by simp); obtain ⟨c2, -⟩ := k0.2 2 (by simp); simp at c1 c2; clear k0 hB hb2 hz) | (go_at_call 49; refine (impl_tick6 _ _).mono ?_; rw [d2]; rintro e w' ⟨rfl, rfl⟩) | (go_at_call 50; refine (impl_count6 _ _).mono ?_; rintro e w' ⟨rfl, rfl⟩))
      go_ret
      exact ⟨ret1B (by simp), HB2.out⟩
theorem chosen_of (s : Sd) (a : Option Addr) (c : Nat) (lg sm : Int) (w : World) :
    Calls Try.prog 66 #[.agg #[.slice a s.ps.length c, .int .i64 s.sel, .int .i64 s.win], .int .i64 lg, .int .i64 sm] w fun e w' => e = .returned (.int .i64 (if (s.sel == 1) = true then sm else lg)) ∧ Below w.heap.size w w' := by
  have HB := Lib.hid (box_below w #[.slice a s.ps.length c, .int .i64 s.sel, .int .i64 s.win] 98)
  cases d : s.sel == 1
  all_goals
    go_enter Try.func66, Try.ntmps66
    go_wp2
    go_ret
    exact ⟨by simp, HB.out⟩
/-- What bounds' boxes hold. -/
theorem boxes131 {w w' : World} {v0 v1 v2 v3 v4 : Value} {t0 t1 t2 : TypeId} (h : w' = ((w.alloc (.cells #[v0] t0)).alloc (.cells #[v1, v2, v3] t1)).alloc (.cells #[v4] t2)) :
    CellsW w' w.heap.size [v0] ∧ CellsW w' (w.heap.size + 1) [v1, v2, v3] ∧ CellsW w' (w.heap.size + 2) [v4] ∧ Below w.heap.size w w' ∧ w'.heap.size = w.heap.size + 3 := by
  subst h
  have k1 := Ser2.cells_new w #[v0] t0
  have k2 := Ser2.cells_new (w.alloc (.cells #[v0] t0)) #[v1, v2, v3] t1
  have k3 := Ser2.cells_new ((w.alloc (.cells #[v0] t0)).alloc (.cells #[v1, v2, v3] t1)) #[v4] t2
  rw [World.size_alloc] at k2
  rw [World.size_alloc, World.size_alloc] at k3
  exact ⟨(k1.kept (box_below _ _ _)).kept (box_below _ _ _), k2.kept (box_below _ _ _), k3, box3_below _ _ _ _, by simp⟩
theorem block_lt {w : World} {a : Option Addr} {ps : List Pt} (h : Pts w a ps) : ∀ k, InBlock a ps.length k → k < w.heap.size := by
  rintro k ⟨h0, o, s, e⟩
  rcases h with h | ⟨b, off, h1, h2, h3⟩
  · rw [h] at h0; simp at h0
  · rw [h1] at e; cases e; exact h2
theorem block_lt2 {w : World} {a : Option Addr} {ps : List Pl} (h : Pls w a ps) : ∀ k, InBlock a ps.length k → k < w.heap.size := by
  rintro k ⟨h0, o, s, e⟩
  obtain ⟨b, off, ha, hb, -⟩ := h.cells
  rw [ha h0] at e
  cases e
  exact hb h0
theorem mine_lt {w : World} {a am : Option Addr} {ps : List Pl} {ms : List Pt} {b0 b1 b2 : Nat} (h0 : b0 < w.heap.size) (h1 : b1 < w.heap.size) (h2 : b2 < w.heap.size) (hu : Pls w a ps) (hp : Pts w am ms) :
    ∀ k, (k = b0 ∨ k = b1 ∨ k = b2 ∨ InBlock a ps.length k ∨ InBlock am ms.length k) → k < w.heap.size := by
  rintro k (rfl | rfl | rfl | hk | hk)
  · exact h0
  · exact h1
  · exact h2
  · exact block_lt2 hu k hk
  · exact block_lt hp k hk

set_option maxHeartbeats 4000000 in
set_option maxRecDepth 100000 in
theorem impl_up (s : Sd) (a : Option Addr) (c : Nat) (ms : List Pt) (am : Option Addr) (cm : Nat) (now count : Int) (w : World) (hu : Pls w a s.ps) (hp : Pts w am ms) (m1 : s.ps.length ≤ 1048576) (m2 : ms.length ≤ 1048576) :
    Calls Try.prog 15 #[.agg #[.slice a s.ps.length c, .int .i64 s.sel, .int .i64 s.win], .slice am ms.length cm, .int .i64 now, .int .i64 count] w fun e w' => e = .returned (.int .i64 (upV s ms now count)) ∧ Below w.heap.size w w' := by
  have HSO := Lib.hid (fun w => impl_sideof 0 s.sel s.win a s.ps.length c w)
  have hsk := fun w h => impl_sidemok s a c w h (by omega)
  have hpk := fun w h => past_ok ms am cm now count w h m2
  have HU := Lib.hid hu
  have HP := Lib.hid hp
  clear hu hp
  cases d1 : sideV s
  · rw [up_no (by unfold boundG; rw [d1]; rfl)]
    simp only [d1] at hsk
    have HSK := Lib.hid hsk
    clear hsk hpk d1
    go_enter Try.func15, Try.ntmps15
    go_wp2_with (first | (go_at_call 61; refine (HSO.out _).mono ?_; rintro e w2 ⟨rfl, hb2⟩; obtain ⟨k0, hB, hz⟩ := one_read hb2; have HB2 := Lib.hid hB; have HU2 := Lib.hid (HU.out.kept hB); clear k0 hB hb2 hz) | (go_at_call 62; refine (HSK.out _ (HU2.out.kept (box2_below _ _ _))).mono ?_; rintro e w3 ⟨rfl, hb3⟩; obtain ⟨k9, k10, hB3, hz3⟩ := two_read hb3; have HB3 := Lib.hid (HB2.out.trans (hB3.mono HB2.out.size)); have K9 := Lib.hid k9; have K10 := Lib.hid k10; have HP3 := Lib.hid (HP.out.kept HB3.out); obtain ⟨y0, -⟩ := k10.2 0 (by simp); obtain ⟨y1, -⟩ := k10.2 1 (by simp); obtain ⟨y2, -⟩ := k10.2 2 (by simp); simp at y0 y1 y2; clear k9 k10 hB3 hb3 hz3))
    go_ret
    exact ⟨rfl, HB3.out⟩
  · cases d2 : pastG ms now count
    · rw [up_no (by unfold boundG; unfold pastG at d2; rw [d1, d2]; rfl)]
      simp only [d1] at hsk
      simp only [d2] at hpk
      have HSK := Lib.hid hsk
      have HPK := Lib.hid hpk
      clear hsk hpk d1 d2
      go_enter Try.func15, Try.ntmps15
      go_wp2_with (first | (go_at_call 61; refine (HSO.out _).mono ?_; rintro e w2 ⟨rfl, hb2⟩; obtain ⟨k0, hB, hz⟩ := one_read hb2; have HB2 := Lib.hid hB; have HU2 := Lib.hid (HU.out.kept hB); clear k0 hB hb2 hz) | (go_at_call 62; refine (HSK.out _ (HU2.out.kept (box2_below _ _ _))).mono ?_; rintro e w3 ⟨rfl, hb3⟩; obtain ⟨k9, k10, hB3, hz3⟩ := two_read hb3; have HB3 := Lib.hid (HB2.out.trans (hB3.mono HB2.out.size)); have K9 := Lib.hid k9; have K10 := Lib.hid k10; have HP3 := Lib.hid (HP.out.kept HB3.out); obtain ⟨y0, -⟩ := k10.2 0 (by simp); obtain ⟨y1, -⟩ := k10.2 1 (by simp); obtain ⟨y2, -⟩ := k10.2 2 (by simp); simp at y0 y1 y2; clear k9 k10 hB3 hb3 hz3) | (go_at_call 63; refine (HPK.out _ HP3.out).mono ?_; rintro e w4 ⟨rfl, hb4⟩; have K94 := Lib.hid (K9.out.kept hb4); have K104 := Lib.hid (K10.out.kept hb4); have HB4 := Lib.hid (HB3.out.trans (hb4.mono HB3.out.size)); clear y0 y1 y2; obtain ⟨x0, -⟩ := K94.out.2 0 (by simp); obtain ⟨x1, -⟩ := K94.out.2 1 (by simp); obtain ⟨x2, -⟩ := K94.out.2 2 (by simp); obtain ⟨y0, -⟩ := K104.out.2 0 (by simp); obtain ⟨y1, -⟩ := K104.out.2 1 (by simp); obtain ⟨y2, -⟩ := K104.out.2 2 (by simp); simp at x0 x1 x2 y0 y1 y2; clear hb4))
      go_ret
      exact ⟨rfl, HB4.out⟩
    · have dG : boundG s ms now count = true := by unfold boundG; unfold pastG at d2; rw [d1, d2]; rfl
      simp only [d1] at hsk
      simp only [d2] at hpk
      have HSK := Lib.hid hsk
      have HPK := Lib.hid hpk
      obtain ⟨hl3, hsel, -, -, hpol⟩ := side_bd d1
      have g2 : logV moveV ms = true := by simp only [pastG, Bool.and_eq_true] at d2; exact d2.1
      have g3 : 0 ≤ now ∧ now ≤ 1000000000 := by simp only [pastG, Bool.and_eq_true, tickV, inV_iff] at d2; exact d2.2.1
      have g4 : 0 ≤ count ∧ count ≤ 1000 := by simp only [pastG, Bool.and_eq_true, countV, inV_iff] at d2; exact d2.2.2
      have HV : Hid (upV s ms now count = if s.sel = 2 then count else match boundsL upB s ms now count with | [] => 1000 | x :: r => max (pick x r (decide (s.sel = 0))) count) := by show _ = _; unfold upV; rw [if_pos dG]; cases boundsL upB s ms now count <;> rfl
      clear hsk hpk d1 d2 dG
      by_cases h2 : s.sel = 2
      · have HR : Hid (upV s ms now count = count) := by rw [HV.out, if_pos h2]; exact rfl
        rw [HR.out]
        have e2 : (s.sel == 2) = true := by rw [h2]; rfl
        clear h2 hsel HV hpol g2
        go_enter Try.func15, Try.ntmps15
        go_wp2_with (first | (go_at_call 61; refine (HSO.out _).mono ?_; rintro e w2 ⟨rfl, hb2⟩; obtain ⟨k0, hB, hz⟩ := one_read hb2; have HB2 := Lib.hid hB; have HU2 := Lib.hid (HU.out.kept hB); clear k0 hB hb2 hz) | (go_at_call 62; refine (HSK.out _ (HU2.out.kept (box2_below _ _ _))).mono ?_; rintro e w3 ⟨rfl, hb3⟩; obtain ⟨k9, k10, hB3, hz3⟩ := two_read hb3; have HB3 := Lib.hid (HB2.out.trans (hB3.mono HB2.out.size)); have K9 := Lib.hid k9; have K10 := Lib.hid k10; have HP3 := Lib.hid (HP.out.kept HB3.out); obtain ⟨y0, -⟩ := k10.2 0 (by simp); obtain ⟨y1, -⟩ := k10.2 1 (by simp); obtain ⟨y2, -⟩ := k10.2 2 (by simp); simp at y0 y1 y2; clear k9 k10 hB3 hb3 hz3) | (go_at_call 63; refine (HPK.out _ HP3.out).mono ?_; rintro e w4 ⟨rfl, hb4⟩; have K94 := Lib.hid (K9.out.kept hb4); have K104 := Lib.hid (K10.out.kept hb4); have HB4 := Lib.hid (HB3.out.trans (hb4.mono HB3.out.size)); clear y0 y1 y2; obtain ⟨x0, -⟩ := K94.out.2 0 (by simp); obtain ⟨x1, -⟩ := K94.out.2 1 (by simp); obtain ⟨x2, -⟩ := K94.out.2 2 (by simp); obtain ⟨y0, -⟩ := K104.out.2 0 (by simp); obtain ⟨y1, -⟩ := K104.out.2 1 (by simp); obtain ⟨y2, -⟩ := K104.out.2 2 (by simp); simp at x0 x1 x2 y0 y1 y2; clear hb4))
        go_ret
        exact ⟨rfl, HB4.out⟩
      · have e2 : (s.sel == 2) = false := by simpa using h2
        by_cases h0 : s.ps.length = 0
        · have HR : Hid (upV s ms now count = 1000) := by
            rw [HV.out, if_neg h2]
            have : boundsL upB s ms now count = [] := by unfold boundsL; rw [List.length_eq_zero_iff.1 h0]; rfl
            rw [this]; exact rfl
          rw [HR.out]
          have e0 : ((s.ps.length : Int) == 0) = true := by rw [h0]; rfl
          clear h0 h2 hsel HV hpol g2 hl3
          go_enter Try.func15, Try.ntmps15
          go_wp2_with (first | (go_at_call 61; refine (HSO.out _).mono ?_; rintro e w2 ⟨rfl, hb2⟩; obtain ⟨k0, hB, hz⟩ := one_read hb2; have HB2 := Lib.hid hB; have HU2 := Lib.hid (HU.out.kept hB); clear k0 hB hb2 hz) | (go_at_call 62; refine (HSK.out _ (HU2.out.kept (box2_below _ _ _))).mono ?_; rintro e w3 ⟨rfl, hb3⟩; obtain ⟨k9, k10, hB3, hz3⟩ := two_read hb3; have HB3 := Lib.hid (HB2.out.trans (hB3.mono HB2.out.size)); have K9 := Lib.hid k9; have K10 := Lib.hid k10; have HP3 := Lib.hid (HP.out.kept HB3.out); obtain ⟨y0, -⟩ := k10.2 0 (by simp); obtain ⟨y1, -⟩ := k10.2 1 (by simp); obtain ⟨y2, -⟩ := k10.2 2 (by simp); simp at y0 y1 y2; clear k9 k10 hB3 hb3 hz3) | (go_at_call 63; refine (HPK.out _ HP3.out).mono ?_; rintro e w4 ⟨rfl, hb4⟩; have K94 := Lib.hid (K9.out.kept hb4); have K104 := Lib.hid (K10.out.kept hb4); have HB4 := Lib.hid (HB3.out.trans (hb4.mono HB3.out.size)); clear y0 y1 y2; obtain ⟨x0, -⟩ := K94.out.2 0 (by simp); obtain ⟨x1, -⟩ := K94.out.2 1 (by simp); obtain ⟨x2, -⟩ := K94.out.2 2 (by simp); obtain ⟨y0, -⟩ := K104.out.2 0 (by simp); obtain ⟨y1, -⟩ := K104.out.2 1 (by simp); obtain ⟨y2, -⟩ := K104.out.2 2 (by simp); simp at x0 x1 x2 y0 y1 y2; clear hb4))
          go_ret
          exact ⟨rfl, HB4.out⟩
        · obtain ⟨x, r, hxr⟩ : ∃ x r, boundsL upB s ms now count = x :: r := by
            cases hq : boundsL upB s ms now count with
            | nil => exfalso; have := congrArg List.length hq; simp [boundsL] at this; rw [this] at h0; exact h0 rfl
            | cons x r => exact ⟨x, r, rfl⟩
          have HXR : Hid (bvL upB s.ps ms now count = x :: r) := hxr
          obtain ⟨pv, hpv⟩ : ∃ pv, pick x r (decide (s.sel = 0)) = pv := ⟨_, rfl⟩
          have hch : (if (s.sel == 1) = true then leastF x r else mostF x r) = pv := by
            rw [← hpv]; unfold pick
            have hs : s.sel = 0 ∨ s.sel = 1 := by omega
            rcases hs with h | h <;> rw [h] <;> rfl
          have HVV : Hid (upV s ms now count = max pv count) := by show _ = _; rw [HV.out, if_neg h2, hxr]; show max (pick x r (decide (s.sel = 0))) count = _; rw [hpv]
          have e0 : ((s.ps.length : Int) == 0) = false := by simp; exact fun h => h0 (by rw [h]; rfl)
          have HCH := Lib.hid (fun w => chosen_of s a c (mostF x r) (leastF x r) w)
          rw [hch] at HCH
          have HIT := Lib.hid (fun b0 b1 b2 w k0 k1 k2 hu hp => iter_most s.ps a c ms am cm now count g2 g3 g4 hl3 hpol b0 b1 b2 w k0 k1 k2 hu hp)
          rw [HXR.out] at HIT
          rw [HVV.out]
          clear hxr hpv hch HV HXR HVV h0 h2 hsel hpol g2
          have hways : (pv < count ∧ max pv count = count) ∨ (count ≤ pv ∧ max pv count = pv) := by omega
          obtain ⟨lf, hlf⟩ : ∃ lf, leastF x r = lf := ⟨_, rfl⟩
          obtain ⟨mf, hmf⟩ : ∃ mf, mostF x r = mf := ⟨_, rfl⟩
          have HEX := Lib.hid (fun gf lb mine w hit eg hm => hlf ▸ hmf ▸ extremes_of gf lb mine x r w hit eg hm)
          rw [hlf, hmf] at HCH
          clear hlf hmf
          rcases hways with ⟨hw1, hw2⟩ | ⟨hw1, hw2⟩
          all_goals
            rw [hw2]
            clear hw2
            go_enter Try.func15, Try.ntmps15
            go_wp2_with (first | (go_at_call 61; refine (HSO.out _).mono ?_; rintro e w2 ⟨rfl, hb2⟩; obtain ⟨k0, hB, hz⟩ := one_read hb2; have HB2 := Lib.hid hB; have HU2 := Lib.hid (HU.out.kept hB); clear k0 hB hb2 hz) | (go_at_call 62; refine (HSK.out _ (HU2.out.kept (box2_below _ _ _))).mono ?_; rintro e w3 ⟨rfl, hb3⟩; obtain ⟨k9, k10, hB3, hz3⟩ := two_read hb3; have HB3 := Lib.hid (HB2.out.trans (hB3.mono HB2.out.size)); have K9 := Lib.hid k9; have K10 := Lib.hid k10; have HP3 := Lib.hid (HP.out.kept HB3.out); obtain ⟨y0, -⟩ := k10.2 0 (by simp); obtain ⟨y1, -⟩ := k10.2 1 (by simp); obtain ⟨y2, -⟩ := k10.2 2 (by simp); simp at y0 y1 y2; clear k9 k10 hB3 hb3 hz3) | (go_at_call 63; refine (HPK.out _ HP3.out).mono ?_; rintro e w4 ⟨rfl, hb4⟩; have K94 := Lib.hid (K9.out.kept hb4); have K104 := Lib.hid (K10.out.kept hb4); have HB4 := Lib.hid (HB3.out.trans (hb4.mono HB3.out.size)); clear y0 y1 y2; obtain ⟨x0, -⟩ := K94.out.2 0 (by simp); obtain ⟨x1, -⟩ := K94.out.2 1 (by simp); obtain ⟨x2, -⟩ := K94.out.2 2 (by simp); obtain ⟨y0, -⟩ := K104.out.2 0 (by simp); obtain ⟨y1, -⟩ := K104.out.2 1 (by simp); obtain ⟨y2, -⟩ := K104.out.2 2 (by simp); simp at x0 x1 x2 y0 y1 y2; clear hb4) | (go_at_call 64; refine (bounds_fn _ _ _ _ _ _ _ _ _ _).mono ?_; rintro e w5 ⟨rfl, hw5⟩; obtain ⟨z0, z1, z2, hB5, hz5⟩ := boxes131 hw5; have Z0 := Lib.hid z0; have Z1 := Lib.hid z1; have Z2 := Lib.hid z2; have HZ5 := Lib.hid hz5; have HB5 := Lib.hid (HB4.out.trans (hB5.mono HB4.out.size)); have K95 := Lib.hid (K94.out.kept hB5); have HU5 := Lib.hid (HU.out.kept HB5.out); have HP5 := Lib.hid (HP.out.kept HB5.out); clear z0 z1 z2 hB5 hz5 hw5 x0 x1 x2 y0 y1 y2) | (go_at_call 51; refine (HEX.out _ _ _ _ (HIT.out _ _ _ _ Z0.out Z2.out Z1.out HU5.out HP5.out) enters_bounds (mine_lt Z0.out.1 Z2.out.1 Z1.out.1 HU5.out HP5.out)).mono ?_; rintro e w6 ⟨rfl, hb6⟩; have K96 := Lib.hid (K95.out.kept hb6); have HB6 := Lib.hid (HB5.out.trans (hb6.mono HB5.out.size)); obtain ⟨x0, -⟩ := K96.out.2 0 (by simp); obtain ⟨x1, -⟩ := K96.out.2 1 (by simp); obtain ⟨x2, -⟩ := K96.out.2 2 (by simp); simp at x0 x1 x2; clear hb6) | (go_at_call 66; refine (HCH.out _).mono ?_; rintro e w7 ⟨rfl, hb7⟩; have HB7 := Lib.hid (HB6.out.trans (hb7.mono HB6.out.size)); clear hb7 x0 x1 x2))
            go_ret
            exact ⟨ret1I (by first | rfl | omega), HB7.out⟩

set_option maxHeartbeats 4000000 in
set_option maxRecDepth 100000 in
theorem impl_dn (s : Sd) (a : Option Addr) (c : Nat) (ms : List Pt) (am : Option Addr) (cm : Nat) (now count : Int) (w : World) (hu : Pls w a s.ps) (hp : Pts w am ms) (m1 : s.ps.length ≤ 1048576) (m2 : ms.length ≤ 1048576) :
    Calls Try.prog 16 #[.agg #[.slice a s.ps.length c, .int .i64 s.sel, .int .i64 s.win], .slice am ms.length cm, .int .i64 now, .int .i64 count] w fun e w' => e = .returned (.int .i64 (dnV s ms now count)) ∧ Below w.heap.size w w' := by
  have HSO := Lib.hid (fun w => impl_sideof 0 s.sel s.win a s.ps.length c w)
  have hsk := fun w h => impl_sidemok s a c w h (by omega)
  have hpk := fun w h => past_ok ms am cm now count w h m2
  have HU := Lib.hid hu
  have HP := Lib.hid hp
  clear hu hp
  cases d1 : sideV s
  · rw [dn_no (by unfold boundG; rw [d1]; rfl)]
    simp only [d1] at hsk
    have HSK := Lib.hid hsk
    clear hsk hpk d1
    go_enter Try.func16, Try.ntmps16
    go_wp2_with (first | (go_at_call 61; refine (HSO.out _).mono ?_; rintro e w2 ⟨rfl, hb2⟩; obtain ⟨k0, hB, hz⟩ := one_read hb2; have HB2 := Lib.hid hB; have HU2 := Lib.hid (HU.out.kept hB); clear k0 hB hb2 hz) | (go_at_call 62; refine (HSK.out _ (HU2.out.kept (box2_below _ _ _))).mono ?_; rintro e w3 ⟨rfl, hb3⟩; obtain ⟨k9, k10, hB3, hz3⟩ := two_read hb3; have HB3 := Lib.hid (HB2.out.trans (hB3.mono HB2.out.size)); have K9 := Lib.hid k9; have K10 := Lib.hid k10; have HP3 := Lib.hid (HP.out.kept HB3.out); obtain ⟨y0, -⟩ := k10.2 0 (by simp); obtain ⟨y1, -⟩ := k10.2 1 (by simp); obtain ⟨y2, -⟩ := k10.2 2 (by simp); simp at y0 y1 y2; clear k9 k10 hB3 hb3 hz3))
    go_ret
    exact ⟨rfl, HB3.out⟩
  · cases d2 : pastG ms now count
    · rw [dn_no (by unfold boundG; unfold pastG at d2; rw [d1, d2]; rfl)]
      simp only [d1] at hsk
      simp only [d2] at hpk
      have HSK := Lib.hid hsk
      have HPK := Lib.hid hpk
      clear hsk hpk d1 d2
      go_enter Try.func16, Try.ntmps16
      go_wp2_with (first | (go_at_call 61; refine (HSO.out _).mono ?_; rintro e w2 ⟨rfl, hb2⟩; obtain ⟨k0, hB, hz⟩ := one_read hb2; have HB2 := Lib.hid hB; have HU2 := Lib.hid (HU.out.kept hB); clear k0 hB hb2 hz) | (go_at_call 62; refine (HSK.out _ (HU2.out.kept (box2_below _ _ _))).mono ?_; rintro e w3 ⟨rfl, hb3⟩; obtain ⟨k9, k10, hB3, hz3⟩ := two_read hb3; have HB3 := Lib.hid (HB2.out.trans (hB3.mono HB2.out.size)); have K9 := Lib.hid k9; have K10 := Lib.hid k10; have HP3 := Lib.hid (HP.out.kept HB3.out); obtain ⟨y0, -⟩ := k10.2 0 (by simp); obtain ⟨y1, -⟩ := k10.2 1 (by simp); obtain ⟨y2, -⟩ := k10.2 2 (by simp); simp at y0 y1 y2; clear k9 k10 hB3 hb3 hz3) | (go_at_call 63; refine (HPK.out _ HP3.out).mono ?_; rintro e w4 ⟨rfl, hb4⟩; have K94 := Lib.hid (K9.out.kept hb4); have K104 := Lib.hid (K10.out.kept hb4); have HB4 := Lib.hid (HB3.out.trans (hb4.mono HB3.out.size)); clear y0 y1 y2; obtain ⟨x0, -⟩ := K94.out.2 0 (by simp); obtain ⟨x1, -⟩ := K94.out.2 1 (by simp); obtain ⟨x2, -⟩ := K94.out.2 2 (by simp); obtain ⟨y0, -⟩ := K104.out.2 0 (by simp); obtain ⟨y1, -⟩ := K104.out.2 1 (by simp); obtain ⟨y2, -⟩ := K104.out.2 2 (by simp); simp at x0 x1 x2 y0 y1 y2; clear hb4))
      go_ret
      exact ⟨rfl, HB4.out⟩
    · have dG : boundG s ms now count = true := by unfold boundG; unfold pastG at d2; rw [d1, d2]; rfl
      simp only [d1] at hsk
      simp only [d2] at hpk
      have HSK := Lib.hid hsk
      have HPK := Lib.hid hpk
      obtain ⟨hl3, hsel, -, -, hpol⟩ := side_bd d1
      have g2 : logV moveV ms = true := by simp only [pastG, Bool.and_eq_true] at d2; exact d2.1
      have g3 : 0 ≤ now ∧ now ≤ 1000000000 := by simp only [pastG, Bool.and_eq_true, tickV, inV_iff] at d2; exact d2.2.1
      have g4 : 0 ≤ count ∧ count ≤ 1000 := by simp only [pastG, Bool.and_eq_true, countV, inV_iff] at d2; exact d2.2.2
      have HV : Hid (dnV s ms now count = if s.sel = 2 then count else match boundsL dnB s ms now count with | [] => 0 | x :: r => min (pick x r (decide (s.sel = 1))) count) := by show _ = _; unfold dnV; rw [if_pos dG]; cases boundsL dnB s ms now count <;> rfl
      clear hsk hpk d1 d2 dG
      by_cases h2 : s.sel = 2
      · have HR : Hid (dnV s ms now count = count) := by rw [HV.out, if_pos h2]; exact rfl
        rw [HR.out]
        have e2 : (s.sel == 2) = true := by rw [h2]; rfl
        clear h2 hsel HV hpol g2
        go_enter Try.func16, Try.ntmps16
        go_wp2_with (first | (go_at_call 61; refine (HSO.out _).mono ?_; rintro e w2 ⟨rfl, hb2⟩; obtain ⟨k0, hB, hz⟩ := one_read hb2; have HB2 := Lib.hid hB; have HU2 := Lib.hid (HU.out.kept hB); clear k0 hB hb2 hz) | (go_at_call 62; refine (HSK.out _ (HU2.out.kept (box2_below _ _ _))).mono ?_; rintro e w3 ⟨rfl, hb3⟩; obtain ⟨k9, k10, hB3, hz3⟩ := two_read hb3; have HB3 := Lib.hid (HB2.out.trans (hB3.mono HB2.out.size)); have K9 := Lib.hid k9; have K10 := Lib.hid k10; have HP3 := Lib.hid (HP.out.kept HB3.out); obtain ⟨y0, -⟩ := k10.2 0 (by simp); obtain ⟨y1, -⟩ := k10.2 1 (by simp); obtain ⟨y2, -⟩ := k10.2 2 (by simp); simp at y0 y1 y2; clear k9 k10 hB3 hb3 hz3) | (go_at_call 63; refine (HPK.out _ HP3.out).mono ?_; rintro e w4 ⟨rfl, hb4⟩; have K94 := Lib.hid (K9.out.kept hb4); have K104 := Lib.hid (K10.out.kept hb4); have HB4 := Lib.hid (HB3.out.trans (hb4.mono HB3.out.size)); clear y0 y1 y2; obtain ⟨x0, -⟩ := K94.out.2 0 (by simp); obtain ⟨x1, -⟩ := K94.out.2 1 (by simp); obtain ⟨x2, -⟩ := K94.out.2 2 (by simp); obtain ⟨y0, -⟩ := K104.out.2 0 (by simp); obtain ⟨y1, -⟩ := K104.out.2 1 (by simp); obtain ⟨y2, -⟩ := K104.out.2 2 (by simp); simp at x0 x1 x2 y0 y1 y2; clear hb4))
        go_ret
        exact ⟨rfl, HB4.out⟩
      · have e2 : (s.sel == 2) = false := by simpa using h2
        by_cases h0 : s.ps.length = 0
        · have HR : Hid (dnV s ms now count = 0) := by
            rw [HV.out, if_neg h2]
            have : boundsL dnB s ms now count = [] := by unfold boundsL; rw [List.length_eq_zero_iff.1 h0]; rfl
            rw [this]; exact rfl
          rw [HR.out]
          have e0 : ((s.ps.length : Int) == 0) = true := by rw [h0]; rfl
          clear h0 h2 hsel HV hpol g2 hl3
          go_enter Try.func16, Try.ntmps16
          go_wp2_with (first | (go_at_call 61; refine (HSO.out _).mono ?_; rintro e w2 ⟨rfl, hb2⟩; obtain ⟨k0, hB, hz⟩ := one_read hb2; have HB2 := Lib.hid hB; have HU2 := Lib.hid (HU.out.kept hB); clear k0 hB hb2 hz) | (go_at_call 62; refine (HSK.out _ (HU2.out.kept (box2_below _ _ _))).mono ?_; rintro e w3 ⟨rfl, hb3⟩; obtain ⟨k9, k10, hB3, hz3⟩ := two_read hb3; have HB3 := Lib.hid (HB2.out.trans (hB3.mono HB2.out.size)); have K9 := Lib.hid k9; have K10 := Lib.hid k10; have HP3 := Lib.hid (HP.out.kept HB3.out); obtain ⟨y0, -⟩ := k10.2 0 (by simp); obtain ⟨y1, -⟩ := k10.2 1 (by simp); obtain ⟨y2, -⟩ := k10.2 2 (by simp); simp at y0 y1 y2; clear k9 k10 hB3 hb3 hz3) | (go_at_call 63; refine (HPK.out _ HP3.out).mono ?_; rintro e w4 ⟨rfl, hb4⟩; have K94 := Lib.hid (K9.out.kept hb4); have K104 := Lib.hid (K10.out.kept hb4); have HB4 := Lib.hid (HB3.out.trans (hb4.mono HB3.out.size)); clear y0 y1 y2; obtain ⟨x0, -⟩ := K94.out.2 0 (by simp); obtain ⟨x1, -⟩ := K94.out.2 1 (by simp); obtain ⟨x2, -⟩ := K94.out.2 2 (by simp); obtain ⟨y0, -⟩ := K104.out.2 0 (by simp); obtain ⟨y1, -⟩ := K104.out.2 1 (by simp); obtain ⟨y2, -⟩ := K104.out.2 2 (by simp); simp at x0 x1 x2 y0 y1 y2; clear hb4))
          go_ret
          exact ⟨rfl, HB4.out⟩
        · obtain ⟨x, r, hxr⟩ : ∃ x r, boundsL dnB s ms now count = x :: r := by
            cases hq : boundsL dnB s ms now count with
            | nil => exfalso; have := congrArg List.length hq; simp [boundsL] at this; rw [this] at h0; exact h0 rfl
            | cons x r => exact ⟨x, r, rfl⟩
          have HXR : Hid (bvL dnB s.ps ms now count = x :: r) := hxr
          obtain ⟨pv, hpv⟩ : ∃ pv, pick x r (decide (s.sel = 1)) = pv := ⟨_, rfl⟩
          have hch : (if (s.sel == 1) = true then mostF x r else leastF x r) = pv := by
            rw [← hpv]; unfold pick
            have hs : s.sel = 0 ∨ s.sel = 1 := by omega
            rcases hs with h | h <;> rw [h] <;> rfl
          have HVV : Hid (dnV s ms now count = min pv count) := by show _ = _; rw [HV.out, if_neg h2, hxr]; show min (pick x r (decide (s.sel = 1))) count = _; rw [hpv]
          have e0 : ((s.ps.length : Int) == 0) = false := by simp; exact fun h => h0 (by rw [h]; rfl)
          have HCH := Lib.hid (fun w => chosen_of s a c (leastF x r) (mostF x r) w)
          rw [hch] at HCH
          have HIT := Lib.hid (fun b0 b1 b2 w k0 k1 k2 hu hp => iter_least s.ps a c ms am cm now count g2 g3 g4 hl3 hpol b0 b1 b2 w k0 k1 k2 hu hp)
          rw [HXR.out] at HIT
          rw [HVV.out]
          clear hxr hpv hch HV HXR HVV h0 h2 hsel hpol g2
          have hways : (count < pv ∧ min pv count = count) ∨ (pv ≤ count ∧ min pv count = pv) := by omega
          obtain ⟨lf, hlf⟩ : ∃ lf, leastF x r = lf := ⟨_, rfl⟩
          obtain ⟨mf, hmf⟩ : ∃ mf, mostF x r = mf := ⟨_, rfl⟩
          have HEX := Lib.hid (fun gf lb mine w hit eg hm => hlf ▸ hmf ▸ extremes_of gf lb mine x r w hit eg hm)
          rw [hlf, hmf] at HCH
          clear hlf hmf
          rcases hways with ⟨hw1, hw2⟩ | ⟨hw1, hw2⟩
          all_goals
            rw [hw2]
            clear hw2
            go_enter Try.func16, Try.ntmps16
            go_wp2_with (first | (go_at_call 61; refine (HSO.out _).mono ?_; rintro e w2 ⟨rfl, hb2⟩; obtain ⟨k0, hB, hz⟩ := one_read hb2; have HB2 := Lib.hid hB; have HU2 := Lib.hid (HU.out.kept hB); clear k0 hB hb2 hz) | (go_at_call 62; refine (HSK.out _ (HU2.out.kept (box2_below _ _ _))).mono ?_; rintro e w3 ⟨rfl, hb3⟩; obtain ⟨k9, k10, hB3, hz3⟩ := two_read hb3; have HB3 := Lib.hid (HB2.out.trans (hB3.mono HB2.out.size)); have K9 := Lib.hid k9; have K10 := Lib.hid k10; have HP3 := Lib.hid (HP.out.kept HB3.out); obtain ⟨y0, -⟩ := k10.2 0 (by simp); obtain ⟨y1, -⟩ := k10.2 1 (by simp); obtain ⟨y2, -⟩ := k10.2 2 (by simp); simp at y0 y1 y2; clear k9 k10 hB3 hb3 hz3) | (go_at_call 63; refine (HPK.out _ HP3.out).mono ?_; rintro e w4 ⟨rfl, hb4⟩; have K94 := Lib.hid (K9.out.kept hb4); have K104 := Lib.hid (K10.out.kept hb4); have HB4 := Lib.hid (HB3.out.trans (hb4.mono HB3.out.size)); clear y0 y1 y2; obtain ⟨x0, -⟩ := K94.out.2 0 (by simp); obtain ⟨x1, -⟩ := K94.out.2 1 (by simp); obtain ⟨x2, -⟩ := K94.out.2 2 (by simp); obtain ⟨y0, -⟩ := K104.out.2 0 (by simp); obtain ⟨y1, -⟩ := K104.out.2 1 (by simp); obtain ⟨y2, -⟩ := K104.out.2 2 (by simp); simp at x0 x1 x2 y0 y1 y2; clear hb4) | (go_at_call 64; refine (bounds_fn _ _ _ _ _ _ _ _ _ _).mono ?_; rintro e w5 ⟨rfl, hw5⟩; obtain ⟨z0, z1, z2, hB5, hz5⟩ := boxes131 hw5; have Z0 := Lib.hid z0; have Z1 := Lib.hid z1; have Z2 := Lib.hid z2; have HZ5 := Lib.hid hz5; have HB5 := Lib.hid (HB4.out.trans (hB5.mono HB4.out.size)); have K95 := Lib.hid (K94.out.kept hB5); have HU5 := Lib.hid (HU.out.kept HB5.out); have HP5 := Lib.hid (HP.out.kept HB5.out); clear z0 z1 z2 hB5 hz5 hw5 x0 x1 x2 y0 y1 y2) | (go_at_call 51; refine (HEX.out _ _ _ _ (HIT.out _ _ _ _ Z0.out Z2.out Z1.out HU5.out HP5.out) enters_bounds (mine_lt Z0.out.1 Z2.out.1 Z1.out.1 HU5.out HP5.out)).mono ?_; rintro e w6 ⟨rfl, hb6⟩; have K96 := Lib.hid (K95.out.kept hb6); have HB6 := Lib.hid (HB5.out.trans (hb6.mono HB5.out.size)); obtain ⟨x0, -⟩ := K96.out.2 0 (by simp); obtain ⟨x1, -⟩ := K96.out.2 1 (by simp); obtain ⟨x2, -⟩ := K96.out.2 2 (by simp); simp at x0 x1 x2; clear hb6) | (go_at_call 66; refine (HCH.out _).mono ?_; rintro e w7 ⟨rfl, hb7⟩; have HB7 := Lib.hid (HB6.out.trans (hb7.mono HB6.out.size)); clear hb7 x0 x1 x2))
            go_ret
            exact ⟨ret1I (by first | rfl | omega), HB7.out⟩
end Go.Proofs.Ytcjjdnfikccnmaa.BndU
