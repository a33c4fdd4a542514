/- WantOf: the model's side. -/
import Derived.Test.YtimpajhgplkpmaaWant
namespace Go.Proofs.Ytimpajhgplkpmaa.WantS
open Go.RowKit
open Go.Proofs.Ytimpajhgplkpmaa.C1
open Go.Proofs.Ytimpajhgplkpmaa.C2
open Go.Proofs.Ytimpajhgplkpmaa.Smps
open Go.Proofs.Ytimpajhgplkpmaa.Mem
open Go.Proofs.Ytimpajhgplkpmaa.Pd
open Go.Proofs.Ytimpajhgplkpmaa.Gl
open Go.Proofs.Ytimpajhgplkpmaa.Rs
open Go.Proofs.Ytimpajhgplkpmaa.Bd
open Go.Proofs.Ytimpajhgplkpmaa.Rf
open Go.Proofs.Ytimpajhgplkpmaa.Want
set_option linter.unusedVariables false

set_option maxHeartbeats 4000000 in
theorem spec_wantof (c : Int) (t : Ty) (g : Gl) (hg : g.wf) (v : Int) (hv : wantV c t g = v) (w : World) :
    Calls Try.prog 15 #[.int .i64 c, tyV t, glV g] w fun e w' => e = .returned (.int .i64 v) ∧ Below w.heap.size w w' := by
  have hus := fun W => spec_usable t W
  have hgo := fun W => spec_goalok g hg W
  have HV := Lib.hid hv
  clear hv
  unfold tyV glV
  unfold tyV at hus
  unfold glV at hgo
  have HA := Lib.hid (box2_cells w #[.int .i64 t.rdy, .int .i64 t.unr, .int .i64 t.mis, .int .i64 t.sum] #[.string g.met, .int .i64 g.tar, .int .i64 g.tol] 25 27)
  have H0 := Lib.hid (box2_below w (.cells #[.int .i64 t.rdy, .int .i64 t.unr, .int .i64 t.mis, .int .i64 t.sum] 25) (.cells #[.string g.met, .int .i64 g.tar, .int .i64 g.tol] 27))
  obtain ⟨W0, hW0⟩ : ∃ W0, (w.alloc (.cells #[.int .i64 t.rdy, .int .i64 t.unr, .int .i64 t.mis, .int .i64 t.sum] 25)).alloc (.cells #[.string g.met, .int .i64 g.tar, .int .i64 g.tol] 27) = W0 := ⟨_, rfl⟩
  rw [hW0] at HA H0
  have HW := Lib.hid hW0
  clear hW0
  obtain ⟨y0, y1, y2, y3⟩ := cells4 HA.out.1
  cases c1 : inB c 0 1000
  · obtain rfl : -1 = v := by rw [← HV.out, want_no (.inl c1)]
    have hb0 := H0.out
    go_enter Try.func15, Try.ntmps15
    go_wp2_with (go_at_call 56; refine (spec_count _ _).mono ?_; rintro e w' ⟨rfl, rfl⟩)
    rw [HW.out]
    go_ret
    exact ⟨rfl, H0.out⟩
  · cases c2 : okU t
    · obtain rfl : -1 = v := by rw [← HV.out, want_no (.inr (.inl c2))]
      rw [c2] at hus
      clear c2
      go_enter Try.func15, Try.ntmps15
      go_wp2_with (go_at_call 56; refine (spec_count _ _).mono ?_; rintro e w' ⟨rfl, rfl⟩)
      rw [HW.out]
      refine (hus _).mono ?_
      rintro e w1 ⟨rfl, hb1⟩
      have HB1 := Lib.hid (H0.out.trans (hb1.mono H0.out.size))
      clear hb1
      go_wp2
      go_ret
      exact ⟨rfl, HB1.out⟩
    · rw [c2] at hus
      have C2 := Lib.hid c2
      clear c2
      go_enter Try.func15, Try.ntmps15
      go_wp2_with (go_at_call 56; refine (spec_count _ _).mono ?_; rintro e w' ⟨rfl, rfl⟩)
      rw [HW.out]
      refine (hus _).mono ?_
      rintro e w1 ⟨rfl, hb1⟩
      have HB1 := Lib.hid (H0.out.trans (hb1.mono H0.out.size))
      have HT1 := Lib.hid (HA.out.1.kept hb1)
      have HG1 := Lib.hid (HA.out.2.kept hb1)
      clear hb1 y0 y1 y2 y3
      obtain ⟨z0, z1, z2⟩ := cells3 HG1.out
      cases c3 : okG g
      · obtain rfl : -1 = v := by rw [← HV.out, want_no (.inr (.inr c3))]
        rw [c3] at hgo
        clear c3
        go_wp2_with fail
        refine (hgo _).mono ?_
        rintro e w2 ⟨rfl, hb2⟩
        have HB2 := Lib.hid (HB1.out.trans (hb2.mono HB1.out.size))
        clear hb2
        go_wp2
        go_ret
        exact ⟨rfl, HB2.out⟩
      · rw [c3] at hgo
        have hV : smV c t g = v := by rw [sm_same c t g C2.out c3, ← want_yes c1 C2.out c3]; exact HV.out
        obtain ⟨-, ⟨t1, t2⟩, -⟩ := (okG_iff g).1 c3
        obtain ⟨s1, s2, n1, n2, -, -⟩ := bd_refill t g.tar C2.out (in_yes t1 t2)
        have hrf := fun W => spec_refillof t g hg _ _ (rf_yes C2.out c3).1 (rf_yes C2.out c3).2 W
        have hq1 := fun W => spec_sign t.sum t.rdy g.tar W
        have hq2 := fun W => spec_sign (rS t g.tar) (rN t g.tar) g.tar W
        have hb1 := fun W => spec_inband t.sum t.rdy g hg W
        have hb2 := fun W => spec_inband (rS t g.tar) (rN t g.tar) g hg W
        have hcd := fun W => spec_ceil (rS t g.tar) g.tar W ⟨by omega, by omega⟩
        unfold smV at hV
        generalize rsV t.sum t.rdy g.tar = q1 at hq1 hV
        generalize rsV (rS t g.tar) (rN t g.tar) g.tar = q2 at hq2 hV
        generalize bandV t.sum t.rdy g = e1 at hb1 hV
        generalize bandV (rS t g.tar) (rN t g.tar) g = e2 at hb2 hV
        generalize clD (rS t g.tar) g.tar = y at hcd hV
        generalize rS t g.tar = S at *
        generalize rN t g.tar = M at *
        have HVV := Lib.hid hV
        have HRF := Lib.hid hrf
        have HQ1 := Lib.hid hq1
        have HQ2 := Lib.hid hq2
        have HE1 := Lib.hid hb1
        have HE2 := Lib.hid hb2
        have HCD := Lib.hid hcd
        unfold tyV glV at HRF
        unfold glV at HE1 HE2
        clear hV hrf hq1 hq2 hb1 hb2 hcd c3 HV C2
        go_wp2_with fail
        refine (hgo _).mono ?_
        rintro e w2 ⟨rfl, hb⟩
        have HB2 := Lib.hid (HB1.out.trans (hb.mono HB1.out.size))
        have HT2 := Lib.hid (HT1.out.kept hb)
        have HG2 := Lib.hid (HG1.out.kept hb)
        clear hb z0 z1 z2
        obtain ⟨y0, y1, y2, y3⟩ := cells4 HT2.out
        obtain ⟨z0, z1, z2⟩ := cells3 HG2.out
        go_wp2_with fail
        refine (HRF.out _).mono ?_
        rintro e w3 ⟨rfl, hb⟩
        have HB3 := Lib.hid (HB2.out.trans (hb.mono HB2.out.size))
        have HT3 := Lib.hid (HT2.out.kept hb)
        have HG3 := Lib.hid (HG2.out.kept hb)
        clear hb z0 z1 z2 y0 y1 y2 y3
        obtain ⟨y0, y1, y2, y3⟩ := cells4 HT3.out
        obtain ⟨z0, z1, z2⟩ := cells3 HG3.out
        go_wp2_with fail
        refine (HQ1.out _).mono ?_
        rintro e w' ⟨rfl, rfl⟩
        go_wp2_with fail
        refine (HQ2.out _).mono ?_
        rintro e w' ⟨rfl, rfl⟩
        by_cases hc0 : c = 0
        · have hcb : (c == 0) = true := by rw [beq_iff_eq]; exact hc0
          obtain rfl : c = v := by rw [← HVV.out, if_pos (.inl hc0)]
          clear hc0 HVV
          go_wp2
          go_ret
          exact ⟨rfl, HB3.out⟩
        · have hcb : (c == 0) = false := by rw [beq_eq_false_iff_ne]; exact hc0
          have HC0 := Lib.hid hc0
          clear hc0
          cases e1
          · go_wp2_with fail
            refine (HE1.out _).mono ?_
            rintro e w4 ⟨rfl, hb⟩
            have HB4 := Lib.hid (HB3.out.trans (hb.mono HB3.out.size))
            have HG4 := Lib.hid (HG3.out.kept hb)
            clear hb z0 z1 z2 y0 y1 y2 y3
            obtain ⟨z0, z1, z2⟩ := cells3 HG4.out
            cases e2
            · go_wp2_with fail
              refine (HE2.out _).mono ?_
              rintro e w5 ⟨rfl, hb⟩
              have HB5 := Lib.hid (HB4.out.trans (hb.mono HB4.out.size))
              have HG5 := Lib.hid (HG4.out.kept hb)
              clear hb z0 z1 z2
              by_cases hqq : q1 = q2
              · have hqn : (q1 != q2) = false := by rw [hqq]; simp
                have HVN : Hid ((if q2 = 1 ∧ min y 1000 < c ∨ q2 = -1 ∧ c < min y 1000 then c else min y 1000) = v) := by
                  have hneg : ¬ (c = 0 ∨ false = true ∨ false = true ∨ q1 ≠ q2) := by
                    rintro (h | h | h | h)
                    · exact HC0.out h
                    · cases h
                    · cases h
                    · exact h hqq
                  exact (if_neg hneg).symm.trans HVV.out
                obtain ⟨z0, z1, z2⟩ := cells3 HG5.out
                clear hqq HVV
                go_wp2_with fail
                refine (HCD.out _).mono ?_
                rintro e w' ⟨rfl, rfl⟩
                by_cases hy : 1000 < y
                · have HY : Hid (min y 1000 = 1000) := by show _ = _; omega
                  rw [HY.out] at HVN
                  by_cases a1 : q2 = 1
                  · have b1 : (q2 == 1) = true := by rw [beq_iff_eq]; exact a1
                    have b2 : (q2 == -1) = false := by rw [beq_eq_false_iff_ne]; omega
                    have A1 := Lib.hid a1
                    clear a1
                    by_cases a3 : 1000 < c
                    all_goals
                      go_wp2
                      go_ret
                      exact ⟨ret1I (by rw [← HVN.out]; have := A1.out; split <;> omega), HB5.out⟩
                  · have b1 : (q2 == 1) = false := by rw [beq_eq_false_iff_ne]; exact a1
                    have A1 := Lib.hid a1
                    clear a1
                    by_cases a2 : q2 = -1
                    · have b2 : (q2 == -1) = true := by rw [beq_iff_eq]; exact a2
                      have A2 := Lib.hid a2
                      clear a2
                      by_cases a3 : c < 1000
                      all_goals
                        go_wp2
                        go_ret
                        exact ⟨ret1I (by rw [← HVN.out]; have := A1.out; have := A2.out; split <;> omega), HB5.out⟩
                    · have b2 : (q2 == -1) = false := by rw [beq_eq_false_iff_ne]; exact a2
                      have A2 := Lib.hid a2
                      clear a2
                      go_wp2
                      go_ret
                      exact ⟨ret1I (by rw [← HVN.out]; have := A1.out; have := A2.out; split <;> omega), HB5.out⟩
                · have HY : Hid (min y 1000 = y) := by show _ = _; omega
                  rw [HY.out] at HVN
                  by_cases a1 : q2 = 1
                  · have b1 : (q2 == 1) = true := by rw [beq_iff_eq]; exact a1
                    have b2 : (q2 == -1) = false := by rw [beq_eq_false_iff_ne]; omega
                    have A1 := Lib.hid a1
                    clear a1
                    by_cases a3 : y < c
                    all_goals
                      go_wp2
                      go_ret
                      exact ⟨ret1I (by rw [← HVN.out]; have := A1.out; split <;> omega), HB5.out⟩
                  · have b1 : (q2 == 1) = false := by rw [beq_eq_false_iff_ne]; exact a1
                    have A1 := Lib.hid a1
                    clear a1
                    by_cases a2 : q2 = -1
                    · have b2 : (q2 == -1) = true := by rw [beq_iff_eq]; exact a2
                      have A2 := Lib.hid a2
                      clear a2
                      by_cases a3 : c < y
                      all_goals
                        go_wp2
                        go_ret
                        exact ⟨ret1I (by rw [← HVN.out]; have := A1.out; have := A2.out; split <;> omega), HB5.out⟩
                    · have b2 : (q2 == -1) = false := by rw [beq_eq_false_iff_ne]; exact a2
                      have A2 := Lib.hid a2
                      clear a2
                      go_wp2
                      go_ret
                      exact ⟨ret1I (by rw [← HVN.out]; have := A1.out; have := A2.out; split <;> omega), HB5.out⟩
              · have hqn : (q1 != q2) = true := by simp [hqq]
                obtain rfl : c = v := by rw [← HVV.out, if_pos (.inr (.inr (.inr hqq)))]
                clear hqq HVV
                go_wp2
                go_ret
                exact ⟨rfl, HB5.out⟩
            · obtain rfl : c = v := by rw [← HVV.out, if_pos (.inr (.inr (.inl rfl)))]
              clear HVV
              go_wp2_with fail
              refine (HE2.out _).mono ?_
              rintro e w5 ⟨rfl, hb⟩
              have HB5 := Lib.hid (HB4.out.trans (hb.mono HB4.out.size))
              clear hb z0 z1 z2
              go_wp2
              go_ret
              exact ⟨rfl, HB5.out⟩
          · obtain rfl : c = v := by rw [← HVV.out, if_pos (.inr (.inl rfl))]
            clear HVV
            go_wp2_with fail
            refine (HE1.out _).mono ?_
            rintro e w4 ⟨rfl, hb⟩
            have HB4 := Lib.hid (HB3.out.trans (hb.mono HB3.out.size))
            clear hb z0 z1 z2 y0 y1 y2 y3
            go_wp2
            go_ret
            exact ⟨rfl, HB4.out⟩
end Go.Proofs.Ytimpajhgplkpmaa.WantS
