/- The model's SideOk and BehaveOk. -/
import Derived.Test.YtgmdfkmmbcpikaaGreatLogS
namespace Go.Proofs.YtgmdfkmmbcpikaaGreat.SdS
open Go.RowKit
open Go.Proofs.YtgmdfkmmbcpikaaGreat.C1
open Go.Proofs.YtgmdfkmmbcpikaaGreat.C2
open Go.Proofs.YtgmdfkmmbcpikaaGreat.Smps
open Go.Proofs.YtgmdfkmmbcpikaaGreat.Mem
open Go.Proofs.YtgmdfkmmbcpikaaGreat.Ser2 (cells_new)
open Go.Proofs.YtgmdfkmmbcpikaaGreat.Pl
open Go.Proofs.YtgmdfkmmbcpikaaGreat.BhM
open Go.Proofs.YtgmdfkmmbcpikaaGreat.LogS
set_option linter.unusedVariables false

theorem side_no {s : Sd} (h : ¬ (s.ps.length ≤ 3 ∧ inV s.sel 0 2 = true ∧ inV s.win 0 1000 = true ∧ ∀ p ∈ s.ps, polV p = true)) : sideV s = false := by
  cases c : sideV s
  · rfl
  · simp only [sideV, Bool.and_eq_true, decide_eq_true_eq, List.all_eq_true] at c
    exact absurd c h
theorem side_yes {s : Sd} (h : s.ps.length ≤ 3 ∧ inV s.sel 0 2 = true ∧ inV s.win 0 1000 = true ∧ ∀ p ∈ s.ps, polV p = true) : sideV s = true := by
  simp only [sideV, Bool.and_eq_true, decide_eq_true_eq, List.all_eq_true]
  exact h
theorem pol_no {p : Pl} (h : inV p.kd 0 1 = false ∨ inV p.va 1 1000 = false ∨ inV p.pe 1 1000 = false) : polV p = false := by
  unfold polV
  rcases h with h | h | h <;> rw [h] <;> simp
theorem pol_yes {p : Pl} (h1 : inV p.kd 0 1 = true) (h2 : inV p.va 1 1000 = true) (h3 : inV p.pe 1 1000 = true) : polV p = true := by
  unfold polV
  rw [h1, h2, h3]; rfl
set_option maxHeartbeats 1000000 in
set_option maxRecDepth 20000 in
theorem spec_sideok (s : Sd) (a : Option Addr) (cap : Nat) (w : World) (h : Pls w a s.ps) (hm : s.ps.length ≤ 9223372036854775807) :
    Calls Tryz.prog 112 #[sdV s a cap] w fun e w' => e = .returned (.bool (sideV s)) ∧ Below w.heap.size w w' := by
  obtain ⟨b, off, ha, hb, hcell⟩ := h.cells
  unfold sdV
  by_cases hbig : 3 < s.ps.length
  · have HN := Lib.hid (side_no (s := s) (fun h => by omega))
    clear h hcell ha hb
    go_enter Tryz.func112, Tryz.ntmps112
    go_wp2
    go_ret
    exact ⟨ret1B HN.out.symm, box_below _ _ _⟩
  · have HL := Lib.hid (show s.ps.length ≤ 3 by omega)
    cases d1 : inV s.sel 0 2
    · have HN := Lib.hid (side_no (s := s) (fun h => by rw [d1] at h; exact Bool.false_ne_true h.2.1))
      clear h hcell ha hb
      go_enter Tryz.func112, Tryz.ntmps112
      go_wp2_with (go_at_call 31; refine (spec_in6 _ _ _ _).mono ?_; rw [d1]; rintro e w' ⟨rfl, rfl⟩)
      go_ret
      exact ⟨ret1B HN.out.symm, box_below _ _ _⟩
    · cases d2 : inV s.win 0 1000
      · have HN := Lib.hid (side_no (s := s) (fun h => by rw [d2] at h; exact Bool.false_ne_true h.2.2.1))
        clear h hcell ha hb
        go_enter Tryz.func112, Tryz.ntmps112
        go_wp2_with (go_at_call 31; refine (spec_in6 _ _ _ _).mono ?_; (first | rw [d1] | rw [d2]); rintro e w' ⟨rfl, rfl⟩)
        go_ret
        exact ⟨ret1B HN.out.symm, box_below _ _ _⟩
      · have D1 := Lib.hid d1
        have D2 := Lib.hid d2
        have Hc := Lib.hid hcell
        have Ha := Lib.hid ha
        have Hb := Lib.hid hb
        have HB0 := Lib.hid (box_below w #[.slice a s.ps.length cap, .int .i64 s.sel, .int .i64 s.win] 44)
        have HK0 := Lib.hid (cells_new w #[.slice a s.ps.length cap, .int .i64 s.sel, .int .i64 s.win] 44)
        clear h hcell ha hb
        go_enter Tryz.func112, Tryz.ntmps112
        go_wp2_with (go_at_call 31; refine (spec_in6 _ _ _ _).mono ?_; (first | rw [d1] | rw [d2]); rintro e w' ⟨rfl, rfl⟩)
        clear d1 d2
        obtain ⟨w1, hw1⟩ : ∃ w1, w.alloc (.cells #[.slice a s.ps.length cap, .int .i64 s.sel, .int .i64 s.win] 44) = w1 := ⟨_, rfl⟩
        rw [hw1] at HB0 HK0 ⊢
        clear hw1
        go_loopw [3] (fun i wr => ∃ k : Nat, k ≤ s.ps.length ∧ i = .int .i64 k ∧ Hid (∀ (j : Nat) (hj : j < s.ps.length), j < k → polV s.ps[j] = true) ∧ Hid (Below w1.heap.size w1 wr)) (fun i _ => s.ps.length - (intOf i).toNat)
        case atStart => exact ⟨0, Nat.zero_le _, rfl, fun j hj h => absurd h (by omega), Below.refl _ _⟩
        case round =>
          obtain ⟨k, hk, rfl, HS, HB⟩ := hrel
          have HKr := Lib.hid (HK0.out.kept HB.out)
          obtain ⟨c0, -⟩ := HKr.out.2 0 (by simp)
          simp at c0
          by_cases hlt : k < s.ps.length
          · obtain rfl := Ha.out (by omega)
            obtain ⟨l, hl⟩ : ∃ l, s.ps[k] = l := ⟨_, rfl⟩
            have hbw := Hb.out (by omega)
            have hq := ((Hc.out k hlt).kept HB0.out hbw).kept HB.out (Nat.lt_of_lt_of_le hbw HB0.out.size)
            rw [hl] at hq
            obtain ⟨q0, q1, q2⟩ := hq
            have HNO : Hid (polV l = false → sideV s = false) := fun hn => side_no fun h => by have := h.2.2.2 l (by rw [← hl]; exact List.getElem_mem hlt); rw [hn] at this; cases this
            have HOK : Hid (polV l = true → ∀ (j : Nat) (hj : j < s.ps.length), j < k + 1 → polV s.ps[j] = true) := fun h i hi hik => by
              by_cases e : i = k
              · subst e; rw [hl]; exact h
              · exact HS.out i hi (by omega)
            have HBX := Lib.hid (HB.out.alloc HB.out.size (.cells #[.int .i64 l.kd, .int .i64 l.va, .int .i64 l.pe] 195))
            have HBY := Lib.hid (HB0.out.trans (HBX.out.mono HB0.out.size))
            clear hl hbw
            cases e1 : inV l.kd 0 1
            · have HF := Lib.hid (HNO.out (pol_no (.inl e1)))
              go_wp2_with (go_at_call 31; refine (spec_in6 _ _ _ _).mono ?_; rw [e1]; rintro e w' ⟨rfl, rfl⟩)
              go_ret
              exact ⟨ret1B HF.out.symm, HBY.out⟩
            · cases e2 : inV l.va 1 1000
              · have HF := Lib.hid (HNO.out (pol_no (.inr (.inl e2))))
                go_wp2_with (go_at_call 31; refine (spec_in6 _ _ _ _).mono ?_; (first | rw [e1] | rw [e2]); rintro e w' ⟨rfl, rfl⟩)
                go_ret
                exact ⟨ret1B HF.out.symm, HBY.out⟩
              · cases e3 : inV l.pe 1 1000
                · have HF := Lib.hid (HNO.out (pol_no (.inr (.inr e3))))
                  go_wp2_with (go_at_call 31; refine (spec_in6 _ _ _ _).mono ?_; (first | rw [e1] | rw [e2] | rw [e3]); rintro e w' ⟨rfl, rfl⟩)
                  go_ret
                  exact ⟨ret1B HF.out.symm, HBY.out⟩
                · have HSN := Lib.hid (HOK.out (pol_yes e1 e2 e3))
                  go_wp2_with (go_at_call 31; refine (spec_in6 _ _ _ _).mono ?_; (first | rw [e1] | rw [e2] | rw [e3]); rintro e w' ⟨rfl, rfl⟩)
                  clear e1 e2 e3
                  go_roundw
                  case rel => exact ⟨k + 1, by omega, by go_num, HSN.out, HBX.out⟩
                  case measure => simp [intOf]; omega
          · obtain rfl : k = s.ps.length := by omega
            have HF := Lib.hid (side_yes (s := s) ⟨HL.out, D1.out, D2.out, fun p hp => by
              obtain ⟨j, hj, rfl⟩ := List.mem_iff_getElem.1 hp
              exact HS.out j hj hj⟩)
            have HBZ := Lib.hid (HB0.out.trans (HB.out.mono HB0.out.size))
            go_wp2
            go_ret
            exact ⟨ret1B HF.out.symm, HBZ.out⟩
theorem beh_no {b : Bh} (h : ¬ (sideV b.up = true ∧ sideV b.dn = true ∧ inV b.mx 0 1000 = true ∧ inV b.mn 0 b.mx = true)) : behV b = false := by
  cases c : behV b
  · rfl
  · simp only [behV, Bool.and_eq_true] at c
    exact absurd c h
theorem beh_yes {b : Bh} (h : sideV b.up = true ∧ sideV b.dn = true ∧ inV b.mx 0 1000 = true ∧ inV b.mn 0 b.mx = true) : behV b = true := by
  simp only [behV, Bool.and_eq_true]
  exact h
set_option maxHeartbeats 1000000 in
set_option maxRecDepth 20000 in
theorem spec_behok (b : Bh) (a : Option Addr) (c : Nat) (a' : Option Addr) (c' : Nat) (w : World) (h : Pls w a b.up.ps) (h' : Pls w a' b.dn.ps) (hm : b.up.ps.length ≤ 9223372036854775807) (hm' : b.dn.ps.length ≤ 9223372036854775807) :
    Calls Tryz.prog 62 #[bhV b a c a' c'] w fun e w' => e = .returned (.bool (behV b)) ∧ Below w.heap.size w w' := by
  unfold bhV
  have hup := fun w h => spec_sideok b.up a c w h hm
  have hdn := fun w h => spec_sideok b.dn a' c' w h hm'
  unfold sdV at hup hdn
  have HU := Lib.hid (h.kept (box_below w #[.slice a b.up.ps.length c, .int .i64 b.up.sel, .int .i64 b.up.win, .slice a' b.dn.ps.length c', .int .i64 b.dn.sel, .int .i64 b.dn.win, .int .i64 b.mn, .int .i64 b.mx] 46))
  have HD := Lib.hid (h'.kept (box_below w #[.slice a b.up.ps.length c, .int .i64 b.up.sel, .int .i64 b.up.win, .slice a' b.dn.ps.length c', .int .i64 b.dn.sel, .int .i64 b.dn.win, .int .i64 b.mn, .int .i64 b.mx] 46))
  clear h h'
  cases e1 : sideV b.up
  · have HN := Lib.hid (beh_no (b := b) (fun h => by rw [e1] at h; exact Bool.false_ne_true h.1))
    rw [e1] at hup
    have HUP := Lib.hid hup
    clear hup hdn e1
    go_enter Tryz.func62, Tryz.ntmps62
    go_wp2_with (go_at_call 112; refine (HUP.out _ HU.out).mono ?_; rintro e w2 ⟨rfl, hb2⟩; obtain ⟨k0, hB, hz⟩ := one_read hb2; have HB2 := Lib.hid hB; obtain ⟨c0, f0⟩ := k0.2 0 (by simp); obtain ⟨c1, f1⟩ := k0.2 1 (by simp); obtain ⟨c2, f2⟩ := k0.2 2 (by simp); obtain ⟨c3, f3⟩ := k0.2 3 (by simp); obtain ⟨c4, f4⟩ := k0.2 4 (by simp); obtain ⟨c5, f5⟩ := k0.2 5 (by simp); obtain ⟨c6, f6⟩ := k0.2 6 (by simp); obtain ⟨c7, f7⟩ := k0.2 7 (by simp); simp at c0 c1 c2 c3 c4 c5 c6 c7; clear k0 hB hb2 hz)
    go_ret
    exact ⟨ret1B HN.out.symm, HB2.out⟩
  · cases e2 : sideV b.dn
    · have HN := Lib.hid (beh_no (b := b) (fun h => by rw [e2] at h; exact Bool.false_ne_true h.2.1))
      rw [e1] at hup
      rw [e2] at hdn
      have HUP := Lib.hid hup
      have HDN := Lib.hid hdn
      clear hup hdn e1 e2
      go_enter Tryz.func62, Tryz.ntmps62
      go_wp2_with (go_at_call 112; refine (HUP.out _ HU.out).mono ?_; rintro e w2 ⟨rfl, hb2⟩; obtain ⟨k0, hB, hz⟩ := one_read hb2; have HB2 := Lib.hid hB; have HD2 := Lib.hid (HD.out.kept hb2); obtain ⟨c0, f0⟩ := k0.2 0 (by simp); obtain ⟨c1, f1⟩ := k0.2 1 (by simp); obtain ⟨c2, f2⟩ := k0.2 2 (by simp); obtain ⟨c3, f3⟩ := k0.2 3 (by simp); obtain ⟨c4, f4⟩ := k0.2 4 (by simp); obtain ⟨c5, f5⟩ := k0.2 5 (by simp); obtain ⟨c6, f6⟩ := k0.2 6 (by simp); obtain ⟨c7, f7⟩ := k0.2 7 (by simp); simp at c0 c1 c2 c3 c4 c5 c6 c7; clear k0 hB hb2 hz HUP)
      go_wp2_with (go_at_call 112; refine (HDN.out _ HD2.out).mono ?_; rintro e w3 ⟨rfl, hb3⟩; have HB3 := Lib.hid (HB2.out.trans (hb3.mono HB2.out.size)); clear hb3)
      go_ret
      exact ⟨ret1B HN.out.symm, HB3.out⟩
    · have HV : Hid (behV b = (inV b.mx 0 1000 && inV b.mn 0 b.mx)) := by show _ = _; unfold behV; rw [e1, e2]; rfl
      rw [e1] at hup
      rw [e2] at hdn
      have HUP := Lib.hid hup
      have HDN := Lib.hid hdn
      clear hup hdn e1 e2
      rw [HV.out]
      cases e3 : inV b.mx 0 1000
      all_goals
        go_enter Tryz.func62, Tryz.ntmps62
        go_wp2_with (go_at_call 112; refine (HUP.out _ HU.out).mono ?_; rintro e w2 ⟨rfl, hb2⟩; obtain ⟨k0, hB, hz⟩ := one_read hb2; have HB2 := Lib.hid hB; have HD2 := Lib.hid (HD.out.kept hb2); have HK2 := Lib.hid k0; obtain ⟨c0, f0⟩ := k0.2 0 (by simp); obtain ⟨c1, f1⟩ := k0.2 1 (by simp); obtain ⟨c2, f2⟩ := k0.2 2 (by simp); obtain ⟨c3, f3⟩ := k0.2 3 (by simp); obtain ⟨c4, f4⟩ := k0.2 4 (by simp); obtain ⟨c5, f5⟩ := k0.2 5 (by simp); obtain ⟨c6, f6⟩ := k0.2 6 (by simp); obtain ⟨c7, f7⟩ := k0.2 7 (by simp); simp at c0 c1 c2 c3 c4 c5 c6 c7; clear k0 hB hb2 hz HUP)
        refine (HDN.out _ HD2.out).mono ?_
        rintro e w3 ⟨rfl, hb3⟩
        have HB3 := Lib.hid (HB2.out.trans (hb3.mono HB2.out.size))
        have k0 := HK2.out.kept hb3
        clear c0 c1 c2 c3 c4 c5 c6 c7 f0 f1 f2 f3 f4 f5 f6 f7 hb3
        obtain ⟨c0, f0⟩ := k0.2 0 (by simp)
        obtain ⟨c1, f1⟩ := k0.2 1 (by simp)
        obtain ⟨c2, f2⟩ := k0.2 2 (by simp)
        obtain ⟨c3, f3⟩ := k0.2 3 (by simp)
        obtain ⟨c4, f4⟩ := k0.2 4 (by simp)
        obtain ⟨c5, f5⟩ := k0.2 5 (by simp)
        obtain ⟨c6, f6⟩ := k0.2 6 (by simp)
        obtain ⟨c7, f7⟩ := k0.2 7 (by simp)
        simp at c0 c1 c2 c3 c4 c5 c6 c7
        clear k0
        go_wp2_with (go_at_call 31; refine (spec_in6 _ _ _ _).mono ?_; (first | rw [e3] | skip); rintro e w' ⟨rfl, rfl⟩)
        go_ret
        exact ⟨ret1B (by simp), HB3.out⟩
end Go.Proofs.YtgmdfkmmbcpikaaGreat.SdS
