/- The model's SideOk and BehaveOk. -/
import Derived.Test.YtcjjdnfikccnmaaDoorLogS
namespace Go.Proofs.YtcjjdnfikccnmaaDoor.SdS
open Go.RowKit
open Go.Proofs.YtcjjdnfikccnmaaDoor.C1
open Go.Proofs.YtcjjdnfikccnmaaDoor.C2
open Go.Proofs.YtcjjdnfikccnmaaDoor.Smps
open Go.Proofs.YtcjjdnfikccnmaaDoor.Mem
open Go.Proofs.YtcjjdnfikccnmaaDoor.Ser2 (cells_new)
open Go.Proofs.YtcjjdnfikccnmaaDoor.Pl
open Go.Proofs.YtcjjdnfikccnmaaDoor.BhM
open Go.Proofs.YtcjjdnfikccnmaaDoor.LogS
set_option linter.unusedVariables false

theorem side_no {s : Sd} (h : ¬ (s.ps.length ≤ 3 ∧ inV s.sel 0 2 = true ∧ inV s.win 0 1000 = true ∧ ∀ p ∈ s.ps, polV p = true)) : sideV s = false := by
  cases c : sideV s
  · rfl
  · simp only [sideV, Bool.and_eq_true, decide_eq_true_eq, List.all_eq_true] at c
    exact absurd c h
theorem side_yes {s : Sd} (h : s.ps.length ≤ 3 ∧ inV s.sel 0 2 = true ∧ inV s.win 0 1000 = true ∧ ∀ p ∈ s.ps, polV p = true) : sideV s = true := by
  simp only [sideV, Bool.and_eq_true, decide_eq_true_eq, List.all_eq_true]
  exact h
theorem pol_no {p : Pl} (h : inV p.kd 0 1 = false ∨ inV p.va 1 1000 = false ∨ inV p.pe 1 1000 = false) : polV p = false := by
  unfold polV
  rcases h with h | h | h <;> rw [h] <;> simp
theorem pol_yes {p : Pl} (h1 : inV p.kd 0 1 = true) (h2 : inV p.va 1 1000 = true) (h3 : inV p.pe 1 1000 = true) : polV p = true := by
  unfold polV
  rw [h1, h2, h3]; rfl
set_option maxHeartbeats 1000000 in
set_option maxRecDepth 20000 in
theorem spec_sideok (s : Sd) (a : Option Addr) (cap : Nat) (w : World) (h : Pls w a s.ps) (hm : s.ps.length ≤ 9223372036854775807) :
    Calls Tryd.prog 10 #[sdV s a cap] w fun e w' => e = .returned (.bool (sideV s)) ∧ Below w.heap.size w w' := by
  obtain ⟨b, off, ha, hb, hcell⟩ := h.cells
  unfold sdV
  by_cases hbig : 3 < s.ps.length
  · have HN := Lib.hid (side_no (s := s) (fun h => by omega))
    clear h hcell ha hb
    go_enter Tryd.func10, Tryd.ntmps10
    go_wp2
    go_ret
    exact ⟨ret1B HN.out.symm, box_below _ _ _⟩
  · have HL := Lib.hid (show s.ps.length ≤ 3 by omega)
    cases d1 : inV s.sel 0 2
    · have HN := Lib.hid (side_no (s := s) (fun h => by rw [d1] at h; exact Bool.false_ne_true h.2.1))
      clear h hcell ha hb
      go_enter Tryd.func10, Tryd.ntmps10
      go_wp2_with (go_at_call 16; refine (spec_in6 _ _ _ _).mono ?_; rw [d1]; rintro e w' ⟨rfl, rfl⟩)
      go_ret
      exact ⟨ret1B HN.out.symm, box_below _ _ _⟩
    · cases d2 : inV s.win 0 1000
      · have HN := Lib.hid (side_no (s := s) (fun h => by rw [d2] at h; exact Bool.false_ne_true h.2.2.1))
        clear h hcell ha hb
        go_enter Tryd.func10, Tryd.ntmps10
        go_wp2_with (go_at_call 16; refine (spec_in6 _ _ _ _).mono ?_; (first | rw [d1] | rw [d2]); rintro e w' ⟨rfl, rfl⟩)
        go_ret
        exact ⟨ret1B HN.out.symm, box_below _ _ _⟩
      · have D1 := Lib.hid d1
        have D2 := Lib.hid d2
        have Hc := Lib.hid hcell
        have Ha := Lib.hid ha
        have Hb := Lib.hid hb
        have HB0 := Lib.hid (box_below w #[.slice a s.ps.length cap, .int .i64 s.sel, .int .i64 s.win] 29)
        have HK0 := Lib.hid (cells_new w #[.slice a s.ps.length cap, .int .i64 s.sel, .int .i64 s.win] 29)
        clear h hcell ha hb
        go_enter Tryd.func10, Tryd.ntmps10
        go_wp2_with (go_at_call 16; refine (spec_in6 _ _ _ _).mono ?_; (first | rw [d1] | rw [d2]); rintro e w' ⟨rfl, rfl⟩)
        clear d1 d2
        obtain ⟨w1, hw1⟩ : ∃ w1, w.alloc (.cells #[.slice a s.ps.length cap, .int .i64 s.sel, .int .i64 s.win] 29) = w1 := ⟨_, rfl⟩
        rw [hw1] at HB0 HK0 ⊢
        clear hw1
        go_loopw [3] (fun i wr => ∃ k : Nat, k ≤ s.ps.length ∧ i = .int .i64 k ∧ Hid (∀ (j : Nat) (hj : j < s.ps.length), j < k → polV s.ps[j] = true) ∧ Hid (Below w1.heap.size w1 wr)) (fun i _ => s.ps.length - (intOf i).toNat)
        case atStart => exact ⟨0, Nat.zero_le _, rfl, fun j hj h => absurd h (by omega), Below.refl _ _⟩
        case round =>
          obtain ⟨k, hk, rfl, HS, HB⟩ := hrel
          have HKr := Lib.hid (HK0.out.kept HB.out)
          obtain ⟨c0, -⟩ := HKr.out.2 0 (by simp)
          simp at c0
          by_cases hlt : k < s.ps.length
          · obtain rfl := Ha.out (by omega)
            obtain ⟨l, hl⟩ : ∃ l, s.ps[k] = l := ⟨_, rfl⟩
            have hbw := Hb.out (by omega)
            have hq := ((Hc.out k hlt).kept HB0.out hbw).kept HB.out (Nat.lt_of_lt_of_le hbw HB0.out.size)
            rw [hl] at hq
            obtain ⟨q0, q1, q2⟩ := hq
            have HNO : Hid (polV l = false → sideV s = false) := fun hn => side_no fun h => by have := h.2.2.2 l (by rw [← hl]; exact List.getElem_mem hlt); rw [hn] at this; cases this
            have HOK : Hid (polV l = true → ∀ (j : Nat) (hj : j < s.ps.length), j < k + 1 → polV s.ps[j] = true) := fun h i hi hik => by
              by_cases e : i = k
              · subst e; rw [hl]; exact h
              · exact HS.out i hi (by omega)
            have HBX := Lib.hid (HB.out.alloc HB.out.size (.cells #[.int .i64 l.kd, .int .i64 l.va, .int .i64 l.pe] 37))
            have HBY := Lib.hid (HB0.out.trans (HBX.out.mono HB0.out.size))
            clear hl hbw
            cases e1 : inV l.kd 0 1
            · have HF := Lib.hid (HNO.out (pol_no (.inl e1)))
              go_wp2_with (go_at_call 16; refine (spec_in6 _ _ _ _).mono ?_; rw [e1]; rintro e w' ⟨rfl, rfl⟩)
              go_ret
              exact ⟨ret1B HF.out.symm, HBY.out⟩
            · cases e2 : inV l.va 1 1000
              · have HF := Lib.hid (HNO.out (pol_no (.inr (.inl e2))))
                go_wp2_with (go_at_call 16; refine (spec_in6 _ _ _ _).mono ?_; (first | rw [e1] | rw [e2]); rintro e w' ⟨rfl, rfl⟩)
                go_ret
                exact ⟨ret1B HF.out.symm, HBY.out⟩
              · cases e3 : inV l.pe 1 1000
                · have HF := Lib.hid (HNO.out (pol_no (.inr (.inr e3))))
                  go_wp2_with (go_at_call 16; refine (spec_in6 _ _ _ _).mono ?_; (first | rw [e1] | rw [e2] | rw [e3]); rintro e w' ⟨rfl, rfl⟩)
                  go_ret
                  exact ⟨ret1B HF.out.symm, HBY.out⟩
                · have HSN := Lib.hid (HOK.out (pol_yes e1 e2 e3))
                  go_wp2_with (go_at_call 16; refine (spec_in6 _ _ _ _).mono ?_; (first | rw [e1] | rw [e2] | rw [e3]); rintro e w' ⟨rfl, rfl⟩)
                  clear e1 e2 e3
                  go_roundw
                  case rel => exact ⟨k + 1, by omega, by go_num, HSN.out, HBX.out⟩
                  case measure => simp [intOf]; omega
          · obtain rfl : k = s.ps.length := by omega
            have HF := Lib.hid (side_yes (s := s) ⟨HL.out, D1.out, D2.out, fun p hp => by
              obtain ⟨j, hj, rfl⟩ := List.mem_iff_getElem.1 hp
              exact HS.out j hj hj⟩)
            have HBZ := Lib.hid (HB0.out.trans (HB.out.mono HB0.out.size))
            go_wp2
            go_ret
            exact ⟨ret1B HF.out.symm, HBZ.out⟩
theorem beh_no {b : Bh} (h : ¬ (sideV b.up = true ∧ sideV b.dn = true ∧ inV b.mx 0 1000 = true ∧ inV b.mn 0 b.mx = true)) : behV b = false := by
  cases c : behV b
  · rfl
  · simp only [behV, Bool.and_eq_true] at c
    exact absurd c h
theorem beh_yes {b : Bh} (h : sideV b.up = true ∧ sideV b.dn = true ∧ inV b.mx 0 1000 = true ∧ inV b.mn 0 b.mx = true) : behV b = true := by
  simp only [behV, Bool.and_eq_true]
  exact h
end Go.Proofs.YtcjjdnfikccnmaaDoor.SdS
