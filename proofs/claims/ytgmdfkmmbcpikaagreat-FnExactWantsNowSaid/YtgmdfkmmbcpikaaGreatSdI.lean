/- The program's SideOk and BehaveOk. -/
import Derived.Test.YtgmdfkmmbcpikaaGreatBhI
import Derived.Test.YtgmdfkmmbcpikaaGreatSdS
namespace Go.Proofs.YtgmdfkmmbcpikaaGreat.SdI
open Go.RowKit
open Go.Proofs.YtgmdfkmmbcpikaaGreat.C1
open Go.Proofs.YtgmdfkmmbcpikaaGreat.C2
open Go.Proofs.YtgmdfkmmbcpikaaGreat.Smps
open Go.Proofs.YtgmdfkmmbcpikaaGreat.Mem
open Go.Proofs.YtgmdfkmmbcpikaaGreat.Ser2 (cells_new)
open Go.Proofs.YtgmdfkmmbcpikaaGreat.Pl
open Go.Proofs.YtgmdfkmmbcpikaaGreat.BhM
open Go.Proofs.YtgmdfkmmbcpikaaGreat.BhI
open Go.Proofs.YtgmdfkmmbcpikaaGreat.SdS
set_option linter.unusedVariables false

def polsV (ps : List Pl) : Bool := decide (ps.length ≤ 3) && ps.all polV
theorem pols_no {ps : List Pl} (h : ¬ (ps.length ≤ 3 ∧ ∀ p ∈ ps, polV p = true)) : polsV ps = false := by
  cases c : polsV ps
  · rfl
  · simp only [polsV, Bool.and_eq_true, decide_eq_true_eq, List.all_eq_true] at c
    exact absurd c h
theorem pols_yes {ps : List Pl} (h : ps.length ≤ 3 ∧ ∀ p ∈ ps, polV p = true) : polsV ps = true := by
  simp only [polsV, Bool.and_eq_true, decide_eq_true_eq, List.all_eq_true]
  exact h
theorem side_parts (s : Sd) : sideV s = (polsV s.ps && (inV s.sel 0 2 && inV s.win 0 1000)) := by
  unfold sideV polsV
  cases decide (s.ps.length ≤ 3) <;> cases inV s.sel 0 2 <;> cases inV s.win 0 1000 <;> cases s.ps.all polV <;> rfl
set_option maxHeartbeats 1000000 in
theorem impl_allok (ps : List Pl) (a : Option Addr) (cap : Nat) (w : World) (h : Pls w a ps) (hm : ps.length ≤ 9223372036854775807) :
    Calls Tryz.prog 175 #[.slice a ps.length cap] w fun e w' => e = .returned (.bool (polsV ps)) ∧ Below w.heap.size w w' := by
  obtain ⟨b, off, ha, hb, hcell⟩ := h.cells
  by_cases hbig : 3 < ps.length
  · have HN := Lib.hid (pols_no (ps := ps) (fun h => by omega))
    clear h hcell ha hb
    go_enter Tryz.func175, Tryz.ntmps175
    go_wp2
    go_ret
    exact ⟨ret1B HN.out.symm, Below.refl _ _⟩
  · have Hc := Lib.hid hcell
    have Ha := Lib.hid ha
    have Hb := Lib.hid hb
    clear hcell ha hb h
    go_enter Tryz.func175, Tryz.ntmps175
    go_wp2
    go_loopw [10] (fun i wr => ∃ k : Nat, k ≤ ps.length ∧ i = .int .i64 k ∧ Hid (∀ (j : Nat) (hj : j < ps.length), j < k → polV ps[j] = true) ∧ Hid (Below w.heap.size w wr)) (fun i _ => ps.length - (intOf i).toNat)
    case atStart => exact ⟨0, Nat.zero_le _, rfl, fun j hj h => absurd h (by omega), Below.refl _ _⟩
    case round =>
      obtain ⟨k, hk, rfl, HS, HB⟩ := hrel
      by_cases hlt : k < ps.length
      · obtain rfl := Ha.out (by omega)
        obtain ⟨l, hl⟩ : ∃ l, ps[k] = l := ⟨_, rfl⟩
        have hq := (Hc.out k hlt).kept HB.out (Hb.out (by omega))
        rw [hl] at hq
        obtain ⟨q0, q1, q2⟩ := hq
        have HNO : Hid (polV l = false → polsV ps = false) := fun hn => pols_no fun h => by have := h.2 l (by rw [← hl]; exact List.getElem_mem hlt); rw [hn] at this; cases this
        have HOK : Hid (polV l = true → ∀ (j : Nat) (hj : j < ps.length), j < k + 1 → polV ps[j] = true) := fun h i hi hik => by
          by_cases e : i = k
          · subst e; rw [hl]; exact h
          · exact HS.out i hi (by omega)
        have HBX := Lib.hid (HB.out.alloc HB.out.size (.cells #[.int .i64 l.kd, .int .i64 l.va, .int .i64 l.pe] 195))
        have hcon := impl_polok l
        unfold plV at hcon
        have HCON := Lib.hid hcon
        clear hl hcon
        cases c1 : polV l
        · have HN := Lib.hid (HNO.out c1)
          rw [c1] at HCON
          clear c1
          go_wp2_with (go_at_call 206; refine (HCON.out _).mono ?_; rintro e w2 ⟨rfl, hb2⟩; have HB2 := Lib.hid (HBX.out.trans (hb2.mono HBX.out.size)); clear hb2)
          go_ret
          exact ⟨ret1B HN.out.symm, HB2.out⟩
        · have HSN := Lib.hid (HOK.out c1)
          rw [c1] at HCON
          clear c1
          go_wp2_with (go_at_call 206; refine (HCON.out _).mono ?_; rintro e w2 ⟨rfl, hb2⟩; have HB2 := Lib.hid (HBX.out.trans (hb2.mono HBX.out.size)); clear hb2)
          clear q0 q1 q2
          go_wp2
          go_roundw
          case rel => exact ⟨k + 1, by omega, by go_num, HSN.out, HB2.out⟩
          case measure => simp [intOf]; omega
      · obtain rfl : k = ps.length := by omega
        have HF := Lib.hid (pols_yes (ps := ps) ⟨by omega, fun p hp => by
          obtain ⟨j, hj, rfl⟩ := List.mem_iff_getElem.1 hp
          exact HS.out j hj hj⟩)
        go_wp2
        go_ret
        exact ⟨ret1B HF.out.symm, HB.out⟩
theorem impl_sideof (v0 v1 v2 : Int) (a : Option Addr) (n cap : Nat) (w : World) :
    Calls Tryz.prog 151 #[.agg #[.slice a n cap, .int .i64 v1, .int .i64 v2]] w fun e w' => e = .returned (.agg #[.slice a n cap, .int .i64 v1, .int .i64 v2]) ∧ Below w.heap.size w w' := by
  go_enter Tryz.func151, Tryz.ntmps151
  go_wp2
  refine bodyPost_ret (v := .agg #[.slice a n cap, .int .i64 v1, .int .i64 v2]) (by simp [results, Tryz.results151, go_sem]) rfl ⟨rfl, ?_⟩
  exact box2_below w _ _
set_option maxHeartbeats 1000000 in
theorem impl_sidemok (s : Sd) (a : Option Addr) (cap : Nat) (w : World) (h : Pls w a s.ps) (hm : s.ps.length ≤ 9223372036854775807) :
    Calls Tryz.prog 152 #[.agg #[.slice a s.ps.length cap, .int .i64 s.sel, .int .i64 s.win]] w fun e w' => e = .returned (.bool (sideV s)) ∧ Below w.heap.size w w' := by
  rw [side_parts]
  have HH := Lib.hid (h.kept (box_below w #[.slice a s.ps.length cap, .int .i64 s.sel, .int .i64 s.win] 202))
  have hall := fun w h => impl_allok s.ps a cap w h hm
  clear h
  cases e1 : polsV s.ps
  · rw [e1] at hall
    have HALL := Lib.hid hall
    clear hall e1
    go_enter Tryz.func152, Tryz.ntmps152
    go_wp2_with (go_at_call 175; refine (HALL.out _ HH.out).mono ?_; rintro e w2 ⟨rfl, hb2⟩; obtain ⟨k0, hB, hz⟩ := one_read hb2; have HB2 := Lib.hid hB; clear k0 hB hb2 hz)
    go_ret
    exact ⟨ret1B (by simp), HB2.out⟩
  · rw [e1] at hall
    have HALL := Lib.hid hall
    clear hall e1
    rcases inV_ways s.sel 0 2 with ⟨h1, h2, e⟩ | ⟨h1, e⟩ | ⟨h1, h2, e⟩
    all_goals
      rw [e]
      clear e
      go_enter Tryz.func152, Tryz.ntmps152
      go_wp2_with (first
        | (go_at_call 175; refine (HALL.out _ HH.out).mono ?_; rintro e w2 ⟨rfl, hb2⟩; obtain ⟨k0, hB, hz⟩ := one_read hb2; have HB2 := Lib.hid hB; obtain ⟨c0, f0⟩ := k0.2 0 (by simp); obtain ⟨c1, f1⟩ := k0.2 1 (by simp); obtain ⟨c2, f2⟩ := k0.2 2 (by simp); simp at c0 c1 c2; clear k0 hB hb2 hz)
        | (go_at_call 176; refine (impl_span _ _).mono ?_; rintro e w' ⟨rfl, rfl⟩))
      go_ret
      exact ⟨ret1B (by first | rfl | (simp; try omega)), HB2.out⟩
theorem impl_sideok (s : Sd) (a : Option Addr) (cap : Nat) (w : World) (h : Pls w a s.ps) (hm : s.ps.length ≤ 9223372036854775807) :
    Calls Tryz.prog 119 #[.agg #[.slice a s.ps.length cap, .int .i64 s.sel, .int .i64 s.win]] w fun e w' => e = .returned (.bool (sideV s)) ∧ Below w.heap.size w w' := by
  have HH := Lib.hid (h.kept (box_below w #[.slice a s.ps.length cap, .int .i64 s.sel, .int .i64 s.win] 44))
  have HM := Lib.hid (fun w h => impl_sidemok s a cap w h hm)
  clear h
  go_enter Tryz.func119, Tryz.ntmps119
  go_wp2_with (go_at_call 151; refine (impl_sideof 0 _ _ _ _ _ _).mono ?_; rintro e w2 ⟨rfl, hb2⟩; obtain ⟨k0, hB, hz⟩ := one_read hb2; have HB2 := Lib.hid hB; have HH2 := Lib.hid (HH.out.kept hb2); clear k0 hB hb2 hz)
  refine (HM.out _ HH2.out).mono ?_
  rintro e w3 ⟨rfl, hb3⟩
  have HB3 := Lib.hid (HB2.out.trans (hb3.mono HB2.out.size))
  clear hb3
  go_wp2
  go_ret
  exact ⟨rfl, HB3.out⟩
theorem beh_parts (b : Bh) : behV b = (sideV b.up && (sideV b.dn && (decide (0 ≤ b.mn) && (decide (b.mn ≤ b.mx) && decide (b.mx ≤ 1000))))) := by
  unfold behV
  cases sideV b.up
  · rfl
  · cases sideV b.dn
    · rfl
    · rw [Bool.eq_iff_iff]
      simp only [Bool.and_eq_true, inV_iff, decide_eq_true_eq, Bool.true_and]
      omega
set_option maxHeartbeats 2000000 in
set_option maxRecDepth 20000 in
theorem impl_behok (b : Bh) (a : Option Addr) (c : Nat) (a' : Option Addr) (c' : Nat) (w : World) (h : Pls w a b.up.ps) (h' : Pls w a' b.dn.ps) (hm : b.up.ps.length ≤ 9223372036854775807) (hm' : b.dn.ps.length ≤ 9223372036854775807) :
    Calls Tryz.prog 78 #[bhV b a c a' c'] w fun e w' => e = .returned (.bool (behV b)) ∧ Below w.heap.size w w' := by
  rw [beh_parts]
  unfold bhV
  have hup := fun w h => impl_sideok b.up a c w h hm
  have hdn := fun w h => impl_sideok b.dn a' c' w h hm'
  have HU := Lib.hid (h.kept (box_below w #[.slice a b.up.ps.length c, .int .i64 b.up.sel, .int .i64 b.up.win, .slice a' b.dn.ps.length c', .int .i64 b.dn.sel, .int .i64 b.dn.win, .int .i64 b.mn, .int .i64 b.mx] 46))
  have HD := Lib.hid (h'.kept (box_below w #[.slice a b.up.ps.length c, .int .i64 b.up.sel, .int .i64 b.up.win, .slice a' b.dn.ps.length c', .int .i64 b.dn.sel, .int .i64 b.dn.win, .int .i64 b.mn, .int .i64 b.mx] 46))
  clear h h'
  cases e1 : sideV b.up
  · rw [e1] at hup
    have HUP := Lib.hid hup
    clear hup hdn e1
    go_enter Tryz.func78, Tryz.ntmps78
    go_wp2_with (go_at_call 119; refine (HUP.out _ HU.out).mono ?_; rintro e w2 ⟨rfl, hb2⟩; obtain ⟨k0, hB, hz⟩ := one_read hb2; have HB2 := Lib.hid hB; obtain ⟨c0, f0⟩ := k0.2 0 (by simp); obtain ⟨c1, f1⟩ := k0.2 1 (by simp); obtain ⟨c2, f2⟩ := k0.2 2 (by simp); obtain ⟨c3, f3⟩ := k0.2 3 (by simp); obtain ⟨c4, f4⟩ := k0.2 4 (by simp); obtain ⟨c5, f5⟩ := k0.2 5 (by simp); obtain ⟨c6, f6⟩ := k0.2 6 (by simp); obtain ⟨c7, f7⟩ := k0.2 7 (by simp); simp at c0 c1 c2 c3 c4 c5 c6 c7; clear k0 hB hb2 hz)
    go_ret
    exact ⟨ret1B (by simp), HB2.out⟩
  · cases e2 : sideV b.dn
    · rw [e1] at hup
      rw [e2] at hdn
      have HUP := Lib.hid hup
      have HDN := Lib.hid hdn
      clear hup hdn e1 e2
      go_enter Tryz.func78, Tryz.ntmps78
      go_wp2_with (go_at_call 119; refine (HUP.out _ HU.out).mono ?_; rintro e w2 ⟨rfl, hb2⟩; obtain ⟨k0, hB, hz⟩ := one_read hb2; have HB2 := Lib.hid hB; have HD2 := Lib.hid (HD.out.kept hb2); obtain ⟨c0, f0⟩ := k0.2 0 (by simp); obtain ⟨c1, f1⟩ := k0.2 1 (by simp); obtain ⟨c2, f2⟩ := k0.2 2 (by simp); obtain ⟨c3, f3⟩ := k0.2 3 (by simp); obtain ⟨c4, f4⟩ := k0.2 4 (by simp); obtain ⟨c5, f5⟩ := k0.2 5 (by simp); obtain ⟨c6, f6⟩ := k0.2 6 (by simp); obtain ⟨c7, f7⟩ := k0.2 7 (by simp); simp at c0 c1 c2 c3 c4 c5 c6 c7; clear k0 hB hb2 hz HUP)
      go_wp2_with (go_at_call 119; refine (HDN.out _ HD2.out).mono ?_; rintro e w3 ⟨rfl, hb3⟩; have HB3 := Lib.hid (HB2.out.trans (hb3.mono HB2.out.size)); clear hb3)
      go_ret
      exact ⟨ret1B (by simp), HB3.out⟩
    · rw [e1] at hup
      rw [e2] at hdn
      have HUP := Lib.hid hup
      have HDN := Lib.hid hdn
      clear hup hdn e1 e2
      have hways : (b.mn < 0) ∨ (0 ≤ b.mn ∧ b.mx < b.mn) ∨ (0 ≤ b.mn ∧ b.mn ≤ b.mx ∧ 1000 < b.mx) ∨ (0 ≤ b.mn ∧ b.mn ≤ b.mx ∧ b.mx ≤ 1000) := by omega
      rcases hways with h1 | ⟨h1, h2⟩ | ⟨h1, h2, h3⟩ | ⟨h1, h2, h3⟩
      all_goals
        go_enter Tryz.func78, Tryz.ntmps78
        go_wp2_with (go_at_call 119; refine (HUP.out _ HU.out).mono ?_; rintro e w2 ⟨rfl, hb2⟩; obtain ⟨k0, hB, hz⟩ := one_read hb2; have HB2 := Lib.hid hB; have HD2 := Lib.hid (HD.out.kept hb2); have HK2 := Lib.hid k0; obtain ⟨c0, f0⟩ := k0.2 0 (by simp); obtain ⟨c1, f1⟩ := k0.2 1 (by simp); obtain ⟨c2, f2⟩ := k0.2 2 (by simp); obtain ⟨c3, f3⟩ := k0.2 3 (by simp); obtain ⟨c4, f4⟩ := k0.2 4 (by simp); obtain ⟨c5, f5⟩ := k0.2 5 (by simp); obtain ⟨c6, f6⟩ := k0.2 6 (by simp); obtain ⟨c7, f7⟩ := k0.2 7 (by simp); simp at c0 c1 c2 c3 c4 c5 c6 c7; clear k0 hB hb2 hz HUP)
        refine (HDN.out _ HD2.out).mono ?_
        rintro e w3 ⟨rfl, hb3⟩
        have HB3 := Lib.hid (HB2.out.trans (hb3.mono HB2.out.size))
        have k0 := HK2.out.kept hb3
        clear c0 c1 c2 c3 c4 c5 c6 c7 f0 f1 f2 f3 f4 f5 f6 f7 hb3
        obtain ⟨c0, f0⟩ := k0.2 0 (by simp)
        obtain ⟨c1, f1⟩ := k0.2 1 (by simp)
        obtain ⟨c2, f2⟩ := k0.2 2 (by simp)
        obtain ⟨c3, f3⟩ := k0.2 3 (by simp)
        obtain ⟨c4, f4⟩ := k0.2 4 (by simp)
        obtain ⟨c5, f5⟩ := k0.2 5 (by simp)
        obtain ⟨c6, f6⟩ := k0.2 6 (by simp)
        obtain ⟨c7, f7⟩ := k0.2 7 (by simp)
        simp at c0 c1 c2 c3 c4 c5 c6 c7
        clear k0
        go_wp2
        go_ret
        exact ⟨ret1B (by first | rfl | (rw [Bool.eq_iff_iff]; simp; omega) | (simp; try omega)), HB3.out⟩
end Go.Proofs.YtgmdfkmmbcpikaaGreat.SdI
