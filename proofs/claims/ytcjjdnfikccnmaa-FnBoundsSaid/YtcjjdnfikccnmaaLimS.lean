/- LimitWant: the model's. -/
import Derived.Test.YtcjjdnfikccnmaaBndD
import Derived.BigQuiet
import Derived.BigFrame
namespace Go.Proofs.Ytcjjdnfikccnmaa.LimS
open Go.RowKit Go.Sort Go.BigFrame
open Go.Proofs.Ytcjjdnfikccnmaa.C1
open Go.Proofs.Ytcjjdnfikccnmaa.C2
open Go.Proofs.Ytcjjdnfikccnmaa.Smps
open Go.Proofs.Ytcjjdnfikccnmaa.Mem
open Go.Proofs.Ytcjjdnfikccnmaa.Ser
open Go.Proofs.Ytcjjdnfikccnmaa.Pl
open Go.Proofs.Ytcjjdnfikccnmaa.BhM
open Go.Proofs.Ytcjjdnfikccnmaa.BhI
open Go.Proofs.Ytcjjdnfikccnmaa.LogS
open Go.Proofs.Ytcjjdnfikccnmaa.SdS
open Go.Proofs.Ytcjjdnfikccnmaa.SdT
open Go.Proofs.Ytcjjdnfikccnmaa.Std
open Go.Proofs.Ytcjjdnfikccnmaa.BndS
open Go.Proofs.Ytcjjdnfikccnmaa.BndD
set_option linter.unusedVariables false

theorem limit_no {b : Bh} {ms : List Pt} {now count want : Int} (h : limitG b ms now count want = false) : limitV b ms now count want = -1 := by unfold limitV; rw [if_neg (by rw [h]; simp)]
theorem limit_yes {b : Bh} {ms : List Pt} {now count want : Int} (h : limitG b ms now count want = true) : limitV b ms now count want = cutTo (cutTo want (dnV b.dn ms now count) (upV b.up ms now count)) b.mn b.mx := by unfold limitV; rw [if_pos h]
theorem spec_cut (x lo hi : Int) (h : lo ≤ hi) (w : World) :
    Calls Try.prog 113 #[.int .i64 x, .int .i64 lo, .int .i64 hi] w fun e w' => e = .returned (.int .i64 (cutTo x lo hi)) ∧ w = w' := by
  rw [cutTo_ways x lo hi h]
  by_cases g1 : x < lo
  · rw [if_pos g1]
    go_enter Try.func113, Try.ntmps113
    go_wp2
    go_ret
    exact ⟨rfl, rfl⟩
  · rw [if_neg g1]
    by_cases g2 : x > hi
    · rw [if_pos g2]
      go_enter Try.func113, Try.ntmps113
      go_wp2
      go_ret
      exact ⟨rfl, rfl⟩
    · rw [if_neg g2]
      go_enter Try.func113, Try.ntmps113
      go_wp2
      go_ret
      exact ⟨rfl, rfl⟩
set_option maxHeartbeats 4000000 in
set_option maxRecDepth 100000 in
theorem spec_limit (b : Bh) (a : Option Addr) (c : Nat) (a' : Option Addr) (c' : Nat) (ms : List Pt) (am : Option Addr) (cm : Nat) (now count want : Int) (w : World) (hu : Pls w a b.up.ps) (hd : Pls w a' b.dn.ps) (hn : Pts w am ms) (m1 : b.up.ps.length ≤ 1048576) (m2 : b.dn.ps.length ≤ 1048576) (m3 : ms.length ≤ 1048576) :
    Calls Try.prog 60 #[bhV b a c a' c', .slice am ms.length cm, .int .i64 now, .int .i64 count, .int .i64 want] w fun e w' => e = .returned (.int .i64 (limitV b ms now count want)) ∧ Below w.heap.size w w' := by
  have hsp := fun w h1 h2 => spec_behok b a c a' c' w h1 h2 (by omega) (by omega)
  have hnt := fun w h => spec_movesok ms am cm w h m3
  unfold bhV at hsp ⊢
  have hbx := box_below w #[.slice a b.up.ps.length c, .int .i64 b.up.sel, .int .i64 b.up.win, .slice a' b.dn.ps.length c', .int .i64 b.dn.sel, .int .i64 b.dn.win, .int .i64 b.mn, .int .i64 b.mx] 28
  have hu0 := Lib.hid hu
  have hd0 := Lib.hid hd
  have hn0 := Lib.hid hn
  have HU := Lib.hid (hu.kept hbx)
  have HD := Lib.hid (hd.kept hbx)
  have HN0 := Lib.hid (hn.kept hbx)
  clear hu hd hn hbx
  cases d1 : behV b
  · have HNO := Lib.hid (limit_no (b := b) (ms := ms) (now := now) (count := count) (want := want) (by unfold limitG; rw [d1]; rfl))
    rw [HNO.out]
    simp only [d1] at hsp
    have HSP := Lib.hid hsp
    have HNT := Lib.hid hnt
    clear hsp hnt d1
    go_enter Try.func60, Try.ntmps60
    go_wp2_with (first | (go_at_call 54; refine (HSP.out _ HU.out HD.out).mono ?_; rintro e w2 ⟨rfl, hb2⟩; obtain ⟨k0, hB, hz⟩ := one_read hb2; have HB2 := Lib.hid hB; have K2 : Hid (CW8 w2 w.heap.size _ _ _ _ _ _ _ _) := k0; have HN2 := Lib.hid (HN0.out.kept hb2); clear k0 hB hb2 hz))
    go_ret
    exact ⟨rfl, HB2.out⟩
  · skip
    cases d2 : logV moveV ms
    · have HNO := Lib.hid (limit_no (b := b) (ms := ms) (now := now) (count := count) (want := want) (by unfold limitG; rw [d1, d2]; rfl))
      rw [HNO.out]
      simp only [d1] at hsp
      simp only [d2] at hnt
      have HSP := Lib.hid hsp
      have HNT := Lib.hid hnt
      clear hsp hnt d1 d2
      go_enter Try.func60, Try.ntmps60
      go_wp2_with (first | (go_at_call 54; refine (HSP.out _ HU.out HD.out).mono ?_; rintro e w2 ⟨rfl, hb2⟩; obtain ⟨k0, hB, hz⟩ := one_read hb2; have HB2 := Lib.hid hB; have K2 : Hid (CW8 w2 w.heap.size _ _ _ _ _ _ _ _) := k0; have HN2 := Lib.hid (HN0.out.kept hb2); clear k0 hB hb2 hz) | (go_at_call 112; refine (HNT.out _ HN2.out).mono ?_; rintro e w3 ⟨rfl, hb3⟩; have HB3 := Lib.hid (HB2.out.trans (hb3.mono HB2.out.size)); have K3 := Lib.hid (K2.out.kept hb3); have HN3 := Lib.hid (HN2.out.kept hb3); clear hb3))
      go_ret
      exact ⟨rfl, HB3.out⟩
    · skip
      cases d3 : tickV now
      · have HNO := Lib.hid (limit_no (b := b) (ms := ms) (now := now) (count := count) (want := want) (by unfold limitG; rw [d1, d2, d3]; rfl))
        rw [HNO.out]
        simp only [d1] at hsp
        simp only [d2] at hnt
        have HSP := Lib.hid hsp
        have HNT := Lib.hid hnt
        clear hsp hnt d1 d2
        go_enter Try.func60, Try.ntmps60
        go_wp2_with (first | (go_at_call 54; refine (HSP.out _ HU.out HD.out).mono ?_; rintro e w2 ⟨rfl, hb2⟩; obtain ⟨k0, hB, hz⟩ := one_read hb2; have HB2 := Lib.hid hB; have K2 : Hid (CW8 w2 w.heap.size _ _ _ _ _ _ _ _) := k0; have HN2 := Lib.hid (HN0.out.kept hb2); clear k0 hB hb2 hz) | (go_at_call 112; refine (HNT.out _ HN2.out).mono ?_; rintro e w3 ⟨rfl, hb3⟩; have HB3 := Lib.hid (HB2.out.trans (hb3.mono HB2.out.size)); have K3 := Lib.hid (K2.out.kept hb3); have HN3 := Lib.hid (HN2.out.kept hb3); clear hb3) | (go_at_call 56; refine (spec_tick6 _ _).mono ?_; rw [d3]; rintro e w' ⟨rfl, rfl⟩))
        go_ret
        exact ⟨rfl, HB3.out⟩
      · skip
        cases d4 : countV count
        · have HNO := Lib.hid (limit_no (b := b) (ms := ms) (now := now) (count := count) (want := want) (by unfold limitG; rw [d1, d2, d3, d4]; rfl))
          rw [HNO.out]
          simp only [d1] at hsp
          simp only [d2] at hnt
          have HSP := Lib.hid hsp
          have HNT := Lib.hid hnt
          clear hsp hnt d1 d2
          go_enter Try.func60, Try.ntmps60
          go_wp2_with (first | (go_at_call 54; refine (HSP.out _ HU.out HD.out).mono ?_; rintro e w2 ⟨rfl, hb2⟩; obtain ⟨k0, hB, hz⟩ := one_read hb2; have HB2 := Lib.hid hB; have K2 : Hid (CW8 w2 w.heap.size _ _ _ _ _ _ _ _) := k0; have HN2 := Lib.hid (HN0.out.kept hb2); clear k0 hB hb2 hz) | (go_at_call 112; refine (HNT.out _ HN2.out).mono ?_; rintro e w3 ⟨rfl, hb3⟩; have HB3 := Lib.hid (HB2.out.trans (hb3.mono HB2.out.size)); have K3 := Lib.hid (K2.out.kept hb3); have HN3 := Lib.hid (HN2.out.kept hb3); clear hb3) | (go_at_call 56; refine (spec_tick6 _ _).mono ?_; rw [d3]; rintro e w' ⟨rfl, rfl⟩) | (go_at_call 57; refine (spec_count6 _ _).mono ?_; (first | rw [d4] | rw [d5]); rintro e w' ⟨rfl, rfl⟩))
          go_ret
          exact ⟨rfl, HB3.out⟩
        · skip
          cases d5 : countV want
          · have HNO := Lib.hid (limit_no (b := b) (ms := ms) (now := now) (count := count) (want := want) (by unfold limitG; rw [d1, d2, d3, d4, d5]; rfl))
            rw [HNO.out]
            simp only [d1] at hsp
            simp only [d2] at hnt
            have HSP := Lib.hid hsp
            have HNT := Lib.hid hnt
            clear hsp hnt d1 d2
            go_enter Try.func60, Try.ntmps60
            go_wp2_with (first | (go_at_call 54; refine (HSP.out _ HU.out HD.out).mono ?_; rintro e w2 ⟨rfl, hb2⟩; obtain ⟨k0, hB, hz⟩ := one_read hb2; have HB2 := Lib.hid hB; have K2 : Hid (CW8 w2 w.heap.size _ _ _ _ _ _ _ _) := k0; have HN2 := Lib.hid (HN0.out.kept hb2); clear k0 hB hb2 hz) | (go_at_call 112; refine (HNT.out _ HN2.out).mono ?_; rintro e w3 ⟨rfl, hb3⟩; have HB3 := Lib.hid (HB2.out.trans (hb3.mono HB2.out.size)); have K3 := Lib.hid (K2.out.kept hb3); have HN3 := Lib.hid (HN2.out.kept hb3); clear hb3) | (go_at_call 56; refine (spec_tick6 _ _).mono ?_; rw [d3]; rintro e w' ⟨rfl, rfl⟩) | (go_at_call 57; refine (spec_count6 _ _).mono ?_; (first | rw [d4] | rw [d5]); rintro e w' ⟨rfl, rfl⟩))
            go_ret
            exact ⟨rfl, HB3.out⟩
          · skip
            have hG : limitG b ms now count want = true := by unfold limitG; rw [d1, d2, d3, d4, d5]; rfl
            rw [limit_yes hG]
            obtain ⟨hs1, hs2, hmn, hmx, -⟩ := beh_bd d1
            have hgu : boundG b.up ms now count = true := by unfold boundG; rw [hs1, d2, d3, d4]; rfl
            have hgd : boundG b.dn ms now count = true := by unfold boundG; rw [hs2, d2, d3, d4]; rfl
            obtain ⟨u1, u2⟩ := up_bd hgu
            obtain ⟨v1, v2⟩ := dn_bd hgd
            have hdn := fun w h1 h2 => spec_dn b.dn a' c' ms am cm now count w h1 h2 m2 m3
            have hup := fun w h1 h2 => spec_up b.up a c ms am cm now count w h1 h2 m1 m3
            obtain ⟨dv, hdv⟩ : ∃ dv, dnV b.dn ms now count = dv := ⟨_, rfl⟩
            obtain ⟨uv, huv⟩ : ∃ uv, upV b.up ms now count = uv := ⟨_, rfl⟩
            simp only [hdv] at hdn
            simp only [huv] at hup
            rw [hdv] at v1 v2 ⊢
            rw [huv] at u1 u2 ⊢
            have hc1 := fun w => spec_cut want dv uv (by omega) w
            obtain ⟨x1, hx1⟩ : ∃ x1, cutTo want dv uv = x1 := ⟨_, rfl⟩
            simp only [hx1] at hc1
            rw [hx1]
            have hc2 := fun w => spec_cut x1 b.mn b.mx hmx w
            obtain ⟨x2, hx2⟩ : ∃ x2, cutTo x1 b.mn b.mx = x2 := ⟨_, rfl⟩
            simp only [hx2] at hc2
            rw [hx2]
            have HDN := Lib.hid hdn
            have HUP := Lib.hid hup
            have HC1 := Lib.hid hc1
            have HC2 := Lib.hid hc2
            simp only [d1] at hsp
            simp only [d2] at hnt
            have HSP := Lib.hid hsp
            have HNT := Lib.hid hnt
            have mixed : Try.prog.follows .mixedOrders = true := by kernel_rfl
            clear hsp hnt d1 d2 hG hs1 hs2 hmn hmx hgu hgd u1 u2 v1 v2 hdn hup hdv huv hc1 hx1 hc2 hx2
            go_enter Try.func60, Try.ntmps60
            go_wp2_with (first | (go_at_call 54; refine (HSP.out _ HU.out HD.out).mono ?_; rintro e w2 ⟨rfl, hb2⟩; obtain ⟨k0, hB, hz⟩ := one_read hb2; have HB2 := Lib.hid hB; have K2 : Hid (CW8 w2 w.heap.size _ _ _ _ _ _ _ _) := k0; have HN2 := Lib.hid (HN0.out.kept hb2); clear k0 hB hb2 hz) | (go_at_call 112; refine (HNT.out _ HN2.out).mono ?_; rintro e w3 ⟨rfl, hb3⟩; have HB3 := Lib.hid (HB2.out.trans (hb3.mono HB2.out.size)); have K3 := Lib.hid (K2.out.kept hb3); have HN3 := Lib.hid (HN2.out.kept hb3); clear hb3) | (go_at_call 56; refine (spec_tick6 _ _).mono ?_; rw [d3]; rintro e w' ⟨rfl, rfl⟩) | (go_at_call 57; refine (spec_count6 _ _).mono ?_; (first | rw [d4] | rw [d5]); rintro e w' ⟨rfl, rfl⟩))
            have k3 : CellsW w3 w.heap.size [_, _, _, _, _, _, _, _] := K3.out
            have HU3 := Lib.hid (hu0.out.kept HB3.out)
            have HD3 := Lib.hid (hd0.out.kept HB3.out)
            have HM3 := Lib.hid (hn0.out.kept HB3.out)
            have e0 := later_cell k3.1 (k3.2 0 (by simp)).1
            have e1 := later_cell k3.1 (k3.2 1 (by simp)).1
            have e2 := later_cell k3.1 (k3.2 2 (by simp)).1
            have e3 := later_cell k3.1 (k3.2 3 (by simp)).1
            have e4 := later_cell k3.1 (k3.2 4 (by simp)).1
            have e5 := later_cell k3.1 (k3.2 5 (by simp)).1
            have e6 := later_cell k3.1 (k3.2 6 (by simp)).1
            have e7 := later_cell k3.1 (k3.2 7 (by simp)).1
            simp only [List.getElem_cons_zero, List.getElem_cons_succ] at e0 e1 e2 e3 e4 e5 e6 e7
            have QD : Hid (∀ q : Later w3, Calls Try.prog 18 #[.agg #[.slice a' b.dn.ps.length c', .int .i64 b.dn.sel, .int .i64 b.dn.win], .slice am ms.length cm, .int .i64 now, .int .i64 count] q.u fun e w' => e = .returned (.int .i64 dv) ∧ Below q.u.heap.size q.u w') := fun q => HDN.out q.u (HD3.out.kept q.h) (HM3.out.kept q.h)
            have QU : Hid (∀ q : Later w3, Calls Try.prog 17 #[.agg #[.slice a b.up.ps.length c, .int .i64 b.up.sel, .int .i64 b.up.win], .slice am ms.length cm, .int .i64 now, .int .i64 count] q.u fun e w' => e = .returned (.int .i64 uv) ∧ Below q.u.heap.size q.u w') := fun q => HUP.out q.u (HU3.out.kept q.h) (HM3.out.kept q.h)
            have Q1 : Hid (∀ q : Later w3, Calls Try.prog 113 #[.int .i64 want, .int .i64 dv, .int .i64 uv] q.u fun e w' => e = .returned (.int .i64 x1) ∧ Below q.u.heap.size q.u w') := fun q => (HC1.out q.u).mono fun e w' ⟨he, hw⟩ => ⟨he, by rw [← hw]; exact Below.refl _ _⟩
            have Q2 : Hid (∀ q : Later w3, Calls Try.prog 113 #[.int .i64 x1, .int .i64 b.mn, .int .i64 b.mx] q.u fun e w' => e = .returned (.int .i64 x2) ∧ Below q.u.heap.size q.u w') := fun q => (HC2.out q.u).mono fun e w' ⟨he, hw⟩ => ⟨he, by rw [← hw]; exact Below.refl _ _⟩
            clear k3
            refine region_later mixed (by kernel_rfl) ?_
            repeat (go_big_quiet_step (first | (go_at_call 18; exact later_call (QD.out _)) | (go_at_call 17; exact later_call (QU.out _)) | (go_at_call_of 113 (Value.int IntKind.i64 dv); exact later_call (Q1.out _)) | (go_at_call_of 113 (Value.int IntKind.i64 x1); exact later_call (Q2.out _))))
            refine wpQuiet_nil ?_
            intro w4 hw'
            obtain ⟨⟨_, hw4⟩, rfl⟩ := hw'
            have HB4 := Lib.hid (HB3.out.trans (hw4.mono HB3.out.size))
            clear hw4 e0 e1 e2 e3 e4 e5 e6 e7
            go_wp2
            go_ret
            exact ⟨rfl, HB4.out⟩
end Go.Proofs.Ytcjjdnfikccnmaa.LimS
