/- LimitWant and Decide: the program's; the model's Decide. -/
import Derived.Test.YtcjjdnfikccnmaaLimS
import Derived.Test.YtcjjdnfikccnmaaBndU
namespace Go.Proofs.Ytcjjdnfikccnmaa.LimI
open Go.RowKit Go.Sort Go.BigFrame
open Go.Proofs.Ytcjjdnfikccnmaa.C1
open Go.Proofs.Ytcjjdnfikccnmaa.C2
open Go.Proofs.Ytcjjdnfikccnmaa.Smps
open Go.Proofs.Ytcjjdnfikccnmaa.Mem
open Go.Proofs.Ytcjjdnfikccnmaa.Ser
open Go.Proofs.Ytcjjdnfikccnmaa.Pl
open Go.Proofs.Ytcjjdnfikccnmaa.BhM
open Go.Proofs.Ytcjjdnfikccnmaa.BhI
open Go.Proofs.Ytcjjdnfikccnmaa.LogI
open Go.Proofs.Ytcjjdnfikccnmaa.SdI
open Go.Proofs.Ytcjjdnfikccnmaa.SdT
open Go.Proofs.Ytcjjdnfikccnmaa.Std
open Go.Proofs.Ytcjjdnfikccnmaa.BndU
open Go.Proofs.Ytcjjdnfikccnmaa.LimS
set_option linter.unusedVariables false

theorem ways_of (b : Bh) (ms : List Pt) (now count want : Int) :
    (behV b = false ∧ limitV b ms now count want = -1) ∨
    (behV b = true ∧ (dnV b.dn ms now count == -1) = true ∧ limitV b ms now count want = -1) ∨
    (behV b = true ∧ (dnV b.dn ms now count == -1) = false ∧ (upV b.up ms now count == -1) = false ∧ countV want = false ∧ limitV b ms now count want = -1) ∨
    (behV b = true ∧ (dnV b.dn ms now count == -1) = false ∧ (upV b.up ms now count == -1) = false ∧ countV want = true ∧ limitV b ms now count want = cutTo (cutTo want (dnV b.dn ms now count) (upV b.up ms now count)) b.mn b.mx) := by
  cases d1 : behV b
  · exact .inl ⟨rfl, limit_no (by unfold limitG; rw [d1]; rfl)⟩
  · obtain ⟨hs1, hs2, -, -, -⟩ := beh_bd d1
    cases d2 : (logV moveV ms && (tickV now && countV count))
    · refine .inr (.inl ⟨rfl, ?_, limit_no ?_⟩)
      · rw [dn_no (by unfold boundG; rw [hs2, d2]; rfl)]; rfl
      · unfold limitG; rw [d1]
        revert d2
        cases logV moveV ms <;> cases tickV now <;> cases countV count <;> simp
    · have hgu : boundG b.up ms now count = true := by unfold boundG; rw [hs1, d2]; rfl
      have hgd : boundG b.dn ms now count = true := by unfold boundG; rw [hs2, d2]; rfl
      have hc : 0 ≤ count := by simp only [Bool.and_eq_true, countV, inV_iff] at d2; exact d2.2.2.1
      obtain ⟨u1, u2⟩ := up_bd hgu
      obtain ⟨v1, v2⟩ := dn_bd hgd
      have e1 : (dnV b.dn ms now count == -1) = false := by simp; omega
      have e2 : (upV b.up ms now count == -1) = false := by simp; omega
      cases d5 : countV want
      · refine .inr (.inr (.inl ⟨rfl, e1, e2, rfl, limit_no ?_⟩))
        unfold limitG; rw [d1, d5]
        cases logV moveV ms <;> cases tickV now <;> cases countV count <;> rfl
      · refine .inr (.inr (.inr ⟨rfl, e1, e2, rfl, limit_yes ?_⟩))
        unfold limitG; rw [d1, d5]
        revert d2
        cases logV moveV ms <;> cases tickV now <;> cases countV count <;> simp
set_option maxHeartbeats 4000000 in
set_option maxRecDepth 100000 in
theorem impl_limit (b : Bh) (a : Option Addr) (c : Nat) (a' : Option Addr) (c' : Nat) (ms : List Pt) (am : Option Addr) (cm : Nat) (now count want : Int) (w : World) (hu : Pls w a b.up.ps) (hd : Pls w a' b.dn.ps) (hn : Pts w am ms) (m1 : b.up.ps.length ≤ 1048576) (m2 : b.dn.ps.length ≤ 1048576) (m3 : ms.length ≤ 1048576) :
    Calls Try.prog 59 #[bhV b a c a' c', .slice am ms.length cm, .int .i64 now, .int .i64 count, .int .i64 want] w fun e w' => e = .returned (.int .i64 (limitV b ms now count want)) ∧ Below w.heap.size w w' := by
  have hsp := fun w h1 h2 => impl_behok b a c a' c' w h1 h2 (by omega) (by omega)
  have hdn := fun w h1 h2 => impl_dn b.dn a' c' ms am cm now count w h1 h2 m2 m3
  have hup := fun w h1 h2 => impl_up b.up a c ms am cm now count w h1 h2 m1 m3
  have hways := ways_of b ms now count want
  have hr1 := dn_rng b.dn ms now count
  have hr2 := up_rng b.up ms now count
  obtain ⟨dv, hdv⟩ : ∃ dv, dnV b.dn ms now count = dv := ⟨_, rfl⟩
  obtain ⟨uv, huv⟩ : ∃ uv, upV b.up ms now count = uv := ⟨_, rfl⟩
  obtain ⟨v, hv⟩ : ∃ v, limitV b ms now count want = v := ⟨_, rfl⟩
  simp only [hdv] at hdn
  simp only [huv] at hup
  rw [hdv, huv, hv] at hways
  rw [hdv] at hr1
  rw [huv] at hr2
  rw [hv]
  clear hdv huv hv
  unfold bhV at hsp ⊢
  have hbx := box_below w #[.slice a b.up.ps.length c, .int .i64 b.up.sel, .int .i64 b.up.win, .slice a' b.dn.ps.length c', .int .i64 b.dn.sel, .int .i64 b.dn.win, .int .i64 b.mn, .int .i64 b.mx] 28
  have mixed : Try.prog.follows .mixedOrders = true := by kernel_rfl
  obtain ⟨wb, hwb⟩ : ∃ wb, w.alloc (.cells #[.slice a b.up.ps.length c, .int .i64 b.up.sel, .int .i64 b.up.win, .slice a' b.dn.ps.length c', .int .i64 b.dn.sel, .int .i64 b.dn.win, .int .i64 b.mn, .int .i64 b.mx] 28) = wb := ⟨_, rfl⟩
  have hk := Ser2.cells_new w #[.slice a b.up.ps.length c, .int .i64 b.up.sel, .int .i64 b.up.win, .slice a' b.dn.ps.length c', .int .i64 b.dn.sel, .int .i64 b.dn.win, .int .i64 b.mn, .int .i64 b.mx] 28
  rw [hwb] at hbx hk
  have k3 : CellsW wb w.heap.size [_, _, _, _, _, _, _, _] := hk
  have e0 := later_cell k3.1 (k3.2 0 (by simp)).1
  have e1 := later_cell k3.1 (k3.2 1 (by simp)).1
  have e2 := later_cell k3.1 (k3.2 2 (by simp)).1
  have e3 := later_cell k3.1 (k3.2 3 (by simp)).1
  have e4 := later_cell k3.1 (k3.2 4 (by simp)).1
  have e5 := later_cell k3.1 (k3.2 5 (by simp)).1
  have e6 := later_cell k3.1 (k3.2 6 (by simp)).1
  have e7 := later_cell k3.1 (k3.2 7 (by simp)).1
  simp only [List.getElem_cons_zero, List.getElem_cons_succ] at e0 e1 e2 e3 e4 e5 e6 e7
  have HUb := Lib.hid (hu.kept hbx)
  have HDb := Lib.hid (hd.kept hbx)
  have HMb := Lib.hid (hn.kept hbx)
  have HBx := Lib.hid hbx
  have HKx : Hid (CW8 wb w.heap.size _ _ _ _ _ _ _ _) := k3
  have QD : Hid (∀ q : Later wb, Calls Try.prog 16 #[.agg #[.slice a' b.dn.ps.length c', .int .i64 b.dn.sel, .int .i64 b.dn.win], .slice am ms.length cm, .int .i64 now, .int .i64 count] q.u fun e w' => e = .returned (.int .i64 dv) ∧ Below q.u.heap.size q.u w') := fun q => hdn q.u (HDb.out.kept q.h) (HMb.out.kept q.h)
  have QU : Hid (∀ q : Later wb, Calls Try.prog 15 #[.agg #[.slice a b.up.ps.length c, .int .i64 b.up.sel, .int .i64 b.up.win], .slice am ms.length cm, .int .i64 now, .int .i64 count] q.u fun e w' => e = .returned (.int .i64 uv) ∧ Below q.u.heap.size q.u w') := fun q => hup q.u (HUb.out.kept q.h) (HMb.out.kept q.h)
  clear hdn hup hk k3 hu hd hn hbx
  go_enter Try.func59, Try.ntmps59
  go_wp2_with fail
  try rw [hwb]
  refine region_later mixed (by kernel_rfl) ?_
  repeat (go_big_quiet_step (first | (go_at_call 16; exact later_call (QD.out _)) | (go_at_call 15; exact later_call (QU.out _))))
  refine wpQuiet_nil ?_
  intro w2 hw'
  obtain ⟨⟨_, hw2⟩, rfl⟩ := hw'
  have HB2 := Lib.hid (HBx.out.trans (hw2.mono HBx.out.size))
  have HK2 := Lib.hid (HKx.out.kept hw2)
  have HU2 := Lib.hid (HUb.out.kept hw2)
  have HD2 := Lib.hid (HDb.out.kept hw2)
  clear hw2 e0 e1 e2 e3 e4 e5 e6 e7 QD QU HUb HDb HMb HKx hwb HBx
  obtain ⟨⟨c0, c1, c2, c3, c4, c5, c6, c7⟩, -⟩ := HK2.out.get
  rcases hways with ⟨k1, hv⟩ | ⟨k1, k2, hv⟩ | ⟨k1, k2, k3, k4, hv⟩ | ⟨k1, k2, k3, k4, hv⟩
  · subst hv
    simp only [k1] at hsp
    have HSP := Lib.hid hsp
    clear hsp k1
    go_wp2_with (go_at_call 47; refine (HSP.out _ HU2.out HD2.out).mono ?_; rintro e w3 ⟨rfl, hb3⟩; have HB3 := Lib.hid (HB2.out.trans (hb3.mono HB2.out.size)); clear hb3 c0 c1 c2 c3 c4 c5 c6 c7)
    go_ret
    exact ⟨rfl, HB3.out⟩
  · subst hv
    simp only [k1] at hsp
    have HSP := Lib.hid hsp
    clear hsp k1
    go_wp2_with (go_at_call 47; refine (HSP.out _ HU2.out HD2.out).mono ?_; rintro e w3 ⟨rfl, hb3⟩; have HB3 := Lib.hid (HB2.out.trans (hb3.mono HB2.out.size)); clear hb3 c0 c1 c2 c3 c4 c5 c6 c7)
    go_ret
    exact ⟨rfl, HB3.out⟩
  · subst hv
    simp only [k1] at hsp
    have HSP := Lib.hid hsp
    clear hsp k1
    go_wp2_with (first | (go_at_call 47; refine (HSP.out _ HU2.out HD2.out).mono ?_; rintro e w3 ⟨rfl, hb3⟩; have HB3 := Lib.hid (HB2.out.trans (hb3.mono HB2.out.size)); clear hb3 c0 c1 c2 c3 c4 c5 c6 c7) | (go_at_call 50; refine (impl_count6 _ _).mono ?_; rw [k4]; rintro e w' ⟨rfl, rfl⟩))
    go_ret
    exact ⟨rfl, HB3.out⟩
  · simp only [k1] at hsp
    have HSP := Lib.hid hsp
    obtain ⟨x1, hx1⟩ : ∃ x1, cutTo want dv uv = x1 := ⟨_, rfl⟩
    rw [hx1] at hv
    subst hv
    have hc1 := fun w => impl_limited want dv uv w
    simp only [hx1] at hc1
    have HC1 := Lib.hid hc1
    clear hsp k1 hc1 hx1
    go_wp2_with (first | (go_at_call 47; refine (HSP.out _ HU2.out HD2.out).mono ?_; rintro e w3 ⟨rfl, hb3⟩; have HB3 := Lib.hid (HB2.out.trans (hb3.mono HB2.out.size)); have HK3 := Lib.hid (HK2.out.kept hb3); clear hb3 c0 c1 c2 c3 c4 c5 c6 c7) | (go_at_call 50; refine (impl_count6 _ _).mono ?_; rw [k4]; rintro e w' ⟨rfl, rfl⟩))
    have k6 := later_cell HK3.out.1 (HK3.out.2 6 (by simp)).1
    have k7 := later_cell HK3.out.1 (HK3.out.2 7 (by simp)).1
    simp only [List.getElem_cons_zero, List.getElem_cons_succ] at k6 k7
    have Q1 : Hid (∀ q : Later w3, Calls Try.prog 53 #[.int .i64 want, .int .i64 dv, .int .i64 uv] q.u fun e w' => e = .returned (.int .i64 x1) ∧ Below q.u.heap.size q.u w') := fun q => (HC1.out q.u).mono fun e w' ⟨he, hw⟩ => ⟨he, by rw [← hw]; exact Below.refl _ _⟩
    have Q2 : Hid (∀ q : Later w3, Calls Try.prog 53 #[.int .i64 x1, .int .i64 b.mn, .int .i64 b.mx] q.u fun e w' => e = .returned (.int .i64 (cutTo x1 b.mn b.mx)) ∧ Below q.u.heap.size q.u w') := fun q => (impl_limited _ _ _ q.u).mono fun e w' ⟨he, hw⟩ => ⟨he, by rw [← hw]; exact Below.refl _ _⟩
    refine region_later mixed (by kernel_rfl) ?_
    repeat (go_big_quiet_step (first | (go_at_call_of 53 (Value.int IntKind.i64 dv); exact later_call (Q1.out _)) | (go_at_call_of 53 (Value.int IntKind.i64 x1); exact later_call (Q2.out _))))
    refine wpQuiet_nil ?_
    intro w4 hw'
    obtain ⟨⟨_, hw4⟩, rfl⟩ := hw'
    have HB4 := Lib.hid (HB3.out.trans (hw4.mono HB3.out.size))
    clear hw4 k6 k7
    go_wp2
    go_ret
    exact ⟨rfl, HB4.out⟩
end Go.Proofs.Ytcjjdnfikccnmaa.LimI
