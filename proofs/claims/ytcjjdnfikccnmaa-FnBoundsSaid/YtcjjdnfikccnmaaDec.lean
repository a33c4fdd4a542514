/- Decide: the model's and the program's. -/
import Derived.Test.YtcjjdnfikccnmaaLimI
namespace Go.Proofs.Ytcjjdnfikccnmaa.Dec
open Go.RowKit Go.Sort Go.BigFrame
open Go.Proofs.Ytcjjdnfikccnmaa.C1
open Go.Proofs.Ytcjjdnfikccnmaa.C2
open Go.Proofs.Ytcjjdnfikccnmaa.Smps
open Go.Proofs.Ytcjjdnfikccnmaa.Mem
open Go.Proofs.Ytcjjdnfikccnmaa.Ser
open Go.Proofs.Ytcjjdnfikccnmaa.Pl
open Go.Proofs.Ytcjjdnfikccnmaa.BhM
open Go.Proofs.Ytcjjdnfikccnmaa.SdT
open Go.Proofs.Ytcjjdnfikccnmaa.Std
open Go.Proofs.Ytcjjdnfikccnmaa.LimS
open Go.Proofs.Ytcjjdnfikccnmaa.LimI
set_option linter.unusedVariables false

theorem limit_neg {b : Bh} {ms : List Pt} {now count x : Int} (h : x < 0) : limitV b ms now count x = -1 := limit_no (by
  have : countV x = false := by
    cases c : countV x
    · rfl
    · simp only [countV, inV_iff] at c; omega
  unfold limitG; rw [this]
  cases behV b <;> cases logV moveV ms <;> cases tickV now <;> cases countV count <;> rfl)
set_option maxHeartbeats 2000000 in
set_option maxRecDepth 100000 in
theorem spec_decide (b : Bh) (a : Option Addr) (c : Nat) (a' : Option Addr) (c' : Nat) (ns : List Pt) (an : Option Addr) (cn : Nat) (ms : List Pt) (am : Option Addr) (cm : Nat) (now count want : Int) (w : World) (hu : Pls w a b.up.ps) (hd : Pls w a' b.dn.ps) (hn : Pts w an ns) (hp : Pts w am ms) (m1 : b.up.ps.length ≤ 1048576) (m2 : b.dn.ps.length ≤ 1048576) (m3 : ns.length ≤ 1048576) (m4 : ms.length ≤ 1048576) :
    Calls Try.prog 14 #[bhV b a c a' c', .slice an ns.length cn, .slice am ms.length cm, .int .i64 now, .int .i64 count, .int .i64 want] w fun e w' => e = .returned (.int .i64 (decideV b ns ms now count want)) ∧ Below w.heap.size w w' := by
  have hst := fun w h1 h2 h3 => spec_steady b a c a' c' ns an cn now count want w h1 h2 h3 m1 m2 m3
  unfold decideV
  obtain ⟨x, hx⟩ : ∃ x, steadyV b ns now count want = x := ⟨_, rfl⟩
  have hlm := fun w h1 h2 h3 => spec_limit b a c a' c' ms am cm now count x w h1 h2 h3 m1 m2 m4
  simp only [hx] at hst
  rw [hx]
  unfold bhV at hst hlm ⊢
  have hneg : x < 0 → limitV b ms now count x = -1 := fun h => limit_neg h
  obtain ⟨v, hv⟩ : ∃ v, limitV b ms now count x = v := ⟨_, rfl⟩
  simp only [hv] at hlm
  rw [hv] at hneg ⊢
  have hbx := box_below w #[.slice a b.up.ps.length c, .int .i64 b.up.sel, .int .i64 b.up.win, .slice a' b.dn.ps.length c', .int .i64 b.dn.sel, .int .i64 b.dn.win, .int .i64 b.mn, .int .i64 b.mx] 28
  have HU := Lib.hid (hu.kept hbx)
  have HD := Lib.hid (hd.kept hbx)
  have HN := Lib.hid (hn.kept hbx)
  have HM := Lib.hid (hp.kept hbx)
  have HST := Lib.hid hst
  have HLM := Lib.hid hlm
  clear hu hd hn hp hbx hst hlm hx hv
  by_cases g : x < 0
  · have e := hneg g
    subst e
    clear hneg
    go_enter Try.func14, Try.ntmps14
    go_wp2_with (go_at_call 11; refine (HST.out _ HU.out HD.out HN.out).mono ?_; rintro e w2 ⟨rfl, hb2⟩; obtain ⟨k0, hB, hz⟩ := one_read hb2; have HB2 := Lib.hid hB; clear k0 hB hb2 hz)
    go_ret
    exact ⟨rfl, HB2.out⟩
  · clear hneg
    go_enter Try.func14, Try.ntmps14
    go_wp2_with (first | (go_at_call 11; refine (HST.out _ HU.out HD.out HN.out).mono ?_; rintro e w2 ⟨rfl, hb2⟩; obtain ⟨k0, hB, hz⟩ := one_read hb2; have HB2 := Lib.hid hB; have K2 : Hid (CW8 w2 w.heap.size _ _ _ _ _ _ _ _) := k0; have HU2 := Lib.hid (HU.out.kept hb2); have HD2 := Lib.hid (HD.out.kept hb2); have HM2 := Lib.hid (HM.out.kept hb2); obtain ⟨⟨c0, c1, c2, c3, c4, c5, c6, c7⟩, -⟩ := K2.out.get; clear k0 hB hb2 hz) | (go_at_call 60; refine (HLM.out _ HU2.out HD2.out HM2.out).mono ?_; rintro e w3 ⟨rfl, hb3⟩; have HB3 := Lib.hid (HB2.out.trans (hb3.mono HB2.out.size)); clear hb3 c0 c1 c2 c3 c4 c5 c6 c7))
    go_ret
    exact ⟨rfl, HB3.out⟩
set_option maxHeartbeats 2000000 in
set_option maxRecDepth 100000 in
theorem impl_decide (b : Bh) (a : Option Addr) (c : Nat) (a' : Option Addr) (c' : Nat) (ns : List Pt) (an : Option Addr) (cn : Nat) (ms : List Pt) (am : Option Addr) (cm : Nat) (now count want : Int) (w : World) (hu : Pls w a b.up.ps) (hd : Pls w a' b.dn.ps) (hn : Pts w an ns) (hp : Pts w am ms) (m1 : b.up.ps.length ≤ 1048576) (m2 : b.dn.ps.length ≤ 1048576) (m3 : ns.length ≤ 1048576) (m4 : ms.length ≤ 1048576) :
    Calls Try.prog 13 #[bhV b a c a' c', .slice an ns.length cn, .slice am ms.length cm, .int .i64 now, .int .i64 count, .int .i64 want] w fun e w' => e = .returned (.int .i64 (decideV b ns ms now count want)) ∧ Below w.heap.size w w' := by
  have hst := fun w h1 h2 h3 => impl_steady b a c a' c' ns an cn now count want w h1 h2 h3 m1 m2 m3
  unfold decideV
  obtain ⟨x, hx⟩ : ∃ x, steadyV b ns now count want = x := ⟨_, rfl⟩
  have hlm := fun w h1 h2 h3 => impl_limit b a c a' c' ms am cm now count x w h1 h2 h3 m1 m2 m4
  simp only [hx] at hst
  rw [hx]
  unfold bhV at hst hlm ⊢
  obtain ⟨v, hv⟩ : ∃ v, limitV b ms now count x = v := ⟨_, rfl⟩
  simp only [hv] at hlm
  rw [hv]
  have mixed : Try.prog.follows .mixedOrders = true := by kernel_rfl
  have hbx := box_below w #[.slice a b.up.ps.length c, .int .i64 b.up.sel, .int .i64 b.up.win, .slice a' b.dn.ps.length c', .int .i64 b.dn.sel, .int .i64 b.dn.win, .int .i64 b.mn, .int .i64 b.mx] 28
  obtain ⟨wb, hwb⟩ : ∃ wb, w.alloc (.cells #[.slice a b.up.ps.length c, .int .i64 b.up.sel, .int .i64 b.up.win, .slice a' b.dn.ps.length c', .int .i64 b.dn.sel, .int .i64 b.dn.win, .int .i64 b.mn, .int .i64 b.mx] 28) = wb := ⟨_, rfl⟩
  have hk := Ser2.cells_new w #[.slice a b.up.ps.length c, .int .i64 b.up.sel, .int .i64 b.up.win, .slice a' b.dn.ps.length c', .int .i64 b.dn.sel, .int .i64 b.dn.win, .int .i64 b.mn, .int .i64 b.mx] 28
  rw [hwb] at hbx hk
  have k3 : CellsW wb w.heap.size [_, _, _, _, _, _, _, _] := hk
  have e0 := later_cell k3.1 (k3.2 0 (by simp)).1
  have e1 := later_cell k3.1 (k3.2 1 (by simp)).1
  have e2 := later_cell k3.1 (k3.2 2 (by simp)).1
  have e3 := later_cell k3.1 (k3.2 3 (by simp)).1
  have e4 := later_cell k3.1 (k3.2 4 (by simp)).1
  have e5 := later_cell k3.1 (k3.2 5 (by simp)).1
  have e6 := later_cell k3.1 (k3.2 6 (by simp)).1
  have e7 := later_cell k3.1 (k3.2 7 (by simp)).1
  simp only [List.getElem_cons_zero, List.getElem_cons_succ] at e0 e1 e2 e3 e4 e5 e6 e7
  have HUb := Lib.hid (hu.kept hbx)
  have HDb := Lib.hid (hd.kept hbx)
  have HNb := Lib.hid (hn.kept hbx)
  have HMb := Lib.hid (hp.kept hbx)
  have HBx := Lib.hid hbx
  have QS : Hid (∀ q : Later wb, Calls Try.prog 10 #[_, _, _, _, _] q.u fun e w' => e = .returned (.int .i64 x) ∧ Below q.u.heap.size q.u w') := fun q => hst q.u (HUb.out.kept q.h) (HDb.out.kept q.h) (HNb.out.kept q.h)
  have QL : Hid (∀ q : Later wb, Calls Try.prog 59 #[_, _, _, _, _] q.u fun e w' => e = .returned (.int .i64 v) ∧ Below q.u.heap.size q.u w') := fun q => hlm q.u (HUb.out.kept q.h) (HDb.out.kept q.h) (HMb.out.kept q.h)
  clear hst hlm hk k3 hu hd hn hp hbx hx hv
  go_enter Try.func13, Try.ntmps13
  go_wp2_with fail
  try rw [hwb]
  refine region_later mixed (by kernel_rfl) ?_
  repeat (go_big_quiet_step (first | (go_at_call 10; exact later_call (QS.out _)) | (go_at_call 59; exact later_call (QL.out _))))
  refine wpQuiet_nil ?_
  intro w2 hw'
  obtain ⟨⟨_, hw2⟩, rfl⟩ := hw'
  have HB2 := Lib.hid (HBx.out.trans (hw2.mono HBx.out.size))
  clear hw2 e0 e1 e2 e3 e4 e5 e6 e7 QS QL HUb HDb HNb HMb hwb HBx
  go_wp2
  go_ret
  exact ⟨rfl, HB2.out⟩
end Go.Proofs.Ytcjjdnfikccnmaa.Dec
