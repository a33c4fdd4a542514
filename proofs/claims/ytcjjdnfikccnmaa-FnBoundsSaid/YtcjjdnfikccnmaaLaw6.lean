/- Chapter 6's laws FnSteady, FnBounds: the arithmetic behind them. -/
import Derived.Test.YtcjjdnfikccnmaaBhM
namespace Go.Proofs.Ytcjjdnfikccnmaa.Law6
open Go.RowKit
open Go.Proofs.Ytcjjdnfikccnmaa.C1
open Go.Proofs.Ytcjjdnfikccnmaa.Ser
open Go.Proofs.Ytcjjdnfikccnmaa.Pl
open Go.Proofs.Ytcjjdnfikccnmaa.BhM
set_option linter.unusedVariables false

/-- A behaviour without windows. -/
def noWin (b : Bh) : Bh := ⟨⟨b.up.ps, b.up.sel, 0⟩, ⟨b.dn.ps, b.dn.sel, 0⟩, b.mn, b.mx⟩
theorem win_none (now : Int) (ns : List Pt) : winL now 0 ns = [] := by
  unfold winL
  rw [List.filter_eq_nil_iff]
  intro p _
  unfold winB
  simp
theorem low_none (ns : List Pt) (now want : Int) : lowV ns now 0 want = want := by unfold lowV; rw [win_none]; rfl
theorem high_none (ns : List Pt) (now want : Int) : highV ns now 0 want = want := by unfold highV; rw [win_none]; rfl
theorem noWin_ok {b : Bh} (h : behV b = true) : behV (noWin b) = true := by
  simp only [behV, sideV, noWin, Bool.and_eq_true, inV_iff] at h ⊢
  simp_all
theorem steady_law (b : Bh) (ns : List Pt) (now count want : Int) : steadyV b ns now count want = -1 ∨ (0 ≤ steadyV b ns now count want ∧ min count want ≤ steadyV b ns now count want ∧ steadyV b ns now count want ≤ max count want ∧ steadyV (noWin b) ns now count want = want) := by
  cases g : steadyG b ns now count want
  · left
    unfold steadyV
    rw [g]
    rfl
  · right
    have g2 : steadyG (noWin b) ns now count want = true := by
      unfold steadyG at g ⊢
      simp only [Bool.and_eq_true] at g ⊢
      exact ⟨noWin_ok g.1, g.2⟩
    have e1 : steadyV b ns now count want = cutTo count (lowV ns now b.up.win want) (highV ns now b.dn.win want) := by unfold steadyV; rw [g]; rfl
    have e2 : steadyV (noWin b) ns now count want = cutTo count (lowV ns now 0 want) (highV ns now 0 want) := by unfold steadyV; rw [g2]; rfl
    rw [e2, low_none, high_none, e1]
    have h1 := low_high ns now b.up.win b.dn.win want
    simp only [steadyG, Bool.and_eq_true, countV, inV_iff] at g
    have h3 := low_bd g.2.1 now b.up.win g.2.2.2.2 ns.length
    rw [List.take_length] at h3
    unfold cutTo
    omega
/-- What is asked of a decision. -/
theorem bounds_law (b : Bh) (ns ms : List Pt) (now count want : Int) : decideV b ns ms now count want = -1 ∨ (0 ≤ decideV b ns ms now count want ∧ count ≤ upV b.up ms now count ∧ dnV b.dn ms now count ≤ count ∧ (b.up.sel = 2 → upV b.up ms now count = count) ∧ (b.dn.sel = 2 → dnV b.dn ms now count = count) ∧
    b.mn ≤ decideV b ns ms now count want ∧ decideV b ns ms now count want ≤ b.mx ∧ (decideV b ns ms now count want ≤ upV b.up ms now count ∨ decideV b ns ms now count want = b.mn) ∧ (dnV b.dn ms now count ≤ decideV b ns ms now count want ∨ decideV b ns ms now count want = b.mx)) := by
  unfold decideV
  generalize steadyV b ns now count want = st
  cases g : limitG b ms now count st
  · left
    unfold limitV
    rw [g]
    rfl
  · right
    have e1 : limitV b ms now count st = cutTo (cutTo st (dnV b.dn ms now count) (upV b.up ms now count)) b.mn b.mx := by unfold limitV; rw [g]; rfl
    have g' := g
    simp only [limitG, Bool.and_eq_true] at g
    have hb := beh_bd g.1
    have gu : boundG b.up ms now count = true := by
      unfold boundG
      simp only [Bool.and_eq_true]
      exact ⟨hb.1, g.2.1, g.2.2.1, g.2.2.2.1⟩
    have gd : boundG b.dn ms now count = true := by
      unfold boundG
      simp only [Bool.and_eq_true]
      exact ⟨hb.2.1, g.2.1, g.2.2.1, g.2.2.2.1⟩
    have h1 := up_bd gu
    have h2 := dn_bd gd
    have h3 : b.up.sel = 2 → upV b.up ms now count = count := fun h => by unfold upV; rw [if_pos gu, if_pos h]
    have h4 : b.dn.sel = 2 → dnV b.dn ms now count = count := fun h => by unfold dnV; rw [if_pos gd, if_pos h]
    rw [e1]
    unfold cutTo
    refine ⟨by omega, by omega, by omega, h3, h4, by omega, by omega, by omega, by omega⟩
end Go.Proofs.Ytcjjdnfikccnmaa.Law6
