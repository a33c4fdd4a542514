/- The program's small functions of chapter 6: tests of one policy, side, behaviour; cuts; the bounds that one policy allows. -/
import Derived.Test.YtgmdfkmmbcpikaaGreatBhM
namespace Go.Proofs.YtgmdfkmmbcpikaaGreat.BhI
open Go.RowKit
open Go.Proofs.YtgmdfkmmbcpikaaGreat.C1
open Go.Proofs.YtgmdfkmmbcpikaaGreat.C2
open Go.Proofs.YtgmdfkmmbcpikaaGreat.Smps
open Go.Proofs.YtgmdfkmmbcpikaaGreat.Mem
open Go.Proofs.YtgmdfkmmbcpikaaGreat.Ser
open Go.Proofs.YtgmdfkmmbcpikaaGreat.Pl
open Go.Proofs.YtgmdfkmmbcpikaaGreat.BhM
set_option linter.unusedVariables false

theorem inV_ways (n a b : Int) : (a ≤ n ∧ n ≤ b ∧ inV n a b = true) ∨ (n < a ∧ inV n a b = false) ∨ (b < n ∧ a ≤ n ∧ inV n a b = false) := by
  unfold inV
  by_cases h1 : a ≤ n
  · by_cases h2 : n ≤ b
    · exact .inl ⟨h1, h2, by simp [h1, h2]⟩
    · exact .inr (.inr ⟨by omega, h1, by simp; omega⟩)
  · exact .inr (.inl ⟨by omega, by simp; omega⟩)
theorem impl_count6 (n : Int) (w : World) :
    Calls Tryz.prog 80 #[.int .i64 n] w fun e w' => e = .returned (.bool (countV n)) ∧ w = w' := by
  unfold countV
  rcases inV_ways n 0 1000 with ⟨h1, h2, e⟩ | ⟨h1, e⟩ | ⟨h1, h2, e⟩
  all_goals
    rw [e]
    clear e
    go_enter Tryz.func80, Tryz.ntmps80
    go_wp2
    go_ret
    exact ⟨ret1B (by first | rfl | (simp; try omega)), rfl⟩
theorem impl_span (n : Int) (w : World) :
    Calls Tryz.prog 176 #[.int .i64 n] w fun e w' => e = .returned (.bool (inV n 0 1000)) ∧ w = w' := by
  rcases inV_ways n 0 1000 with ⟨h1, h2, e⟩ | ⟨h1, e⟩ | ⟨h1, h2, e⟩
  all_goals
    rw [e]
    clear e
    go_enter Tryz.func176, Tryz.ntmps176
    go_wp2
    go_ret
    exact ⟨ret1B (by first | rfl | (simp; try omega)), rfl⟩
theorem impl_tick6 (x : Int) (w : World) : Calls Tryz.prog 79 #[.int .i64 x] w fun e w' => e = .returned (.bool (tickV x)) ∧ w = w' := C2.impl_tick x w
theorem pol_ways (p : Pl) : (p.kd < 0 ∧ polV p = false) ∨ (0 ≤ p.kd ∧ 1 < p.kd ∧ polV p = false) ∨ (0 ≤ p.kd ∧ p.kd ≤ 1 ∧ p.va ≤ 0 ∧ polV p = false) ∨ (0 ≤ p.kd ∧ p.kd ≤ 1 ∧ 0 < p.va ∧ 1000 < p.va ∧ polV p = false) ∨
    (0 ≤ p.kd ∧ p.kd ≤ 1 ∧ 0 < p.va ∧ p.va ≤ 1000 ∧ p.pe ≤ 0 ∧ polV p = false) ∨ (0 ≤ p.kd ∧ p.kd ≤ 1 ∧ 0 < p.va ∧ p.va ≤ 1000 ∧ 0 < p.pe ∧ polV p = inV p.pe 0 1000) := by
  by_cases h1 : 0 ≤ p.kd
  · by_cases h2 : p.kd ≤ 1
    · by_cases h3 : 0 < p.va
      · by_cases h4 : p.va ≤ 1000
        · by_cases h5 : 0 < p.pe
          · refine .inr (.inr (.inr (.inr (.inr ⟨h1, h2, h3, h4, h5, ?_⟩))))
            unfold polV inV
            rw [Bool.eq_iff_iff]
            simp only [Bool.and_eq_true, decide_eq_true_eq]
            omega
          · exact .inr (.inr (.inr (.inr (.inl ⟨h1, h2, h3, h4, by omega, by unfold polV inV; simp; omega⟩))))
        · exact .inr (.inr (.inr (.inl ⟨h1, h2, h3, by omega, by unfold polV inV; simp; omega⟩)))
      · exact .inr (.inr (.inl ⟨h1, h2, by omega, by unfold polV inV; simp; omega⟩))
    · exact .inr (.inl ⟨h1, by omega, by unfold polV inV; simp; omega⟩)
  · exact .inl ⟨by omega, by unfold polV inV; simp; omega⟩
theorem impl_polok (p : Pl) (w : World) :
    Calls Tryz.prog 206 #[plV p] w fun e w' => e = .returned (.bool (polV p)) ∧ Below w.heap.size w w' := by
  unfold plV
  rcases pol_ways p with ⟨h1, e⟩ | ⟨h1, h2, e⟩ | ⟨h1, h2, h3, e⟩ | ⟨h1, h2, h3, h4, e⟩ | ⟨h1, h2, h3, h4, h5, e⟩ | ⟨h1, h2, h3, h4, h5, e⟩
  all_goals
    rw [e]
    clear e
    go_enter Tryz.func206, Tryz.ntmps206
    go_wp2_with (go_at_call 176; refine (impl_span _ _).mono ?_; rintro e w' ⟨rfl, rfl⟩)
    go_ret
    exact ⟨ret1B (by first | rfl | (simp; try omega)), box_below _ _ _⟩
end Go.Proofs.YtgmdfkmmbcpikaaGreat.BhI
