/- The draws of chapter 1's laws. -/
import Derived.Test.YtcjjdnfikccnmaaDraw
namespace Go.Proofs.Ytcjjdnfikccnmaa.Draw1
open Go.RowKit Go.Deep
open Go.Proofs.Ytcjjdnfikccnmaa.C1 Go.Proofs.Ytcjjdnfikccnmaa.Ints Go.Proofs.Ytcjjdnfikccnmaa.Draw
set_option linter.unusedVariables false

theorem small_mul (x k : Int) (h1 : -1000000001 ≤ x) (h2 : x ≤ 1000000001) (h3 : 0 ≤ k) (h4 : k ≤ 10) : -1000000001 * 10 ≤ x * k ∧ x * k ≤ 1000000001 * 10 := by
  constructor
  · have a1 : -1000000001 * k ≤ x * k := Int.mul_le_mul_of_nonneg_right h1 h3
    omega
  · have a1 : x * k ≤ 1000000001 * k := Int.mul_le_mul_of_nonneg_right h2 h3
    omega
theorem small_mul2 {x q : Int} (h1 : -1 ≤ x) (h2 : x ≤ 1000000001) (h3 : 0 ≤ q) (h4 : q ≤ 9 - 1) : -10000000010 ≤ x * (1 + q) ∧ x * (1 + q) ≤ 10000000010 := by
  have := small_mul x (1 + q) (by omega) h2 (by omega) (by omega)
  omega
theorem small_mul3 {x q : Int} (h1 : 0 ≤ x) (h2 : x ≤ 1000000000) (h3 : 0 ≤ q) (h4 : q ≤ 9 - 1) : -10000000010 ≤ x * (1 + q) ∧ x * (1 + q) ≤ 10000000010 := by
  have := small_mul x (1 + q) (by omega) (by omega) (by omega) (by omega)
  omega
end Go.Proofs.Ytcjjdnfikccnmaa.Draw1
