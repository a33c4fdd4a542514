/- RatioSign, InBand: both sides; math.Inf, IsInf, Abs; the deviation as a float. -/
import Derived.Test.YtimpajhgplkpmabDoorFlt
import Derived.Test.YtimpajhgplkpmabDoorGl
namespace Go.Proofs.YtimpajhgplkpmabDoor.Rs
open Go.RowKit
open Go.Proofs.YtimpajhgplkpmabDoor.C1
open Go.Proofs.YtimpajhgplkpmabDoor.C2
open Go.Proofs.YtimpajhgplkpmabDoor.Smps
open Go.Proofs.YtimpajhgplkpmabDoor.Mem
open Go.Proofs.YtimpajhgplkpmabDoor.Pd
open Go.Proofs.YtimpajhgplkpmabDoor.Flt
open Go.Proofs.YtimpajhgplkpmabDoor.Gl
set_option linter.unusedVariables false

/-! ### The package math. -/
theorem abs_means {b : Nat} {n : Int} (h : Means b n) (hb : b < 18446744073709551616) : Means (b % 9223372036854775808) (n.natAbs : Int) := by
  obtain ⟨s, m, p, h1, h2, h3⟩ := h
  refine ⟨false, m, p, ?_, h2, ?_⟩
  · have hs : Ieee.double.signWeight = 9223372036854775808 := by decide
    unfold Ieee.Format.read at h1 ⊢
    rw [hs] at h1 ⊢
    have e1 : b % 9223372036854775808 / 9223372036854775808 % 2 = 0 := by omega
    have e2 : b % 9223372036854775808 % 9223372036854775808 = b % 9223372036854775808 := by omega
    simp only [e1, e2] at h1 ⊢
    split at h1
    · rename_i g
      rw [if_pos g]
      cases h1
      rfl
    · rename_i g
      rw [if_neg g]
      split at h1
      · rename_i g2
        rw [if_pos g2]
        cases h1
        rfl
      · split at h1 <;> cases h1
  · unfold Ieee.signed at h3 ⊢
    rw [if_neg (by decide)]
    have h0 : (0 : Int) ≤ ((m <<< (p + E).toNat : Nat) : Int) := Int.natCast_nonneg _
    have hE := two_pos E
    by_cases hn : n < 0
    · have hs : s = true := by
        cases s
        · rw [if_neg (by decide)] at h3
          have := Int.mul_neg_of_neg_of_pos hn hE
          omega
        · rfl
      rw [hs, if_pos rfl] at h3
      rw [show ((n.natAbs : Nat) : Int) = -n by omega, Int.neg_mul, ← h3, Int.neg_neg]
    · rw [show ((n.natAbs : Nat) : Int) = n by omega]
      cases s
      · rw [if_neg (by decide)] at h3
        exact h3
      · rw [if_pos rfl] at h3
        have := Int.mul_nonneg (show 0 ≤ n by omega) (Int.le_of_lt hE)
        omega
/-! ### impl.signOf. -/
/-! ### Loads. -/
def ldV (s n : Int) : Value := .agg #[.int .i64 s, .int .i64 n]
theorem box_read2 {w w1 : World} {v0 v1 : Value} {t : TypeId} (h : Below (w.alloc (.cells #[v0, v1] t)).heap.size (w.alloc (.cells #[v0, v1] t)) w1) :
    w.heap.size < w1.heap.size ∧ Below w.heap.size w w1 ∧ w1.cell? ⟨w.heap.size, 0, none⟩ = some v0 ∧ w1.cell? ⟨w.heap.size, 1, none⟩ = some v1 := by
  have hz : (w.alloc (.cells #[v0, v1] t)).heap.size = w.heap.size + 1 := by simp
  have hs := h.size
  rw [hz] at hs
  have hc : ∀ j, w1.cell? ⟨w.heap.size, j, none⟩ = (w.alloc (.cells #[v0, v1] t)).cell? ⟨w.heap.size, j, none⟩ := fun j => h.cell (p := ⟨w.heap.size, j, none⟩) (by show w.heap.size < _; omega)
  refine ⟨by omega, (box_below w _ t).trans (h.mono (by omega)), ?_, ?_⟩ <;> rw [hc, World.cell?_alloc_new] <;> rfl
/-- The deviation of a load. -/
def DevP (s n t : Int) (e : Ending) : Prop :=
  ((ldOk s n && inB t 1 1000000) = false ∧ e = .returned (.float .f64 9218868437227405312)) ∨
  ((ldOk s n && inB t 1 1000000) = true ∧ ∃ r : Nat, r < 18446744073709551616 ∧ Means r (s - n * t) ∧ e = .returned (.float .f64 r))
/-! ### The model. -/
end Go.Proofs.YtimpajhgplkpmabDoor.Rs
