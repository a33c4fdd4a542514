/- Goals and tallies: how they lie; GoalOk, both sides; laws.toGoal, szGoal, eqGoal, toTally; plain mathematics of chapter 5. -/
import Derived.Test.YtgmdfkmmbcpikaaDoorC1
import Derived.Test.YtgmdfkmmbcpikaaDoorC2
import Derived.Test.YtgmdfkmmbcpikaaDoorMem
import Derived.Test.YtgmdfkmmbcpikaaDoorPd
namespace Go.Proofs.YtgmdfkmmbcpikaaDoor.Gl
open Go.RowKit
open Go.Proofs.YtgmdfkmmbcpikaaDoor.C1
open Go.Proofs.YtgmdfkmmbcpikaaDoor.C2
open Go.Proofs.YtgmdfkmmbcpikaaDoor.Smps
open Go.Proofs.YtgmdfkmmbcpikaaDoor.Mem
open Go.Proofs.YtgmdfkmmbcpikaaDoor.Pd
set_option linter.unusedVariables false

structure Gl where
  met : ByteArray
  tar : Int
  tol : Int
def glV (g : Gl) : Value := .agg #[.string g.met, .int .i64 g.tar, .int .i64 g.tol]
structure Gl.wf (g : Gl) : Prop where
  met : g.met.size ≤ maxLen
  tar : -9223372036854775808 ≤ g.tar ∧ g.tar ≤ 9223372036854775807
  tol : -9223372036854775808 ≤ g.tol ∧ g.tol ≤ 9223372036854775807
structure Ty where
  rdy : Int
  unr : Int
  mis : Int
  sum : Int
def tyV (t : Ty) : Value := .agg #[.int .i64 t.rdy, .int .i64 t.unr, .int .i64 t.mis, .int .i64 t.sum]
structure Ty.wf (t : Ty) : Prop where
  rdy : -9223372036854775808 ≤ t.rdy ∧ t.rdy ≤ 9223372036854775807
  unr : -9223372036854775808 ≤ t.unr ∧ t.unr ≤ 9223372036854775807
  mis : -9223372036854775808 ≤ t.mis ∧ t.mis ≤ 9223372036854775807
  sum : -9223372036854775808 ≤ t.sum ∧ t.sum ≤ 9223372036854775807

/-! ### Plain mathematics. -/
/-- A valid goal. -/
def okG (g : Gl) : Bool := nameV g.met.data.toList && inB g.tar 1 1000000 && inB g.tol 0 1000
/-- A usable tally. -/
def okU (t : Ty) : Bool := inB t.rdy 1 12 && inB t.unr 0 12 && inB t.mis 0 12 && inB t.sum 0 1000000000
def ldOk (s n : Int) : Bool := inB s 0 1000000000 && inB n 1 1000
/-- RatioSign. -/
def rsV (s n t : Int) : Int := if (ldOk s n && inB t 1 1000000) = true then (if s < n * t then -1 else if n * t < s then 1 else 0) else 2
/-- InBand. -/
def bandV (s n : Int) (g : Gl) : Bool := ldOk s n && okG g && nbV s (n * g.tar) g.tol
/-- RefillOf of a usable tally. -/
def rfS (t : Ty) (g : Gl) : Int := if rsV t.sum t.rdy g.tar = -1 then t.sum + t.mis * g.tar else t.sum
def rfN (t : Ty) (g : Gl) : Int := if rsV t.sum t.rdy g.tar = -1 then t.rdy + t.mis else if rsV t.sum t.rdy g.tar = 1 then t.rdy + t.unr + t.mis else t.rdy
/-- The direction of a load. -/
def jdV (s n : Int) (g : Gl) : Int := if bandV s n g = true then 0 else rsV s n g.tar
theorem in_iff {x lo hi : Int} : inB x lo hi = true ↔ lo ≤ x ∧ x ≤ hi := by unfold inB; simp
theorem in_not {x lo hi : Int} : inB x lo hi = false ↔ x < lo ∨ hi < x := by unfold inB; simp; omega
theorem okG_iff (g : Gl) : okG g = true ↔ nameV g.met.data.toList = true ∧ (1 ≤ g.tar ∧ g.tar ≤ 1000000) ∧ (0 ≤ g.tol ∧ g.tol ≤ 1000) := by
  unfold okG
  simp only [Bool.and_eq_true, in_iff, and_assoc]
theorem okU_iff (t : Ty) : okU t = true ↔ (1 ≤ t.rdy ∧ t.rdy ≤ 12) ∧ (0 ≤ t.unr ∧ t.unr ≤ 12) ∧ (0 ≤ t.mis ∧ t.mis ≤ 12) ∧ (0 ≤ t.sum ∧ t.sum ≤ 1000000000) := by
  unfold okU
  simp only [Bool.and_eq_true, in_iff, and_assoc]
theorem ldOk_iff (s n : Int) : ldOk s n = true ↔ (0 ≤ s ∧ s ≤ 1000000000) ∧ (1 ≤ n ∧ n ≤ 1000) := by
  unfold ldOk
  simp only [Bool.and_eq_true, in_iff]
theorem prod_bd {n t : Int} (h1 : 1 ≤ n) (h2 : n ≤ 1000) (h3 : 1 ≤ t) (h4 : t ≤ 1000000) : 1 ≤ n * t ∧ n * t ≤ 1000000000 := by
  have a := Int.mul_le_mul h1 h3 (by omega) (by omega)
  have b := Int.mul_le_mul h2 h4 (by omega) (by omega)
  omega
theorem rs_good {s n t : Int} (h1 : ldOk s n = true) (h2 : inB t 1 1000000 = true) : (s < n * t ∧ rsV s n t = -1) ∨ (n * t < s ∧ rsV s n t = 1) ∨ (s = n * t ∧ rsV s n t = 0) := by
  unfold rsV
  rw [h1, h2]
  simp only [Bool.and_self, if_true]
  by_cases a : s < n * t
  · exact .inl ⟨a, by rw [if_pos a]⟩
  · by_cases b : n * t < s
    · exact .inr (.inl ⟨b, by rw [if_neg a, if_pos b]⟩)
    · exact .inr (.inr ⟨by omega, by rw [if_neg a, if_neg b]⟩)
theorem rs_bad {s n t : Int} (h : ldOk s n = false ∨ inB t 1 1000000 = false) : rsV s n t = 2 := by
  unfold rsV
  rw [if_neg]
  rcases h with h | h <;> rw [h] <;> simp
theorem rs_bad3 {s n t : Int} (h : inB s 0 1000000000 = false ∨ inB n 1 1000 = false ∨ inB t 1 1000000 = false) : rsV s n t = 2 := by
  rcases h with h | h | h
  · exact rs_bad (.inl (by unfold ldOk; rw [h]; rfl))
  · exact rs_bad (.inl (by unfold ldOk; rw [h]; simp))
  · exact rs_bad (.inr h)
/-- A load of exactly the target is in the band. -/
theorem band_same {s n : Int} {g : Gl} (h1 : ldOk s n = true) (h2 : okG g = true) (h : s = n * g.tar) : bandV s n g = true := by
  obtain ⟨-, ⟨t1, t2⟩, o1, o2⟩ := (okG_iff g).1 h2
  obtain ⟨⟨s1, s2⟩, n1, n2⟩ := (ldOk_iff s n).1 h1
  unfold bandV
  rw [h1, h2, ← h]
  have hm := Int.mul_nonneg s1 o1
  rcases nb_good (in_yes s1 s2) (in_yes s1 s2) (in_yes (show (0 : Int) ≤ g.tol from o1) o2) with ⟨a, -⟩ | ⟨a, -⟩ | ⟨-, e⟩
  · omega
  · omega
  · rw [e]
    simpa using hm
/-! ### How they lie. -/
end Go.Proofs.YtgmdfkmmbcpikaaDoor.Gl
