/- Goals and tallies: how they lie; GoalOk, both sides; laws.toGoal, szGoal, eqGoal, toTally; plain mathematics of chapter 5. -/
import Derived.Test.YtgmdfkmmbcpikaaGreatC1
import Derived.Test.YtgmdfkmmbcpikaaGreatC2
import Derived.Test.YtgmdfkmmbcpikaaGreatMem
import Derived.Test.YtgmdfkmmbcpikaaGreatPd
namespace Go.Proofs.YtgmdfkmmbcpikaaGreat.Gl
open Go.RowKit
open Go.Proofs.YtgmdfkmmbcpikaaGreat.C1
open Go.Proofs.YtgmdfkmmbcpikaaGreat.C2
open Go.Proofs.YtgmdfkmmbcpikaaGreat.Smps
open Go.Proofs.YtgmdfkmmbcpikaaGreat.Mem
open Go.Proofs.YtgmdfkmmbcpikaaGreat.Pd
set_option linter.unusedVariables false

structure Gl where
  met : ByteArray
  tar : Int
  tol : Int
def glV (g : Gl) : Value := .agg #[.string g.met, .int .i64 g.tar, .int .i64 g.tol]
structure Gl.wf (g : Gl) : Prop where
  met : g.met.size ≤ maxLen
  tar : -9223372036854775808 ≤ g.tar ∧ g.tar ≤ 9223372036854775807
  tol : -9223372036854775808 ≤ g.tol ∧ g.tol ≤ 9223372036854775807
structure Ty where
  rdy : Int
  unr : Int
  mis : Int
  sum : Int
def tyV (t : Ty) : Value := .agg #[.int .i64 t.rdy, .int .i64 t.unr, .int .i64 t.mis, .int .i64 t.sum]
structure Ty.wf (t : Ty) : Prop where
  rdy : -9223372036854775808 ≤ t.rdy ∧ t.rdy ≤ 9223372036854775807
  unr : -9223372036854775808 ≤ t.unr ∧ t.unr ≤ 9223372036854775807
  mis : -9223372036854775808 ≤ t.mis ∧ t.mis ≤ 9223372036854775807
  sum : -9223372036854775808 ≤ t.sum ∧ t.sum ≤ 9223372036854775807

/-! ### Plain mathematics. -/
/-- A valid goal. -/
def okG (g : Gl) : Bool := nameV g.met.data.toList && inB g.tar 1 1000000 && inB g.tol 0 1000
/-- A usable tally. -/
def okU (t : Ty) : Bool := inB t.rdy 1 12 && inB t.unr 0 12 && inB t.mis 0 12 && inB t.sum 0 1000000000
def ldOk (s n : Int) : Bool := inB s 0 1000000000 && inB n 1 1000
/-- RatioSign. -/
def rsV (s n t : Int) : Int := if (ldOk s n && inB t 1 1000000) = true then (if s < n * t then -1 else if n * t < s then 1 else 0) else 2
/-- InBand. -/
def bandV (s n : Int) (g : Gl) : Bool := ldOk s n && okG g && nbV s (n * g.tar) g.tol
/-- RefillOf of a usable tally. -/
def rfS (t : Ty) (g : Gl) : Int := if rsV t.sum t.rdy g.tar = -1 then t.sum + t.mis * g.tar else t.sum
def rfN (t : Ty) (g : Gl) : Int := if rsV t.sum t.rdy g.tar = -1 then t.rdy + t.mis else if rsV t.sum t.rdy g.tar = 1 then t.rdy + t.unr + t.mis else t.rdy
/-- The direction of a load. -/
def jdV (s n : Int) (g : Gl) : Int := if bandV s n g = true then 0 else rsV s n g.tar
theorem in_iff {x lo hi : Int} : inB x lo hi = true ↔ lo ≤ x ∧ x ≤ hi := by unfold inB; simp
theorem in_not {x lo hi : Int} : inB x lo hi = false ↔ x < lo ∨ hi < x := by unfold inB; simp; omega
theorem okG_iff (g : Gl) : okG g = true ↔ nameV g.met.data.toList = true ∧ (1 ≤ g.tar ∧ g.tar ≤ 1000000) ∧ (0 ≤ g.tol ∧ g.tol ≤ 1000) := by
  unfold okG
  simp only [Bool.and_eq_true, in_iff, and_assoc]
theorem okU_iff (t : Ty) : okU t = true ↔ (1 ≤ t.rdy ∧ t.rdy ≤ 12) ∧ (0 ≤ t.unr ∧ t.unr ≤ 12) ∧ (0 ≤ t.mis ∧ t.mis ≤ 12) ∧ (0 ≤ t.sum ∧ t.sum ≤ 1000000000) := by
  unfold okU
  simp only [Bool.and_eq_true, in_iff, and_assoc]
theorem ldOk_iff (s n : Int) : ldOk s n = true ↔ (0 ≤ s ∧ s ≤ 1000000000) ∧ (1 ≤ n ∧ n ≤ 1000) := by
  unfold ldOk
  simp only [Bool.and_eq_true, in_iff]
theorem prod_bd {n t : Int} (h1 : 1 ≤ n) (h2 : n ≤ 1000) (h3 : 1 ≤ t) (h4 : t ≤ 1000000) : 1 ≤ n * t ∧ n * t ≤ 1000000000 := by
  have a := Int.mul_le_mul h1 h3 (by omega) (by omega)
  have b := Int.mul_le_mul h2 h4 (by omega) (by omega)
  omega
theorem rs_good {s n t : Int} (h1 : ldOk s n = true) (h2 : inB t 1 1000000 = true) : (s < n * t ∧ rsV s n t = -1) ∨ (n * t < s ∧ rsV s n t = 1) ∨ (s = n * t ∧ rsV s n t = 0) := by
  unfold rsV
  rw [h1, h2]
  simp only [Bool.and_self, if_true]
  by_cases a : s < n * t
  · exact .inl ⟨a, by rw [if_pos a]⟩
  · by_cases b : n * t < s
    · exact .inr (.inl ⟨b, by rw [if_neg a, if_pos b]⟩)
    · exact .inr (.inr ⟨by omega, by rw [if_neg a, if_neg b]⟩)
theorem rs_bad {s n t : Int} (h : ldOk s n = false ∨ inB t 1 1000000 = false) : rsV s n t = 2 := by
  unfold rsV
  rw [if_neg]
  rcases h with h | h <;> rw [h] <;> simp
theorem rs_bad3 {s n t : Int} (h : inB s 0 1000000000 = false ∨ inB n 1 1000 = false ∨ inB t 1 1000000 = false) : rsV s n t = 2 := by
  rcases h with h | h | h
  · exact rs_bad (.inl (by unfold ldOk; rw [h]; rfl))
  · exact rs_bad (.inl (by unfold ldOk; rw [h]; simp))
  · exact rs_bad (.inr h)
/-- A load of exactly the target is in the band. -/
theorem band_same {s n : Int} {g : Gl} (h1 : ldOk s n = true) (h2 : okG g = true) (h : s = n * g.tar) : bandV s n g = true := by
  obtain ⟨-, ⟨t1, t2⟩, o1, o2⟩ := (okG_iff g).1 h2
  obtain ⟨⟨s1, s2⟩, n1, n2⟩ := (ldOk_iff s n).1 h1
  unfold bandV
  rw [h1, h2, ← h]
  have hm := Int.mul_nonneg s1 o1
  rcases nb_good (in_yes s1 s2) (in_yes s1 s2) (in_yes (show (0 : Int) ≤ g.tol from o1) o2) with ⟨a, -⟩ | ⟨a, -⟩ | ⟨-, e⟩
  · omega
  · omega
  · rw [e]
    simpa using hm
/-! ### How they lie. -/
theorem to_goal (g : Gl) (w : World) :
    Calls Tryz.prog 113 #[glV g] w fun e w' => e = .returned (glV g) ∧ Below w.heap.size w w' := by
  unfold glV
  go_enter Tryz.func113, Tryz.ntmps113
  go_wp2
  exact bodyPost_ret (v := .agg #[.string g.met, .int .i64 g.tar, .int .i64 g.tol]) (by simp [results, Tryz.results113, go_sem]) rfl ⟨rfl, box3_below _ _ _ _⟩
theorem sz_goal (g : Gl) (hs : g.wf) (left : Int) (h0 : 0 ≤ left) (h1 : left ≤ 1048576) (w : World) :
    Calls Tryz.prog 109 #[glV g, .int .i64 left] w fun e w' => e = .returned (.int .i64 (if left < g.met.size then -1 else left - g.met.size)) ∧ Below w.heap.size w w' := by
  unfold glV
  obtain ⟨hp, -, -⟩ := hs
  unfold maxLen at hp
  by_cases a1 : left < g.met.size
  · rw [if_pos (by omega)]
    go_enter Tryz.func109, Tryz.ntmps109
    go_wp2
    go_ret
    exact ⟨rfl, box_below _ _ _⟩
  · rw [if_neg a1]
    go_enter Tryz.func109, Tryz.ntmps109
    go_wp2
    go_ret
    exact ⟨ret1I (by first | rfl | omega), box_below _ _ _⟩
theorem spec_goalok (g : Gl) (hs : g.wf) (w : World) :
    Calls Tryz.prog 63 #[glV g] w fun e w' => e = .returned (.bool (okG g)) ∧ Below w.heap.size w w' := by
  obtain ⟨hp, -, -⟩ := hs
  unfold maxLen at hp
  unfold glV okG
  cases c1 : nameV g.met.data.toList
  · go_enter Tryz.func63, Tryz.ntmps63
    go_wp2_with (go_at_call 66; refine (spec_name _ (by omega) _).mono ?_; rintro e w' ⟨rfl, rfl⟩)
    go_ret
    exact ⟨ret1B (by simp), box_below _ _ _⟩
  · cases c2 : inB g.tar 1 1000000
    all_goals
      go_enter Tryz.func63, Tryz.ntmps63
      go_wp2_with (first | (go_at_call 66; refine (spec_name _ (by omega) _).mono ?_; rintro e w' ⟨rfl, rfl⟩) | (go_at_call 31; refine (C1.spec_in _ _ _ _).mono ?_; rintro e w' ⟨rfl, rfl⟩))
      go_ret
      exact ⟨ret1B (by simp), box_below _ _ _⟩
theorem impl_target (t : Int) (w : World) :
    Calls Tryz.prog 149 #[.int .i64 t] w fun e w' => e = .returned (.bool (inB t 1 1000000)) ∧ w = w' := by
  rcases in_ways t 1 1000000 with ⟨h1, h2, e⟩ | ⟨h1 | h1, e⟩
  all_goals
    rw [e]
    clear e
    go_enter Tryz.func149, Tryz.ntmps149
    go_wp2
    go_ret
    exact ⟨ret1B (by simp; try omega), rfl⟩
theorem impl_goalok (g : Gl) (hs : g.wf) (w : World) :
    Calls Tryz.prog 118 #[glV g] w fun e w' => e = .returned (.bool (okG g)) ∧ Below w.heap.size w w' := by
  obtain ⟨hp, -, -⟩ := hs
  unfold maxLen at hp
  unfold glV okG
  cases c1 : nameV g.met.data.toList
  · go_enter Tryz.func118, Tryz.ntmps118
    go_wp2_with (go_at_call 120; refine (impl_name _ (by omega) _).mono ?_; rintro e w1 ⟨rfl, hb1⟩; obtain ⟨r1, r2, q0, q1, q2⟩ := box_read3 hb1; clear hb1)
    go_ret
    exact ⟨ret1B (by simp), r2⟩
  · cases c2 : inB g.tar 1 1000000
    all_goals
      go_enter Tryz.func118, Tryz.ntmps118
      go_wp2_with (go_at_call 120; refine (impl_name _ (by omega) _).mono ?_; rintro e w1 ⟨rfl, hb1⟩; obtain ⟨r1, r2, q0, q1, q2⟩ := box_read3 hb1; clear hb1)
      go_wp2_with (first | (go_at_call 149; refine (impl_target _ _).mono ?_; rintro e w' ⟨rfl, rfl⟩) | (go_at_call 150; refine (impl_isTolerance _ _).mono ?_; rintro e w' ⟨rfl, rfl⟩))
      go_ret
      exact ⟨ret1B (by simp), r2⟩
theorem eq_goal (g : Gl) (w : World) :
    Calls Tryz.prog 128 #[glV g, glV g] w fun e w' => e = .returned (.bool true) ∧ Below w.heap.size w w' := by
  unfold glV
  go_enter Tryz.func128, Tryz.ntmps128
  go_wp2
  go_ret
  exact ⟨rfl, box2_below _ _ _⟩
end Go.Proofs.YtgmdfkmmbcpikaaGreat.Gl
