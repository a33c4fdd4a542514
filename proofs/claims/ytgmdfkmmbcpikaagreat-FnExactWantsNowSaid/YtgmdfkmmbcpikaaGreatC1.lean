/- Plain facts and contracts of the integer functions of chapter 1: what each call answers, for every integer. -/
import Derived.Test.YtgmdfkmmbcpikaaGreatRows
import Derived.WalkKit
import Derived.ProofKit
import Derived.WalkLawsBesides
import Derived.WalkSpells
import Derived.Outline
import Derived.Lib.Hide
import Derived.OpenShut
namespace Go.Proofs.YtgmdfkmmbcpikaaGreat.C1
open Go.RowKit

theorem ret1I {k : IntKind} {a b : Int} (h : a = b) : Ending.returned (.int k a) = .returned (.int k b) := by rw [h]
theorem ret1B {a b : Bool} (h : a = b) : Ending.returned (.bool a) = .returned (.bool b) := by rw [h]
theorem retIB {k : IntKind} {a c : Int} {b d : Bool} (h1 : a = c) (h2 : b = d) :
    Ending.returned (.tuple #[.int k a, .bool b]) = .returned (.tuple #[.int k c, .bool d]) := by rw [h1, h2]

/-! ### CutValue -/
def cutV (x : Int) : Int := if x > 1000000000 then 1000000000 else if x < -1000000000 then -1000000000 else x
def cutB (x : Int) : Bool := decide (x > 1000000000 ∨ x < -1000000000)

theorem cut_ways (x : Int) : (x > 1000000000 ∧ cutV x = 1000000000 ∧ cutB x = true) ∨ (x < -1000000000 ∧ cutV x = -1000000000 ∧ cutB x = true) ∨
    (-1000000000 ≤ x ∧ x ≤ 1000000000 ∧ cutV x = x ∧ cutB x = false) := by
  unfold cutV cutB
  by_cases h1 : x > 1000000000
  · exact .inl ⟨h1, by rw [if_pos h1], by simp [h1]⟩
  · by_cases h2 : x < -1000000000
    · exact .inr (.inl ⟨h2, by rw [if_neg h1, if_pos h2], by simp [h2]⟩)
    · exact .inr (.inr ⟨by omega, by omega, by rw [if_neg h1, if_neg h2], by simp; omega⟩)

theorem spec_cut (x : Int) (w : World) :
    Calls Tryz.prog 165 #[.int .i64 x] w fun e w' => e = .returned (.tuple #[.int .i64 (cutV x), .bool (cutB x)]) ∧ w = w' := by
  rcases cut_ways x with ⟨h, e1, e2⟩ | ⟨h, e1, e2⟩ | ⟨h, h', e1, e2⟩
  all_goals
    rw [e1, e2]
    clear e1 e2
    go_enter Tryz.func165, Tryz.ntmps165
    go_wp2
    go_ret2
    exact ⟨rfl, rfl⟩

theorem impl_cutm (x : Int) (w : World) :
    Calls Tryz.prog 236 #[.int .i64 x] w fun e w' => e = .returned (.tuple #[.int .i64 (cutV x), .bool (cutB x)]) ∧ w = w' := by
  rcases cut_ways x with ⟨h, e1, e2⟩ | ⟨h, e1, e2⟩ | ⟨h, h', e1, e2⟩
  all_goals
    rw [e1, e2]
    clear e1 e2
    go_enter Tryz.func236, Tryz.ntmps236
    go_wp2
    go_ret2
    exact ⟨retIB (by omega) (by simp; try omega), rfl⟩

/-! ### FloorDiv, CeilDiv -/
def flD (a b : Int) : Int := if b < 1 then 0 else a / b
def clD (a b : Int) : Int := if b < 1 then 0 else -((-a) / b)

/-- Go's division and remainder by a positive number, and the divisions rounded down and up. -/
theorem div_parts (a b : Int) (hb : 1 ≤ b) :
    ∃ q r, a.tdiv b = q ∧ a.tmod b = r ∧ -b < r ∧ r < b ∧ (0 ≤ a → 0 ≤ q ∧ q ≤ a ∧ 0 ≤ r) ∧ (a < 0 → a ≤ q ∧ q ≤ 0 ∧ r ≤ 0) ∧ (r < 0 → a < q) ∧ (0 < r → q < a) ∧
      (r < 0 → a / b = q - 1) ∧ (¬ r < 0 → a / b = q) ∧ (0 < r → -((-a) / b) = q + 1) ∧ (¬ 0 < r → -((-a) / b) = q) := by
  refine ⟨_, _, rfl, rfl, ?_⟩
  by_cases ha : 0 ≤ a
  · have e1 : a.tdiv b = a / b := Int.tdiv_eq_ediv_of_nonneg ha
    have e2 : a.tmod b = a % b := Int.tmod_eq_emod_of_nonneg ha
    rw [e1, e2]
    have h1 := Int.emod_nonneg a (show b ≠ 0 by omega)
    have h2 := Int.emod_lt_of_pos a (show 0 < b by omega)
    have h3 := Int.ediv_nonneg ha (show 0 ≤ b by omega)
    have h4 := Int.ediv_le_self b ha
    have h5 := Int.emod_add_mul_ediv a b
    have h6 : a / b ≤ b * (a / b) := by
      have := Int.mul_le_mul_of_nonneg_right hb h3
      omega
    refine ⟨by omega, h2, fun _ => ⟨h3, h4, h1⟩, fun h => by omega, fun h => by omega, fun h => by omega, fun h => by omega, fun _ => rfl, fun hr => ?_, fun hr => ?_⟩
    · have := ((Int.ediv_emod_unique (a := -a) (b := b) (r := b - a % b) (q := -(a / b) - 1) (by omega)).2 ⟨by
        have := Int.emod_add_mul_ediv a b
        rw [Int.mul_sub, Int.mul_neg]; omega, by omega, by omega⟩).1
      rw [this]; omega
    · have := ((Int.ediv_emod_unique (a := -a) (b := b) (r := 0) (q := -(a / b)) (by omega)).2 ⟨by
        have := Int.emod_add_mul_ediv a b
        rw [Int.mul_neg]; omega, by omega, by omega⟩).1
      rw [this]; omega
  · have hn : 0 ≤ -a := by omega
    have e1 : a.tdiv b = -((-a) / b) := by
      have : a = -(-a) := by omega
      rw [this, Int.neg_tdiv, Int.tdiv_eq_ediv_of_nonneg hn]; simp
    have e2 : a.tmod b = -((-a) % b) := by
      have : a = -(-a) := by omega
      rw [this, Int.neg_tmod, Int.tmod_eq_emod_of_nonneg hn]; simp
    rw [e1, e2]
    have h1 := Int.emod_nonneg (-a) (show b ≠ 0 by omega)
    have h2 := Int.emod_lt_of_pos (-a) (show 0 < b by omega)
    have h3 := Int.ediv_nonneg hn (show 0 ≤ b by omega)
    have h4 := Int.ediv_le_self b hn
    have h5 := Int.emod_add_mul_ediv (-a) b
    have h6 : -a / b ≤ b * (-a / b) := by
      have := Int.mul_le_mul_of_nonneg_right hb h3
      omega
    refine ⟨by omega, by omega, fun h => by omega, fun _ => ⟨by omega, by omega, by omega⟩, fun h => by omega, fun h => by omega, fun hr => ?_, fun hr => ?_, fun h => by omega, fun _ => by omega⟩
    · exact ((Int.ediv_emod_unique (a := a) (b := b) (r := b - -a % b) (q := -(-a / b) - 1) (by omega)).2 ⟨by
        rw [Int.mul_sub, Int.mul_neg]; omega, by omega, by omega⟩).1
    · exact ((Int.ediv_emod_unique (a := a) (b := b) (r := 0) (q := -(-a / b)) (by omega)).2 ⟨by
        rw [Int.mul_neg]; omega, by omega, by omega⟩).1

theorem wf_bd (a : Int) (h : (Lit.int .i64 a).wf = true) : -9223372036854775808 ≤ a ∧ a ≤ 9223372036854775807 := bounds_i64 h

theorem spec_floor (a b : Int) (w : World) (ha : -9223372036854775808 ≤ a ∧ a ≤ 9223372036854775807) :
    Calls Tryz.prog 196 #[.int .i64 a, .int .i64 b] w fun e w' => e = .returned (.int .i64 (flD a b)) ∧ w = w' := by
  unfold flD
  by_cases hb : b < 1
  · rw [if_pos hb]
    go_enter Tryz.func196, Tryz.ntmps196
    go_wp2
    go_ret
    exact ⟨rfl, rfl⟩
  · rw [if_neg hb]
    obtain ⟨q, r, hq, hr, h1, h2, h3, h4, h5, h5', h6, h7, -, -⟩ := div_parts a b (by omega)
    go_enter Tryz.func196, Tryz.ntmps196
    by_cases hr0 : r < 0
    all_goals
      go_wp2
      go_ret
      exact ⟨ret1I (by omega), rfl⟩

theorem impl_floor (a b : Int) (w : World) (ha : -9223372036854775808 ≤ a ∧ a ≤ 9223372036854775807) :
    Calls Tryz.prog 246 #[.int .i64 a, .int .i64 b] w fun e w' => e = .returned (.int .i64 (flD a b)) ∧ w = w' := by
  unfold flD
  by_cases hb : b < 1
  · rw [if_pos hb]
    go_enter Tryz.func246, Tryz.ntmps246
    go_wp2
    go_ret
    exact ⟨rfl, rfl⟩
  · rw [if_neg hb]
    obtain ⟨q, r, hq, hr, h1, h2, h3, h4, h5, h5', h6, h7, -, -⟩ := div_parts a b (by omega)
    go_enter Tryz.func246, Tryz.ntmps246
    by_cases hr0 : r < 0
    all_goals
      go_wp2
      go_ret
      exact ⟨ret1I (by omega), rfl⟩

theorem spec_ceil (a b : Int) (w : World) (ha : -9223372036854775808 ≤ a ∧ a ≤ 9223372036854775807) :
    Calls Tryz.prog 140 #[.int .i64 a, .int .i64 b] w fun e w' => e = .returned (.int .i64 (clD a b)) ∧ w = w' := by
  unfold clD
  by_cases hb : b < 1
  · rw [if_pos hb]
    go_enter Tryz.func140, Tryz.ntmps140
    go_wp2
    go_ret
    exact ⟨rfl, rfl⟩
  · rw [if_neg hb]
    obtain ⟨q, r, hq, hr, h1, h2, h3, h4, h5, h5', -, -, h6, h7⟩ := div_parts a b (by omega)
    go_enter Tryz.func140, Tryz.ntmps140
    by_cases hr0 : 0 < r
    all_goals
      go_wp2
      go_ret
      exact ⟨ret1I (by omega), rfl⟩

theorem impl_ceil (a b : Int) (w : World) (ha : -9223372036854775808 ≤ a ∧ a ≤ 9223372036854775807) :
    Calls Tryz.prog 205 #[.int .i64 a, .int .i64 b] w fun e w' => e = .returned (.int .i64 (clD a b)) ∧ w = w' := by
  unfold clD
  by_cases hb : b < 1
  · rw [if_pos hb]
    go_enter Tryz.func205, Tryz.ntmps205
    go_wp2
    go_ret
    exact ⟨rfl, rfl⟩
  · rw [if_neg hb]
    obtain ⟨q, r, hq, hr, h1, h2, h3, h4, h5, h5', -, -, h6, h7⟩ := div_parts a b (by omega)
    go_enter Tryz.func205, Tryz.ntmps205
    by_cases hr0 : 0 < r
    all_goals
      go_wp2
      go_ret
      exact ⟨ret1I (by omega), rfl⟩

/-! ### sizes and the other tests of one number -/
def inB (x lo hi : Int) : Bool := decide (lo ≤ x ∧ x ≤ hi)
theorem in_yes {x lo hi : Int} (h1 : lo ≤ x) (h2 : x ≤ hi) : inB x lo hi = true := by unfold inB; simp [h1, h2]
theorem in_no {x lo hi : Int} (h : x < lo ∨ hi < x) : inB x lo hi = false := by unfold inB; simp; omega
theorem in_ways (x lo hi : Int) : (lo ≤ x ∧ x ≤ hi ∧ inB x lo hi = true) ∨ ((x < lo ∨ hi < x) ∧ inB x lo hi = false) := by
  by_cases h : lo ≤ x ∧ x ≤ hi
  · exact .inl ⟨h.1, h.2, in_yes h.1 h.2⟩
  · exact .inr ⟨by omega, in_no (by omega)⟩

theorem spec_in (x lo hi : Int) (w : World) :
    Calls Tryz.prog 31 #[.int .i64 x, .int .i64 lo, .int .i64 hi] w fun e w' => e = .returned (.bool (inB x lo hi)) ∧ w = w' := by
  by_cases h1 : lo ≤ x
  all_goals
    by_cases h2 : x ≤ hi
    all_goals
      go_enter Tryz.func31, Tryz.ntmps31
      go_wp2
      go_ret
      refine ⟨ret1B ?_, rfl⟩
      first | exact (in_yes h1 h2).symm | exact (in_no (by omega)).symm

theorem spec_amt (x : Int) (w : World) :
    Calls Tryz.prog 68 #[.int .i64 x] w fun e w' => e = .returned (.bool (inB x 0 1000000000)) ∧ w = w' := by
  go_enter Tryz.func68, Tryz.ntmps68
  go_wp2_with (go_at_call 31; refine (spec_in _ _ _ _).mono ?_; rintro e w' ⟨rfl, rfl⟩)
  go_ret
  exact ⟨rfl, rfl⟩

theorem spec_value (x : Int) (w : World) :
    Calls Tryz.prog 164 #[.int .i64 x] w fun e w' => e = .returned (.bool (inB x (-1000000000) 1000000000)) ∧ w = w' := by
  go_enter Tryz.func164, Tryz.ntmps164
  go_wp2_with (go_at_call 31; refine (spec_in _ _ _ _).mono ?_; rintro e w' ⟨rfl, rfl⟩)
  go_ret
  exact ⟨rfl, rfl⟩

theorem impl_isSize (x : Int) (w : World) :
    Calls Tryz.prog 187 #[.int .i64 x] w fun e w' => e = .returned (.bool (inB x 0 1000000000)) ∧ w = w' := by
  rcases in_ways x 0 1000000000 with ⟨h1, h2, e⟩ | ⟨h1 | h1, e⟩
  all_goals
    rw [e]
    clear e
    go_enter Tryz.func187, Tryz.ntmps187
    go_wp2
    go_ret
    exact ⟨ret1B (by simp; try omega), rfl⟩

theorem impl_isValue (x : Int) (w : World) :
    Calls Tryz.prog 235 #[.int .i64 x] w fun e w' => e = .returned (.bool (inB x (-1000000000) 1000000000)) ∧ w = w' := by
  rcases in_ways x (-1000000000) 1000000000 with ⟨h1, h2, e⟩ | ⟨h1 | h1, e⟩
  all_goals
    rw [e]
    clear e
    go_enter Tryz.func235, Tryz.ntmps235
    go_wp2
    go_ret
    exact ⟨ret1B (by simp; try omega), rfl⟩

theorem impl_isTolerance (x : Int) (w : World) :
    Calls Tryz.prog 150 #[.int .i64 x] w fun e w' => e = .returned (.bool (inB x 0 1000)) ∧ w = w' := by
  rcases in_ways x 0 1000 with ⟨h1, h2, e⟩ | ⟨h1 | h1, e⟩
  all_goals
    rw [e]
    clear e
    go_enter Tryz.func150, Tryz.ntmps150
    go_wp2
    go_ret
    exact ⟨ret1B (by simp; try omega), rfl⟩

/-! ### MulDiv -/
def mdX (a b c : Int) (up : Bool) : Int := if up then clD (a * b) c else flD (a * b) c
def mdOk (a b c : Int) : Bool := inB a 0 1000000000 && inB b 0 1000000000 && inB c 1 1000000000
def mdV (a b c : Int) (up : Bool) : Int := if mdOk a b c then (if mdX a b c up > 1000000000 then 1000000000 else mdX a b c up) else 0
def mdF (a b c : Int) (up : Bool) : Bool := mdOk a b c && decide (mdX a b c up ≤ 1000000000)

theorem mul_bd {a b : Int} (h1 : 0 ≤ a) (h2 : a ≤ 1000000000) (h3 : 0 ≤ b) (h4 : b ≤ 1000000000) : 0 ≤ a * b ∧ a * b ≤ 1000000000000000000 := by
  refine ⟨Int.mul_nonneg h1 h3, ?_⟩
  have := Int.mul_le_mul h2 h4 h3 (by omega)
  omega

theorem md_bad {a b c : Int} (h : inB a 0 1000000000 = false ∨ inB b 0 1000000000 = false ∨ inB c 1 1000000000 = false) (up : Bool) : mdV a b c up = 0 ∧ mdF a b c up = false := by
  have : mdOk a b c = false := by unfold mdOk; rcases h with h | h | h <;> rw [h] <;> simp
  unfold mdV mdF
  rw [this]
  exact ⟨rfl, rfl⟩

theorem md_good {a b c : Int} (h1 : inB a 0 1000000000 = true) (h2 : inB b 0 1000000000 = true) (h3 : inB c 1 1000000000 = true) (up : Bool) :
    (mdX a b c up > 1000000000 ∧ mdV a b c up = 1000000000 ∧ mdF a b c up = false) ∨ (¬ mdX a b c up > 1000000000 ∧ mdV a b c up = mdX a b c up ∧ mdF a b c up = true) := by
  have : mdOk a b c = true := by unfold mdOk; rw [h1, h2, h3]; rfl
  unfold mdV mdF
  rw [this]
  by_cases h : mdX a b c up > 1000000000
  · exact .inl ⟨h, by simp [h], by simp; omega⟩
  · exact .inr ⟨h, by simp [h], by simp; omega⟩

/-! ### CompareRatios -/
def crOk (a b c d : Int) : Bool := inB a 0 1000000000 && inB c 0 1000000000 && inB b 1 1000000000 && inB d 1 1000000000
def crV (a b c d : Int) : Int := if crOk a b c d then (if a * d < c * b then -1 else if a * d > c * b then 1 else 0) else 2
theorem cr_bad {a b c d : Int} (h : inB a 0 1000000000 = false ∨ inB c 0 1000000000 = false ∨ inB b 1 1000000000 = false ∨ inB d 1 1000000000 = false) : crV a b c d = 2 := by
  have : crOk a b c d = false := by unfold crOk; rcases h with h | h | h | h <;> rw [h] <;> simp
  unfold crV
  rw [this]
  rfl
theorem cr_good {a b c d : Int} (h1 : inB a 0 1000000000 = true) (h2 : inB c 0 1000000000 = true) (h3 : inB b 1 1000000000 = true) (h4 : inB d 1 1000000000 = true) :
    (a * d < c * b ∧ crV a b c d = -1) ∨ (c * b < a * d ∧ crV a b c d = 1) ∨ (¬ a * d < c * b ∧ ¬ c * b < a * d ∧ crV a b c d = 0) := by
  have : crOk a b c d = true := by unfold crOk; rw [h1, h2, h3, h4]; rfl
  unfold crV
  rw [this]
  by_cases h : a * d < c * b
  · exact .inl ⟨h, by simp [h]⟩
  · by_cases g : c * b < a * d
    · exact .inr (.inl ⟨g, by simp [h, g]⟩)
    · exact .inr (.inr ⟨h, g, by simp [h, g]⟩)

/-! ### NearBy -/
def nbOk (a b tol : Int) : Bool := inB a 0 1000000000 && inB b 0 1000000000 && inB tol 0 1000
def nbV (a b tol : Int) : Bool := nbOk a b tol && decide ((if a < b then b - a else a - b) * 1000 ≤ b * tol)
theorem nb_bad {a b tol : Int} (h : inB a 0 1000000000 = false ∨ inB b 0 1000000000 = false ∨ inB tol 0 1000 = false) : nbV a b tol = false := by
  have : nbOk a b tol = false := by unfold nbOk; rcases h with h | h | h <;> rw [h] <;> simp
  unfold nbV
  rw [this]
  rfl
theorem nb_good {a b tol : Int} (h1 : inB a 0 1000000000 = true) (h2 : inB b 0 1000000000 = true) (h3 : inB tol 0 1000 = true) :
    (a < b ∧ nbV a b tol = decide ((b - a) * 1000 ≤ b * tol)) ∨ (b < a ∧ nbV a b tol = decide ((a - b) * 1000 ≤ b * tol)) ∨ (a = b ∧ nbV a b tol = decide (0 ≤ b * tol)) := by
  have : nbOk a b tol = true := by unfold nbOk; rw [h1, h2, h3]; rfl
  unfold nbV
  rw [this]
  rcases Int.lt_trichotomy a b with h | h | h
  · exact .inl ⟨h, by simp [h]⟩
  · subst h
    exact .inr (.inr ⟨rfl, by simp⟩)
  · have : ¬ a < b := by omega
    exact .inr (.inl ⟨h, by simp [this]⟩)

theorem spec_near (a b tol : Int) (w : World) :
    Calls Tryz.prog 166 #[.int .i64 a, .int .i64 b, .int .i64 tol] w fun e w' => e = .returned (.bool (nbV a b tol)) ∧ w = w' := by
  rcases in_ways a 0 1000000000 with ⟨ha1, ha2, ha⟩ | ⟨-, ha⟩
  · rcases in_ways b 0 1000000000 with ⟨hb1, hb2, hb⟩ | ⟨-, hb⟩
    · rcases in_ways tol 0 1000 with ⟨hc1, hc2, hc⟩ | ⟨-, hc⟩
      · obtain ⟨hm1, hm2⟩ := mul_bd hb1 hb2 hc1 (by omega)
        rcases nb_good ha hb hc with ⟨h, e1⟩ | ⟨h, e1⟩ | ⟨h, e1⟩
        all_goals
          rw [e1]
          clear e1
          try subst h
          go_enter Tryz.func166, Tryz.ntmps166
          go_wp2_with (first | (go_at_call 68; refine (spec_amt _ _).mono ?_; rintro e w' ⟨rfl, rfl⟩) | (go_at_call 31; refine (spec_in _ _ _ _).mono ?_; rintro e w' ⟨rfl, rfl⟩))
          go_ret
          exact ⟨ret1B (by first | rfl | (rw [decide_eq_decide]; omega) | (simp; omega)), rfl⟩

      · rw [nb_bad (a := a) (b := b) (tol := tol) (.inr (.inr hc))]
        go_enter Tryz.func166, Tryz.ntmps166
        go_wp2_with (first | (go_at_call 68; refine (spec_amt _ _).mono ?_; rintro e w' ⟨rfl, rfl⟩) | (go_at_call 31; refine (spec_in _ _ _ _).mono ?_; rintro e w' ⟨rfl, rfl⟩))
        go_ret
        exact ⟨rfl, rfl⟩

    · rw [nb_bad (a := a) (b := b) (tol := tol) (.inr (.inl hb))]
      go_enter Tryz.func166, Tryz.ntmps166
      go_wp2_with (first | (go_at_call 68; refine (spec_amt _ _).mono ?_; rintro e w' ⟨rfl, rfl⟩) | (go_at_call 31; refine (spec_in _ _ _ _).mono ?_; rintro e w' ⟨rfl, rfl⟩))
      go_ret
      exact ⟨rfl, rfl⟩

  · rw [nb_bad (a := a) (b := b) (tol := tol) (.inl ha)]
    go_enter Tryz.func166, Tryz.ntmps166
    go_wp2_with (first | (go_at_call 68; refine (spec_amt _ _).mono ?_; rintro e w' ⟨rfl, rfl⟩) | (go_at_call 31; refine (spec_in _ _ _ _).mono ?_; rintro e w' ⟨rfl, rfl⟩))
    go_ret
    exact ⟨rfl, rfl⟩


theorem impl_near (a b tol : Int) (w : World) :
    Calls Tryz.prog 263 #[.int .i64 a, .int .i64 b, .int .i64 tol] w fun e w' => e = .returned (.bool (nbV a b tol)) ∧ w = w' := by
  rcases in_ways a 0 1000000000 with ⟨ha1, ha2, ha⟩ | ⟨-, ha⟩
  · rcases in_ways b 0 1000000000 with ⟨hb1, hb2, hb⟩ | ⟨-, hb⟩
    · rcases in_ways tol 0 1000 with ⟨hc1, hc2, hc⟩ | ⟨-, hc⟩
      · obtain ⟨hm1, hm2⟩ := mul_bd hb1 hb2 hc1 (by omega)
        rcases nb_good ha hb hc with ⟨h, e1⟩ | ⟨h, e1⟩ | ⟨h, e1⟩
        all_goals
          rw [e1]
          clear e1
          try subst h
          go_enter Tryz.func263, Tryz.ntmps263
          go_wp2_with (first | (go_at_call 187; refine (impl_isSize _ _).mono ?_; rintro e w' ⟨rfl, rfl⟩) | (go_at_call 150; refine (impl_isTolerance _ _).mono ?_; rintro e w' ⟨rfl, rfl⟩))
          go_ret
          exact ⟨ret1B (by first | rfl | (rw [decide_eq_decide]; omega) | (simp; omega)), rfl⟩

      · rw [nb_bad (a := a) (b := b) (tol := tol) (.inr (.inr hc))]
        go_enter Tryz.func263, Tryz.ntmps263
        go_wp2_with (first | (go_at_call 187; refine (impl_isSize _ _).mono ?_; rintro e w' ⟨rfl, rfl⟩) | (go_at_call 150; refine (impl_isTolerance _ _).mono ?_; rintro e w' ⟨rfl, rfl⟩))
        go_ret
        exact ⟨rfl, rfl⟩

    · rw [nb_bad (a := a) (b := b) (tol := tol) (.inr (.inl hb))]
      go_enter Tryz.func263, Tryz.ntmps263
      go_wp2_with (first | (go_at_call 187; refine (impl_isSize _ _).mono ?_; rintro e w' ⟨rfl, rfl⟩) | (go_at_call 150; refine (impl_isTolerance _ _).mono ?_; rintro e w' ⟨rfl, rfl⟩))
      go_ret
      exact ⟨rfl, rfl⟩

  · rw [nb_bad (a := a) (b := b) (tol := tol) (.inl ha)]
    go_enter Tryz.func263, Tryz.ntmps263
    go_wp2_with (first | (go_at_call 187; refine (impl_isSize _ _).mono ?_; rintro e w' ⟨rfl, rfl⟩) | (go_at_call 150; refine (impl_isTolerance _ _).mono ?_; rintro e w' ⟨rfl, rfl⟩))
    go_ret
    exact ⟨rfl, rfl⟩

end Go.Proofs.YtgmdfkmmbcpikaaGreat.C1
