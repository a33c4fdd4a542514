/- Plain facts behind the law FnExact. -/
import Derived.Test.YtcjjdnfikccnmaaDraw1
namespace Go.Proofs.Ytcjjdnfikccnmaa.Ex
open Go.RowKit Go.Deep
open Go.Proofs.Ytcjjdnfikccnmaa.C1 Go.Proofs.Ytcjjdnfikccnmaa.Draw
set_option linter.unusedVariables false

theorem md_law {x y z : Int} (h1 : mdF x y z false = true) (h2 : mdF x y z true = true) :
    0 ≤ x * y ∧ x * y ≤ 1000000000000000000 ∧ 1 ≤ z ∧ z ≤ 1000000000 ∧ 0 ≤ mdV x y z false * z ∧ mdV x y z false * z ≤ x * y ∧ x * y ≤ mdV x y z true * z ∧ mdV x y z true * z ≤ 2000000000000000000 ∧
      0 ≤ mdV x y z false ∧ mdV x y z false ≤ mdV x y z true ∧ mdV x y z true ≤ 1000000000 ∧ mdV x y z true - mdV x y z false ≤ 1 ∧
      ((x * y % z ≤ 0 ∧ mdV x y z true ≤ mdV x y z false) ∨ (0 < x * y % z ∧ mdV x y z false < mdV x y z true)) := by
  unfold mdF at h1 h2
  simp only [Bool.and_eq_true, decide_eq_true_eq] at h1 h2
  obtain ⟨hok, hl⟩ := h1
  obtain ⟨_, hh⟩ := h2
  have hok' := hok
  unfold mdOk at hok'
  simp only [Bool.and_eq_true] at hok'
  obtain ⟨⟨ha, hb⟩, hc⟩ := hok'
  have hx : 0 ≤ x ∧ x ≤ 1000000000 := by unfold inB at ha; simpa using ha
  have hy : 0 ≤ y ∧ y ≤ 1000000000 := by unfold inB at hb; simpa using hb
  have hz : 1 ≤ z ∧ z ≤ 1000000000 := by unfold inB at hc; simpa using hc
  obtain ⟨m1, m2⟩ := mul_bd hx.1 hx.2 hy.1 hy.2
  have e1 : mdV x y z false = x * y / z := by
    unfold mdV
    rw [hok]
    have : mdX x y z false = x * y / z := by unfold mdX flD; simp; omega
    rw [this] at hl
    rw [this]
    simp
    omega
  have e2 : mdV x y z true = -(-(x * y) / z) := by
    unfold mdV
    rw [hok]
    have : mdX x y z true = -(-(x * y) / z) := by unfold mdX clD; simp; omega
    rw [this] at hh
    rw [this]
    simp
    omega
  have hl' : x * y / z ≤ 1000000000 := by
    have : mdX x y z false = x * y / z := by unfold mdX flD; simp; omega
    omega
  have hh' : -(-(x * y) / z) ≤ 1000000000 := by
    have : mdX x y z true = -(-(x * y) / z) := by unfold mdX clD; simp; omega
    omega
  have d1 := Int.emod_add_mul_ediv (x * y) z
  have d2 := Int.emod_nonneg (x * y) (show z ≠ 0 by omega)
  have d3 := Int.emod_lt_of_pos (x * y) (show 0 < z by omega)
  have d4 := Int.ediv_nonneg m1 (show 0 ≤ z by omega)
  have g1 := Int.emod_add_mul_ediv (-(x * y)) z
  have g2 := Int.emod_nonneg (-(x * y)) (show z ≠ 0 by omega)
  have g3 := Int.emod_lt_of_pos (-(x * y)) (show 0 < z by omega)
  rw [e1, e2]
  generalize hP : x * y = P at *
  have c1 : P / z * z = z * (P / z) := Int.mul_comm _ _
  have c2 : -(-P / z) * z = -(z * (-P / z)) := by rw [Int.neg_mul, Int.mul_comm]
  have c3 : 0 ≤ z * (P / z) := Int.mul_nonneg (by omega) d4
  have key : (P % z = 0 ∧ -P / z = -(P / z)) ∨ (0 < P % z ∧ -P / z = -(P / z) - 1) := by
    by_cases h0 : P % z = 0
    · exact .inl ⟨h0, ((Int.ediv_emod_unique (a := -P) (b := z) (r := 0) (q := -(P / z)) (by omega)).2 ⟨by rw [Int.mul_neg]; omega, by omega, by omega⟩).1⟩
    · exact .inr ⟨by omega, ((Int.ediv_emod_unique (a := -P) (b := z) (r := z - P % z) (q := -(P / z) - 1) (by omega)).2 ⟨by rw [Int.mul_sub, Int.mul_neg]; omega, by omega, by omega⟩).1⟩
  refine ⟨m1, m2, hz.1, hz.2, by omega, by omega, by omega, by omega, d4, ?_, by omega, ?_, ?_⟩ <;> rcases key with ⟨k1, k2⟩ | ⟨k1, k2⟩ <;> omega

theorem md_ways (x y z : Int) : (mdF x y z false = false ∧ mdF x y z true = false) ∨ (mdF x y z false = false ∧ mdF x y z true = true) ∨ (mdF x y z false = true ∧ mdF x y z true = false) ∨
    (mdF x y z false = true ∧ mdF x y z true = true ∧ 0 ≤ x * y ∧ x * y ≤ 1000000000000000000 ∧ 1 ≤ z ∧ z ≤ 1000000000 ∧ 0 ≤ mdV x y z false * z ∧ mdV x y z false * z ≤ x * y ∧ x * y ≤ mdV x y z true * z ∧ mdV x y z true * z ≤ 2000000000000000000 ∧
      0 ≤ mdV x y z false ∧ mdV x y z false ≤ mdV x y z true ∧ mdV x y z true ≤ 1000000000 ∧ mdV x y z true - mdV x y z false ≤ 1 ∧ (mdV x y z true == mdV x y z false) = true ∧ (x * y % z == 0) = true) ∨
    (mdF x y z false = true ∧ mdF x y z true = true ∧ 0 ≤ x * y ∧ x * y ≤ 1000000000000000000 ∧ 1 ≤ z ∧ z ≤ 1000000000 ∧ 0 ≤ mdV x y z false * z ∧ mdV x y z false * z ≤ x * y ∧ x * y ≤ mdV x y z true * z ∧ mdV x y z true * z ≤ 2000000000000000000 ∧
      0 ≤ mdV x y z false ∧ mdV x y z false ≤ mdV x y z true ∧ mdV x y z true ≤ 1000000000 ∧ mdV x y z true - mdV x y z false ≤ 1 ∧ (mdV x y z true == mdV x y z false) = false ∧ (x * y % z == 0) = false) := by
  cases h1 : mdF x y z false
  · cases h2 : mdF x y z true
    · exact .inl ⟨rfl, rfl⟩
    · exact .inr (.inl ⟨rfl, rfl⟩)
  · cases h2 : mdF x y z true
    · exact .inr (.inr (.inl ⟨rfl, rfl⟩))
    · obtain ⟨q1, q2, q3, q4, q5, q6, q7, q8, q9, q10, q11, q12, qq⟩ := md_law h1 h2
      have hm := Int.emod_nonneg (x * y) (show z ≠ 0 by omega)
      rcases qq with q | q
      · exact .inr (.inr (.inr (.inl ⟨rfl, rfl, q1, q2, q3, q4, q5, q6, q7, q8, q9, q10, q11, q12, by simp; omega, by simp; omega⟩)))
      · exact .inr (.inr (.inr (.inr ⟨rfl, rfl, q1, q2, q3, q4, q5, q6, q7, q8, q9, q10, q11, q12, by simp; omega, by simp; omega⟩)))

theorem fl_law {x d : Int} (h1 : 1 ≤ d) (h2 : d ≤ 1000) (h3 : -1000000001 ≤ x) (h4 : x ≤ 1000000001) :
    -1000000001 ≤ flD x d ∧ flD x d ≤ 1000000001 ∧ -1000000001 ≤ clD x d ∧ clD x d ≤ 1000000001 ∧
    -2000000000000 ≤ flD x d * d ∧ flD x d * d ≤ x ∧ x < (flD x d + 1) * d ∧ (flD x d + 1) * d ≤ 2000000000000 ∧ x ≤ clD x d * d ∧ clD x d * d ≤ 2000000000000 ∧ -2000000000000 ≤ (clD x d - 1) * d ∧ (clD x d - 1) * d < x := by
  have e1 : flD x d = x / d := by unfold flD; rw [if_neg (by omega)]
  have e2 : clD x d = -(-x / d) := by unfold clD; rw [if_neg (by omega)]
  rw [e1, e2]
  have d1 := Int.emod_add_mul_ediv x d
  have d2 := Int.emod_nonneg x (show d ≠ 0 by omega)
  have d3 := Int.emod_lt_of_pos x (show 0 < d by omega)
  have g1 := Int.emod_add_mul_ediv (-x) d
  have g2 := Int.emod_nonneg (-x) (show d ≠ 0 by omega)
  have g3 := Int.emod_lt_of_pos (-x) (show 0 < d by omega)
  have c1 : x / d * d = d * (x / d) := Int.mul_comm _ _
  have c2 : (x / d + 1) * d = d * (x / d) + d := by rw [Int.add_mul, Int.mul_comm]; omega
  have c3 : -(-x / d) * d = -(d * (-x / d)) := by rw [Int.neg_mul, Int.mul_comm]
  have c4 : (-(-x / d) - 1) * d = -(d * (-x / d)) - d := by rw [Int.sub_mul, c3]; omega
  rw [c1, c2, c3, c4]
  have b1 : -1000000001 ≤ x / d ∧ x / d ≤ 1000000001 := by
    constructor
    · rcases Int.lt_or_le (x / d) (-1000000001) with h | h
      · have := Int.mul_le_mul_of_nonneg_left (show x / d ≤ -1000000002 by omega) (show 0 ≤ d by omega)
        omega
      · exact h
    · rcases Int.lt_or_le 1000000001 (x / d) with h | h
      · have := Int.mul_le_mul_of_nonneg_left (show 1000000002 ≤ x / d by omega) (show 0 ≤ d by omega)
        omega
      · exact h
  have b2 : -1000000001 ≤ -x / d ∧ -x / d ≤ 1000000001 := by
    constructor
    · rcases Int.lt_or_le (-x / d) (-1000000001) with h | h
      · have := Int.mul_le_mul_of_nonneg_left (show -x / d ≤ -1000000002 by omega) (show 0 ≤ d by omega)
        omega
      · exact h
    · rcases Int.lt_or_le 1000000001 (-x / d) with h | h
      · have := Int.mul_le_mul_of_nonneg_left (show 1000000002 ≤ -x / d by omega) (show 0 ≤ d by omega)
        omega
      · exact h
  omega
theorem fl_zero {x d : Int} (h : d < 1) : flD x d = 0 ∧ clD x d = 0 := by
  unfold flD clD
  rw [if_pos h, if_pos h]
  exact ⟨rfl, rfl⟩

theorem cr_law (p q r s : Int) : (crV p q r s = 2 ∧ crV r s p q = 2) ∨ (crV p q r s = -1 ∧ crV r s p q = 1) ∨ (crV p q r s = 1 ∧ crV r s p q = -1) ∨ (crV p q r s = 0 ∧ crV r s p q = 0) := by
  have hok : crOk r s p q = crOk p q r s := by
    unfold crOk
    cases inB p 0 1000000000 <;> cases inB q 1 1000000000 <;> cases inB r 0 1000000000 <;> cases inB s 1 1000000000 <;> rfl
  unfold crV
  rw [hok]
  cases crOk p q r s
  · exact .inl ⟨rfl, rfl⟩
  · rcases Int.lt_trichotomy (p * s) (r * q) with h | h | h
    · refine .inr (.inl ⟨by simp [h], ?_⟩)
      have : ¬ r * q < p * s := by omega
      simp [h, this]
    · refine .inr (.inr (.inr ⟨?_, ?_⟩)) <;> simp [h]
    · refine .inr (.inr (.inl ⟨?_, by simp [h]⟩))
      have : ¬ p * s < r * q := by omega
      simp [h, this]

/-- The frame's word of a slice of bytes that came in, in these. -/
theorem of_row_bytes {w : World} {a : Option Addr} {len cap : Nat} {zs : List Int}
    (h : (a = none ∧ len = 0 ∧ cap = 0 ∧ zs = []) ∨ ∃ x, a = some x ∧ len ≤ cap ∧ cap ≤ maxLen ∧ zs.length = cap ∧ (∀ i, i < zs.length → w.cell? (x.add i) = some (.int .u8 (zs.getD i 0))) ∧ ∀ n ∈ zs, (Lit.int .u8 n).wf = true) :
    BytesAt w a len := by
  rcases h with ⟨rfl, rfl, rfl, rfl⟩ | ⟨x, rfl, h1, h2, h3, h4, h5⟩
  · exact .inl rfl
  · by_cases hp : 0 < zs.length
    · obtain ⟨b, off, rfl, hc⟩ := ints_at h4 hp
      refine .inr ⟨b, off, rfl, World.block_lt_of_cell? _ _ (hc 0 hp), fun i hi => ?_⟩
      have hi2 : i < zs.length := by omega
      have hb := bounds_u8 (h5 _ (List.getElem_mem hi2))
      exact ⟨zs[i], hb.1, hb.2, by rw [hc i hi2]; simp [hi2]⟩
    · exact .inl (by omega)
end Go.Proofs.Ytcjjdnfikccnmaa.Ex
