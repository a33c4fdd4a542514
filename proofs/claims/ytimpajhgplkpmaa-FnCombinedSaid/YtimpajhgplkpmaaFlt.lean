/- Floats: a word that stands for a whole number below 2 ^ 53; the difference of two such, and how they stand to each other, are exact. -/
import Derived.Test.YtimpajhgplkpmaaC1
import Derived.Laws.FloatArith
namespace Go.Proofs.Ytimpajhgplkpmaa.Flt
open Ieee
set_option linter.unusedVariables false

/-- The place of the last digit of a float64, negated. -/
def E : Nat := 1074
theorem e_eq : E = 1074 := rfl
theorem least : double.leastPlace = -1074 := by decide
/-- The word b stands for the whole number n. -/
def Means (b : Nat) (n : Int) : Prop :=
  ∃ s m p, double.read b = .number s m p ∧ -(E : Int) ≤ p ∧ signed s m (p + E).toNat = n * ((2 ^ E : Nat) : Int)

theorem signed_more (s : Bool) (m u v : Nat) : signed s m (u + v) = signed s m u * ((2 ^ v : Nat) : Int) := by
  have h : m <<< (u + v) = (m <<< u) * 2 ^ v := by simp only [Nat.shiftLeft_eq, Nat.pow_add, Nat.mul_assoc]
  unfold signed
  rw [h]
  cases s
  · simp only [Bool.false_eq_true, if_false, Int.natCast_mul]
  · simp only [if_true, Int.natCast_mul, Int.neg_mul]
theorem rebase (s : Bool) (m : Nat) (i base : Int) (h : base ≤ i) (hb : -(E : Int) ≤ base) : signed s m (i + E).toNat = signed s m (i - base).toNat * ((2 ^ (base + E).toNat : Nat) : Int) := by
  rw [← signed_more]
  congr 1
  omega
theorem two_pos (n : Nat) : (0 : Int) < ((2 ^ n : Nat) : Int) := by
  have := Nat.two_pow_pos n
  omega
theorem cmp_scaled {X Y a b C D : Int} (hC : 0 < C) (hD : 0 < D) (h1 : X * C = a * D) (h2 : Y * C = b * D) : compare X Y = compare a b := by
  have e1 : X < Y ↔ a < b := by
    rw [← Int.mul_lt_mul_right hC, h1, h2, Int.mul_lt_mul_right hD]
  have e2 : X = Y ↔ a = b := by
    constructor
    · rintro rfl
      exact Int.eq_of_mul_eq_mul_right (Int.ne_of_gt hD) (h1.symm.trans h2)
    · rintro rfl
      exact Int.eq_of_mul_eq_mul_right (Int.ne_of_gt hC) (h1.trans h2.symm)
  show (if X < Y then Ordering.lt else if X = Y then Ordering.eq else Ordering.gt) = (if a < b then Ordering.lt else if a = b then Ordering.eq else Ordering.gt)
  simp only [e1, e2]
theorem order_means {x y : Nat} {a b : Int} (hx : Means x a) (hy : Means y b) : FloatKind.f64.format.order x y = some (compare a b) := by
  obtain ⟨s, m, i, e1, l1, v1⟩ := hx
  obtain ⟨t, n, j, e2, l2, v2⟩ := hy
  show (double.read x).order (double.read y) = _
  rw [e1, e2]
  show some (compare (signed s m (i - min i j).toNat) (signed t n (j - min i j).toNat)) = _
  have hbase : -(E : Int) ≤ min i j := by omega
  rw [rebase s m i (min i j) (by omega) hbase] at v1
  rw [rebase t n j (min i j) (by omega) hbase] at v2
  rw [cmp_scaled (two_pos _) (two_pos _) v1 v2]

theorem log2_pow (n c : Nat) (h : n ≠ 0) : (n * 2 ^ c).log2 = n.log2 + c := by
  have hp := Nat.two_pow_pos c
  have hne : n * 2 ^ c ≠ 0 := Nat.mul_ne_zero h (by omega)
  rw [Nat.log2_eq_iff hne]
  have h1 := Nat.log2_self_le h
  have h2 : n < 2 ^ (n.log2 + 1) := Nat.lt_log2_self
  refine ⟨?_, ?_⟩
  · rw [Nat.pow_add]
    exact Nat.mul_le_mul_right _ h1
  · rw [show n.log2 + c + 1 = (n.log2 + 1) + c by omega, Nat.pow_add]
    exact Nat.mul_lt_mul_of_pos_right h2 hp
theorem pow_split {a b c : Nat} (h : a + b = c) : 2 ^ a * 2 ^ b = 2 ^ c := by rw [← Nat.pow_add, h]

theorem cut_exact (neg : Bool) (n drop q : Nat) (h : n = q * 2 ^ drop) (hd : drop ≤ n.log2 + 2) : Toward.even.cut neg n drop = q := by
  have hp := Nat.two_pow_pos drop
  unfold Toward.cut
  rw [Nat.min_eq_left hd]
  have hg : (1 : Nat) <<< drop = 2 ^ drop := by rw [Nat.shiftLeft_eq, Nat.one_mul]
  have h1 : n / 2 ^ drop = q := by rw [h]; exact Nat.mul_div_cancel _ hp
  have h2 : n % 2 ^ drop = 0 := by rw [h]; exact Nat.mul_mod_left _ _
  have h3 : ¬ 2 ^ drop < 0 := by omega
  have h4 : (2 ^ drop == 0) = false := by rw [beq_eq_false_iff_ne]; omega
  simp only [hg, h1, h2, Nat.mul_zero, h4, Bool.false_and, Bool.or_false]
  simp

theorem read_word (neg : Bool) (r K : Nat) (h1 : 4503599627370496 ≤ K) (h2 : K < 9007199254740992) (h3 : r ≤ 1074) :
    double.read (double.word neg (r * 4503599627370496 + K)) = .number neg K ((r : Int) - 1074) := by
  have hs : double.signWeight = 9223372036854775808 := by decide
  have hb : double.binade = 4503599627370496 := by decide
  have hi : double.infRung = 9218868437227405312 := by decide
  unfold Format.read Format.word
  rw [hs, hb, hi, least]
  cases neg
  · simp only [Bool.false_eq_true, if_false]
    have a1 : (r * 4503599627370496 + K) / 9223372036854775808 % 2 = 0 := by omega
    have a2 : (r * 4503599627370496 + K) % 9223372036854775808 = r * 4503599627370496 + K := by omega
    have a3 : ¬ r * 4503599627370496 + K < 4503599627370496 := by omega
    have a4 : r * 4503599627370496 + K < 9218868437227405312 := by omega
    have a5 : 4503599627370496 + (r * 4503599627370496 + K) % 4503599627370496 = K := by omega
    have a6 : (r * 4503599627370496 + K) / 4503599627370496 - 1 = r := by omega
    simp only [a1, a2, if_neg a3, if_pos a4, a5, a6]
    first | rfl | (congr 1; omega)
  · simp only [if_true]
    have a1 : (9223372036854775808 + (r * 4503599627370496 + K)) / 9223372036854775808 % 2 = 1 := by omega
    have a2 : (9223372036854775808 + (r * 4503599627370496 + K)) % 9223372036854775808 = r * 4503599627370496 + K := by omega
    have a3 : ¬ r * 4503599627370496 + K < 4503599627370496 := by omega
    have a4 : r * 4503599627370496 + K < 9218868437227405312 := by omega
    have a5 : 4503599627370496 + (r * 4503599627370496 + K) % 4503599627370496 = K := by omega
    have a6 : (r * 4503599627370496 + K) / 4503599627370496 - 1 = r := by omega
    simp only [a1, a2, if_neg a3, if_pos a4, a5, a6]
    first | rfl | (congr 1; omega)

theorem nearest_means (neg : Bool) (mag : Nat) (place : Int) (k : Nat) (hp : -(E : Int) ≤ place) (hk : k < 2 ^ 53) (hv : mag * 2 ^ (place + E).toNat = k * 2 ^ E) :
    ∃ m p, double.read (double.nearest neg mag place) = .number neg m p ∧ -(E : Int) ≤ p ∧ m * 2 ^ (p + E).toNat = k * 2 ^ E := by
  have hE := e_eq
  have hE0 := Nat.two_pow_pos E
  have hP0 := Nat.two_pow_pos (place + E).toNat
  unfold Format.nearest
  by_cases hm : mag = 0
  · rw [if_pos hm]
    have hk0 : k = 0 := by
      rw [hm, Nat.zero_mul] at hv
      rcases Nat.mul_eq_zero.1 hv.symm with h | h
      · exact h
      · omega
    refine ⟨0, -1074, ?_, by omega, by rw [hk0, Nat.zero_mul, Nat.zero_mul]⟩
    cases neg
    · decide
    · decide
  · rw [if_neg hm]
    have hk0 : k ≠ 0 := by
      rintro rfl
      rw [Nat.zero_mul] at hv
      rcases Nat.mul_eq_zero.1 hv with h | h
      · exact hm h
      · omega
    have hlog : mag.log2 + (place + E).toNat = k.log2 + E := by
      rw [← log2_pow _ _ hm, ← log2_pow _ _ hk0, hv]
    have hL : k.log2 < 53 := (Nat.log2_lt hk0).2 hk
    obtain ⟨L, hLe⟩ : ∃ L, k.log2 = L := ⟨_, rfl⟩
    have hk1 := Nat.log2_self_le hk0
    have hk2 : k < 2 ^ (k.log2 + 1) := Nat.lt_log2_self
    rw [hLe] at hlog hL hk1 hk2
    have hfr : double.fractionBits = 52 := rfl
    have hlast : max (place + (mag.log2 : Int) - (double.fractionBits : Int)) double.leastPlace = (L : Int) - 52 := by
      rw [hfr, least]
      omega
    have hb : double.binade = 4503599627370496 := by decide
    have hi : double.infRung = 9218868437227405312 := by decide
    have hkept : Toward.even.cut neg (mag <<< (place - ((L : Int) - 52)).toNat) (((L : Int) - 52) - place).toNat = k * 2 ^ (52 - L) := by
      by_cases hc : (L : Int) - 52 ≤ place
      · have hd : (((L : Int) - 52) - place).toNat = 0 := by omega
        rw [hd]
        refine cut_exact neg _ 0 _ ?_ (Nat.zero_le _)
        rw [Nat.pow_zero, Nat.mul_one, Nat.shiftLeft_eq]
        refine Nat.eq_of_mul_eq_mul_right (Nat.two_pow_pos (E + L - 52)) ?_
        rw [Nat.mul_assoc, Nat.mul_assoc, pow_split (c := (place + E).toNat) (by omega), pow_split (c := E) (by omega), hv]
      · have hd : (place - ((L : Int) - 52)).toNat = 0 := by omega
        rw [hd, Nat.shiftLeft_zero]
        refine cut_exact neg _ _ _ ?_ (by omega)
        refine Nat.eq_of_mul_eq_mul_right (Nat.two_pow_pos (place + E).toNat) ?_
        rw [Nat.mul_assoc, Nat.mul_assoc, pow_split (a := (((L : Int) - 52) - place).toNat) (b := (place + E).toNat) (c := E + L - 52) (by omega), pow_split (c := E) (by omega), hv]
    simp only [hlast, hkept]
    rw [hb, hi, least]
    have g1 : 4503599627370496 ≤ k * 2 ^ (52 - L) := by
      have := Nat.mul_le_mul_right (2 ^ (52 - L)) hk1
      rw [pow_split (c := 52) (by omega)] at this
      exact this
    have g2 : k * 2 ^ (52 - L) < 9007199254740992 := by
      have := Nat.mul_lt_mul_of_pos_right hk2 (Nat.two_pow_pos (52 - L))
      rw [pow_split (c := 53) (by omega)] at this
      exact this
    have g3 : ((L : Int) - 52 - -1074).toNat = L + 1022 := by omega
    rw [g3, Nat.min_eq_left (by omega)]
    refine ⟨k * 2 ^ (52 - L), ((L + 1022 : Nat) : Int) - 1074, read_word neg (L + 1022) _ g1 g2 (by omega), by omega, ?_⟩
    rw [Nat.mul_assoc, pow_split (c := E) (by omega)]

theorem int_means (n : Int) (h : n.natAbs < 2 ^ 53) : Means (floatOfInt .f64 n) n := by
  have hE := e_eq
  obtain ⟨m, p, h1, h2, h3⟩ := nearest_means (decide (n < 0)) n.natAbs 0 n.natAbs (by omega) h (by rw [show ((0 : Int) + E).toNat = E by omega])
  refine ⟨decide (n < 0), m, p, h1, h2, ?_⟩
  unfold signed
  rw [Nat.shiftLeft_eq, h3, Int.natCast_mul]
  by_cases hn : n < 0
  · rw [if_pos (by simpa using hn), show ((n.natAbs : Nat) : Int) = -n by omega, Int.neg_mul, Int.neg_neg]
  · rw [if_neg (by simpa using hn), show ((n.natAbs : Nat) : Int) = n by omega]

theorem signed_not (t : Bool) (n v : Nat) : signed (!t) n v = -signed t n v := by
  unfold signed
  cases t <;> simp
theorem sub_means {x y : Nat} {a b : Int} (hx : Means x a) (hy : Means y b) (hd : (a - b).natAbs < 2 ^ 53) : ∃ r, floatBits .sub .f64 x y = some r ∧ Means r (a - b) := by
  obtain ⟨s, m, i, e1, l1, v1⟩ := hx
  obtain ⟨t, n, j, e2, l2, v2⟩ := hy
  have hbase : -(E : Int) ≤ min i j := by omega
  rw [rebase s m i (min i j) (by omega) hbase] at v1
  rw [rebase t n j (min i j) (by omega) hbase] at v2
  obtain ⟨X, hX⟩ : ∃ X, signed s m (i - min i j).toNat = X := ⟨_, rfl⟩
  obtain ⟨Y, hY⟩ : ∃ Y, signed t n (j - min i j).toNat = Y := ⟨_, rfl⟩
  rw [hX] at v1
  rw [hY] at v2
  have hC := two_pos (min i j + E).toNat
  have hD := two_pos E
  have ht : (X - Y) * ((2 ^ (min i j + E).toNat : Nat) : Int) = (a - b) * ((2 ^ E : Nat) : Int) := by rw [Int.sub_mul, v1, v2, ← Int.sub_mul]
  have hna : (X - Y).natAbs * 2 ^ (min i j + E).toNat = (a - b).natAbs * 2 ^ E := by
    have := congrArg Int.natAbs ht
    rw [Int.natAbs_mul, Int.natAbs_mul, Int.natAbs_natCast, Int.natAbs_natCast] at this
    exact this
  obtain ⟨neg, hneg⟩ : ∃ neg, (if X - Y = 0 then s && !t else decide (X - Y < 0)) = neg := ⟨_, rfl⟩
  obtain ⟨m', p', h1, h2, h3⟩ := nearest_means neg (X - Y).natAbs (min i j) (a - b).natAbs hbase hd hna
  refine ⟨double.nearest neg (X - Y).natAbs (min i j), ?_, neg, m', p', h1, h2, ?_⟩
  · show ((double.read x).sum (double.read y).opposite).map double.write = _
    rw [e1, e2]
    show some (double.nearest (if signed s m (i - min i j).toNat + signed (!t) n (j - min i j).toNat = 0 then s && !t else decide (signed s m (i - min i j).toNat + signed (!t) n (j - min i j).toNat < 0)) (signed s m (i - min i j).toNat + signed (!t) n (j - min i j).toNat).natAbs (min i j)) = _
    rw [signed_not, hX, hY, ← Int.sub_eq_add_neg, hneg]
  · unfold signed
    rw [Nat.shiftLeft_eq, h3, Int.natCast_mul]
    by_cases h0 : X - Y = 0
    · have hab : a - b = 0 := by
        rw [h0, Int.zero_mul] at ht
        rcases Int.mul_eq_zero.1 ht.symm with h | h
        · exact h
        · omega
      rw [hab]
      simp
    · rw [if_neg h0] at hneg
      by_cases hn : X - Y < 0
      · have hlt : a - b < 0 := by
          have h4 := Int.mul_neg_of_neg_of_pos hn hC
          rw [ht] at h4
          apply Decidable.byContradiction
          intro h5
          have := Int.mul_nonneg (show 0 ≤ a - b by omega) (Int.le_of_lt hD)
          omega
        rw [← hneg, if_pos (by simpa using hn), show (((a - b).natAbs : Nat) : Int) = -(a - b) by omega, Int.neg_mul, Int.neg_neg]
      · have hge : ¬ a - b < 0 := by
          intro h5
          have h4 := Int.mul_nonneg (show 0 ≤ X - Y by omega) (Int.le_of_lt hC)
          rw [ht] at h4
          have := Int.mul_neg_of_neg_of_pos h5 hD
          omega
        rw [← hneg, if_neg (by simpa using hn), show (((a - b).natAbs : Nat) : Int) = a - b by omega]
theorem zero_means : Means 0 0 := ⟨false, 0, -1074, by decide, by decide, by unfold signed; simp⟩

/-! ### The greatest float64 and the infinity. -/
/-- The greatest float64 as a whole number. -/
def top : Nat := 9007199254740991 * 2 ^ (E - 103)
theorem top_le : 9007199254740991 ≤ top := by
  unfold top
  have := Nat.two_pow_pos (E - 103)
  exact Nat.le_mul_of_pos_right _ this
theorem max_means : Means 9218868437227405311 (top : Int) := by
  have hE := e_eq
  refine ⟨false, 9007199254740991, 971, by decide, by omega, ?_⟩
  unfold signed top
  rw [if_neg (by decide), Nat.shiftLeft_eq, ← Int.natCast_mul, Nat.mul_assoc, pow_split (c := ((971 : Int) + E).toNat) (by omega)]
theorem min_means : Means 18442240474082181119 (-(top : Int)) := by
  have hE := e_eq
  refine ⟨true, 9007199254740991, 971, by decide, by omega, ?_⟩
  unfold signed top
  rw [if_pos rfl, Nat.shiftLeft_eq, Int.neg_mul, ← Int.natCast_mul, Nat.mul_assoc, pow_split (c := ((971 : Int) + E).toNat) (by omega)]
theorem cmp_int (a b : Int) : compare a b = (if a < b then Ordering.lt else if a = b then Ordering.eq else Ordering.gt) := rfl
theorem not_above {x : Nat} {n : Int} (hx : Means x n) (hn : n.natAbs < 2 ^ 53 - 1) : (FloatKind.f64.format.order x 9218868437227405311 == some .gt) = false := by
  have := top_le
  rw [order_means hx max_means, cmp_int, if_pos (by omega)]
  rfl
theorem not_below {x : Nat} {n : Int} (hx : Means x n) (hn : n.natAbs < 2 ^ 53 - 1) : (FloatKind.f64.format.order x 18442240474082181119 == some .lt) = false := by
  have := top_le
  rw [order_means hx min_means, cmp_int, if_neg (by omega), if_neg (by omega)]
  rfl
theorem inf_above : (FloatKind.f64.format.order 9218868437227405312 9218868437227405311 == some .gt) = true := by decide
theorem lt_zero {x : Nat} {n : Int} (hx : Means x n) : (FloatKind.f64.format.order x 0 == some .lt) = decide (n < 0) := by
  rw [order_means hx zero_means, cmp_int]
  by_cases h : n < 0
  · rw [if_pos h]; simp [h]
  · rw [if_neg h]
    by_cases h0 : n = 0
    · rw [if_pos h0]; simp [h]
    · rw [if_neg h0]; simp [h]
theorem gt_zero {x : Nat} {n : Int} (hx : Means x n) : (FloatKind.f64.format.order x 0 == some .gt) = decide (0 < n) := by
  rw [order_means hx zero_means, cmp_int]
  by_cases h : n < 0
  · rw [if_pos h]; simp; omega
  · rw [if_neg h]
    by_cases h0 : n = 0
    · rw [if_pos h0]; simp [h0]
    · rw [if_neg h0]; simp; omega
end Go.Proofs.Ytimpajhgplkpmaa.Flt
