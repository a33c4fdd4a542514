/- Floats: a word that stands for a whole number below 2 ^ 53; the difference of two such, and how they stand to each other, are exact. -/
import Derived.Test.YtgmdfkmmbcpikaaGreatC1
import Derived.Laws.FloatArith
import Derived.Test.YtgmdfkmmbcpikaaGreatGl
import Derived.BigQuiet
import Derived.Laws.ResultCell
import Derived.Deep.RegionHeld3
import Derived.Tactics
import Derived.Tactics2
import Derived.Defers
import Derived.Laws.Pointers
import Derived.Laws.LoneSync
import Derived.Laws.NewBlocks
import Derived.RegionTactic
import Derived.RegionCalls
import Derived.ChangeAlike
import Derived.Laws.EntriesVeiled
import Derived.Deep.RegionWith
namespace Go.Proofs.YtgmdfkmmbcpikaaGreat.Flt
open Ieee
set_option linter.unusedVariables false

/-- The place of the last digit of a float64, negated. -/
def E : Nat := 1074
theorem e_eq : E = 1074 := rfl
theorem least : double.leastPlace = -1074 := by decide
/-- The word b stands for the whole number n. -/
def Means (b : Nat) (n : Int) : Prop :=
  ∃ s m p, double.read b = .number s m p ∧ -(E : Int) ≤ p ∧ signed s m (p + E).toNat = n * ((2 ^ E : Nat) : Int)

theorem signed_more (s : Bool) (m u v : Nat) : signed s m (u + v) = signed s m u * ((2 ^ v : Nat) : Int) := by
  have h : m <<< (u + v) = (m <<< u) * 2 ^ v := by simp only [Nat.shiftLeft_eq, Nat.pow_add, Nat.mul_assoc]
  unfold signed
  rw [h]
  cases s
  · simp only [Bool.false_eq_true, if_false, Int.natCast_mul]
  · simp only [if_true, Int.natCast_mul, Int.neg_mul]
theorem rebase (s : Bool) (m : Nat) (i base : Int) (h : base ≤ i) (hb : -(E : Int) ≤ base) : signed s m (i + E).toNat = signed s m (i - base).toNat * ((2 ^ (base + E).toNat : Nat) : Int) := by
  rw [← signed_more]
  congr 1
  omega
theorem two_pos (n : Nat) : (0 : Int) < ((2 ^ n : Nat) : Int) := by
  have := Nat.two_pow_pos n
  omega
theorem cmp_scaled {X Y a b C D : Int} (hC : 0 < C) (hD : 0 < D) (h1 : X * C = a * D) (h2 : Y * C = b * D) : compare X Y = compare a b := by
  have e1 : X < Y ↔ a < b := by
    rw [← Int.mul_lt_mul_right hC, h1, h2, Int.mul_lt_mul_right hD]
  have e2 : X = Y ↔ a = b := by
    constructor
    · rintro rfl
      exact Int.eq_of_mul_eq_mul_right (Int.ne_of_gt hD) (h1.symm.trans h2)
    · rintro rfl
      exact Int.eq_of_mul_eq_mul_right (Int.ne_of_gt hC) (h1.trans h2.symm)
  show (if X < Y then Ordering.lt else if X = Y then Ordering.eq else Ordering.gt) = (if a < b then Ordering.lt else if a = b then Ordering.eq else Ordering.gt)
  simp only [e1, e2]
theorem order_means {x y : Nat} {a b : Int} (hx : Means x a) (hy : Means y b) : FloatKind.f64.format.order x y = some (compare a b) := by
  obtain ⟨s, m, i, e1, l1, v1⟩ := hx
  obtain ⟨t, n, j, e2, l2, v2⟩ := hy
  show (double.read x).order (double.read y) = _
  rw [e1, e2]
  show some (compare (signed s m (i - min i j).toNat) (signed t n (j - min i j).toNat)) = _
  have hbase : -(E : Int) ≤ min i j := by omega
  rw [rebase s m i (min i j) (by omega) hbase] at v1
  rw [rebase t n j (min i j) (by omega) hbase] at v2
  rw [cmp_scaled (two_pos _) (two_pos _) v1 v2]

theorem log2_pow (n c : Nat) (h : n ≠ 0) : (n * 2 ^ c).log2 = n.log2 + c := by
  have hp := Nat.two_pow_pos c
  have hne : n * 2 ^ c ≠ 0 := Nat.mul_ne_zero h (by omega)
  rw [Nat.log2_eq_iff hne]
  have h1 := Nat.log2_self_le h
  have h2 : n < 2 ^ (n.log2 + 1) := Nat.lt_log2_self
  refine ⟨?_, ?_⟩
  · rw [Nat.pow_add]
    exact Nat.mul_le_mul_right _ h1
  · rw [show n.log2 + c + 1 = (n.log2 + 1) + c by omega, Nat.pow_add]
    exact Nat.mul_lt_mul_of_pos_right h2 hp
theorem pow_split {a b c : Nat} (h : a + b = c) : 2 ^ a * 2 ^ b = 2 ^ c := by rw [← Nat.pow_add, h]

theorem cut_exact (neg : Bool) (n drop q : Nat) (h : n = q * 2 ^ drop) (hd : drop ≤ n.log2 + 2) : Toward.even.cut neg n drop = q := by
  have hp := Nat.two_pow_pos drop
  unfold Toward.cut
  rw [Nat.min_eq_left hd]
  have hg : (1 : Nat) <<< drop = 2 ^ drop := by rw [Nat.shiftLeft_eq, Nat.one_mul]
  have h1 : n / 2 ^ drop = q := by rw [h]; exact Nat.mul_div_cancel _ hp
  have h2 : n % 2 ^ drop = 0 := by rw [h]; exact Nat.mul_mod_left _ _
  have h3 : ¬ 2 ^ drop < 0 := by omega
  have h4 : (2 ^ drop == 0) = false := by rw [beq_eq_false_iff_ne]; omega
  simp only [hg, h1, h2, Nat.mul_zero, h4, Bool.false_and, Bool.or_false]
  simp

theorem read_word (neg : Bool) (r K : Nat) (h1 : 4503599627370496 ≤ K) (h2 : K < 9007199254740992) (h3 : r ≤ 1074) :
    double.read (double.word neg (r * 4503599627370496 + K)) = .number neg K ((r : Int) - 1074) := by
  have hs : double.signWeight = 9223372036854775808 := by decide
  have hb : double.binade = 4503599627370496 := by decide
  have hi : double.infRung = 9218868437227405312 := by decide
  unfold Format.read Format.word
  rw [hs, hb, hi, least]
  cases neg
  · simp only [Bool.false_eq_true, if_false]
    have a1 : (r * 4503599627370496 + K) / 9223372036854775808 % 2 = 0 := by omega
    have a2 : (r * 4503599627370496 + K) % 9223372036854775808 = r * 4503599627370496 + K := by omega
    have a3 : ¬ r * 4503599627370496 + K < 4503599627370496 := by omega
    have a4 : r * 4503599627370496 + K < 9218868437227405312 := by omega
    have a5 : 4503599627370496 + (r * 4503599627370496 + K) % 4503599627370496 = K := by omega
    have a6 : (r * 4503599627370496 + K) / 4503599627370496 - 1 = r := by omega
    simp only [a1, a2, if_neg a3, if_pos a4, a5, a6]
    first | rfl | (congr 1; omega)
  · simp only [if_true]
    have a1 : (9223372036854775808 + (r * 4503599627370496 + K)) / 9223372036854775808 % 2 = 1 := by omega
    have a2 : (9223372036854775808 + (r * 4503599627370496 + K)) % 9223372036854775808 = r * 4503599627370496 + K := by omega
    have a3 : ¬ r * 4503599627370496 + K < 4503599627370496 := by omega
    have a4 : r * 4503599627370496 + K < 9218868437227405312 := by omega
    have a5 : 4503599627370496 + (r * 4503599627370496 + K) % 4503599627370496 = K := by omega
    have a6 : (r * 4503599627370496 + K) / 4503599627370496 - 1 = r := by omega
    simp only [a1, a2, if_neg a3, if_pos a4, a5, a6]
    first | rfl | (congr 1; omega)

theorem nearest_means (neg : Bool) (mag : Nat) (place : Int) (k : Nat) (hp : -(E : Int) ≤ place) (hk : k < 2 ^ 53) (hv : mag * 2 ^ (place + E).toNat = k * 2 ^ E) :
    ∃ m p, double.read (double.nearest neg mag place) = .number neg m p ∧ -(E : Int) ≤ p ∧ m * 2 ^ (p + E).toNat = k * 2 ^ E := by
  have hE := e_eq
  have hE0 := Nat.two_pow_pos E
  have hP0 := Nat.two_pow_pos (place + E).toNat
  unfold Format.nearest
  by_cases hm : mag = 0
  · rw [if_pos hm]
    have hk0 : k = 0 := by
      rw [hm, Nat.zero_mul] at hv
      rcases Nat.mul_eq_zero.1 hv.symm with h | h
      · exact h
      · omega
    refine ⟨0, -1074, ?_, by omega, by rw [hk0, Nat.zero_mul, Nat.zero_mul]⟩
    cases neg
    · decide
    · decide
  · rw [if_neg hm]
    have hk0 : k ≠ 0 := by
      rintro rfl
      rw [Nat.zero_mul] at hv
      rcases Nat.mul_eq_zero.1 hv with h | h
      · exact hm h
      · omega
    have hlog : mag.log2 + (place + E).toNat = k.log2 + E := by
      rw [← log2_pow _ _ hm, ← log2_pow _ _ hk0, hv]
    have hL : k.log2 < 53 := (Nat.log2_lt hk0).2 hk
    obtain ⟨L, hLe⟩ : ∃ L, k.log2 = L := ⟨_, rfl⟩
    have hk1 := Nat.log2_self_le hk0
    have hk2 : k < 2 ^ (k.log2 + 1) := Nat.lt_log2_self
    rw [hLe] at hlog hL hk1 hk2
    have hfr : double.fractionBits = 52 := rfl
    have hlast : max (place + (mag.log2 : Int) - (double.fractionBits : Int)) double.leastPlace = (L : Int) - 52 := by
      rw [hfr, least]
      omega
    have hb : double.binade = 4503599627370496 := by decide
    have hi : double.infRung = 9218868437227405312 := by decide
    have hkept : Toward.even.cut neg (mag <<< (place - ((L : Int) - 52)).toNat) (((L : Int) - 52) - place).toNat = k * 2 ^ (52 - L) := by
      by_cases hc : (L : Int) - 52 ≤ place
      · have hd : (((L : Int) - 52) - place).toNat = 0 := by omega
        rw [hd]
        refine cut_exact neg _ 0 _ ?_ (Nat.zero_le _)
        rw [Nat.pow_zero, Nat.mul_one, Nat.shiftLeft_eq]
        refine Nat.eq_of_mul_eq_mul_right (Nat.two_pow_pos (E + L - 52)) ?_
        rw [Nat.mul_assoc, Nat.mul_assoc, pow_split (c := (place + E).toNat) (by omega), pow_split (c := E) (by omega), hv]
      · have hd : (place - ((L : Int) - 52)).toNat = 0 := by omega
        rw [hd, Nat.shiftLeft_zero]
        refine cut_exact neg _ _ _ ?_ (by omega)
        refine Nat.eq_of_mul_eq_mul_right (Nat.two_pow_pos (place + E).toNat) ?_
        rw [Nat.mul_assoc, Nat.mul_assoc, pow_split (a := (((L : Int) - 52) - place).toNat) (b := (place + E).toNat) (c := E + L - 52) (by omega), pow_split (c := E) (by omega), hv]
    simp only [hlast, hkept]
    rw [hb, hi, least]
    have g1 : 4503599627370496 ≤ k * 2 ^ (52 - L) := by
      have := Nat.mul_le_mul_right (2 ^ (52 - L)) hk1
      rw [pow_split (c := 52) (by omega)] at this
      exact this
    have g2 : k * 2 ^ (52 - L) < 9007199254740992 := by
      have := Nat.mul_lt_mul_of_pos_right hk2 (Nat.two_pow_pos (52 - L))
      rw [pow_split (c := 53) (by omega)] at this
      exact this
    have g3 : ((L : Int) - 52 - -1074).toNat = L + 1022 := by omega
    rw [g3, Nat.min_eq_left (by omega)]
    refine ⟨k * 2 ^ (52 - L), ((L + 1022 : Nat) : Int) - 1074, read_word neg (L + 1022) _ g1 g2 (by omega), by omega, ?_⟩
    rw [Nat.mul_assoc, pow_split (c := E) (by omega)]

theorem int_means (n : Int) (h : n.natAbs < 2 ^ 53) : Means (floatOfInt .f64 n) n := by
  have hE := e_eq
  obtain ⟨m, p, h1, h2, h3⟩ := nearest_means (decide (n < 0)) n.natAbs 0 n.natAbs (by omega) h (by rw [show ((0 : Int) + E).toNat = E by omega])
  refine ⟨decide (n < 0), m, p, h1, h2, ?_⟩
  unfold signed
  rw [Nat.shiftLeft_eq, h3, Int.natCast_mul]
  by_cases hn : n < 0
  · rw [if_pos (by simpa using hn), show ((n.natAbs : Nat) : Int) = -n by omega, Int.neg_mul, Int.neg_neg]
  · rw [if_neg (by simpa using hn), show ((n.natAbs : Nat) : Int) = n by omega]

theorem signed_not (t : Bool) (n v : Nat) : signed (!t) n v = -signed t n v := by
  unfold signed
  cases t <;> simp
theorem sub_means {x y : Nat} {a b : Int} (hx : Means x a) (hy : Means y b) (hd : (a - b).natAbs < 2 ^ 53) : ∃ r, floatBits .sub .f64 x y = some r ∧ Means r (a - b) := by
  obtain ⟨s, m, i, e1, l1, v1⟩ := hx
  obtain ⟨t, n, j, e2, l2, v2⟩ := hy
  have hbase : -(E : Int) ≤ min i j := by omega
  rw [rebase s m i (min i j) (by omega) hbase] at v1
  rw [rebase t n j (min i j) (by omega) hbase] at v2
  obtain ⟨X, hX⟩ : ∃ X, signed s m (i - min i j).toNat = X := ⟨_, rfl⟩
  obtain ⟨Y, hY⟩ : ∃ Y, signed t n (j - min i j).toNat = Y := ⟨_, rfl⟩
  rw [hX] at v1
  rw [hY] at v2
  have hC := two_pos (min i j + E).toNat
  have hD := two_pos E
  have ht : (X - Y) * ((2 ^ (min i j + E).toNat : Nat) : Int) = (a - b) * ((2 ^ E : Nat) : Int) := by rw [Int.sub_mul, v1, v2, ← Int.sub_mul]
  have hna : (X - Y).natAbs * 2 ^ (min i j + E).toNat = (a - b).natAbs * 2 ^ E := by
    have := congrArg Int.natAbs ht
    rw [Int.natAbs_mul, Int.natAbs_mul, Int.natAbs_natCast, Int.natAbs_natCast] at this
    exact this
  obtain ⟨neg, hneg⟩ : ∃ neg, (if X - Y = 0 then s && !t else decide (X - Y < 0)) = neg := ⟨_, rfl⟩
  obtain ⟨m', p', h1, h2, h3⟩ := nearest_means neg (X - Y).natAbs (min i j) (a - b).natAbs hbase hd hna
  refine ⟨double.nearest neg (X - Y).natAbs (min i j), ?_, neg, m', p', h1, h2, ?_⟩
  · show ((double.read x).sum (double.read y).opposite).map double.write = _
    rw [e1, e2]
    show some (double.nearest (if signed s m (i - min i j).toNat + signed (!t) n (j - min i j).toNat = 0 then s && !t else decide (signed s m (i - min i j).toNat + signed (!t) n (j - min i j).toNat < 0)) (signed s m (i - min i j).toNat + signed (!t) n (j - min i j).toNat).natAbs (min i j)) = _
    rw [signed_not, hX, hY, ← Int.sub_eq_add_neg, hneg]
  · unfold signed
    rw [Nat.shiftLeft_eq, h3, Int.natCast_mul]
    by_cases h0 : X - Y = 0
    · have hab : a - b = 0 := by
        rw [h0, Int.zero_mul] at ht
        rcases Int.mul_eq_zero.1 ht.symm with h | h
        · exact h
        · omega
      rw [hab]
      simp
    · rw [if_neg h0] at hneg
      by_cases hn : X - Y < 0
      · have hlt : a - b < 0 := by
          have h4 := Int.mul_neg_of_neg_of_pos hn hC
          rw [ht] at h4
          apply Decidable.byContradiction
          intro h5
          have := Int.mul_nonneg (show 0 ≤ a - b by omega) (Int.le_of_lt hD)
          omega
        rw [← hneg, if_pos (by simpa using hn), show (((a - b).natAbs : Nat) : Int) = -(a - b) by omega, Int.neg_mul, Int.neg_neg]
      · have hge : ¬ a - b < 0 := by
          intro h5
          have h4 := Int.mul_nonneg (show 0 ≤ X - Y by omega) (Int.le_of_lt hC)
          rw [ht] at h4
          have := Int.mul_neg_of_neg_of_pos h5 hD
          omega
        rw [← hneg, if_neg (by simpa using hn), show (((a - b).natAbs : Nat) : Int) = a - b by omega]
theorem zero_means : Means 0 0 := ⟨false, 0, -1074, by decide, by decide, by unfold signed; simp⟩

/-! ### The greatest float64 and the infinity. -/
/-- The greatest float64 as a whole number. -/
def top : Nat := 9007199254740991 * 2 ^ (E - 103)
theorem top_le : 9007199254740991 ≤ top := by
  unfold top
  have := Nat.two_pow_pos (E - 103)
  exact Nat.le_mul_of_pos_right _ this
theorem max_means : Means 9218868437227405311 (top : Int) := by
  have hE := e_eq
  refine ⟨false, 9007199254740991, 971, by decide, by omega, ?_⟩
  unfold signed top
  rw [if_neg (by decide), Nat.shiftLeft_eq, ← Int.natCast_mul, Nat.mul_assoc, pow_split (c := ((971 : Int) + E).toNat) (by omega)]
theorem min_means : Means 18442240474082181119 (-(top : Int)) := by
  have hE := e_eq
  refine ⟨true, 9007199254740991, 971, by decide, by omega, ?_⟩
  unfold signed top
  rw [if_pos rfl, Nat.shiftLeft_eq, Int.neg_mul, ← Int.natCast_mul, Nat.mul_assoc, pow_split (c := ((971 : Int) + E).toNat) (by omega)]
theorem cmp_int (a b : Int) : compare a b = (if a < b then Ordering.lt else if a = b then Ordering.eq else Ordering.gt) := rfl
theorem not_above {x : Nat} {n : Int} (hx : Means x n) (hn : n.natAbs < 2 ^ 53 - 1) : (FloatKind.f64.format.order x 9218868437227405311 == some .gt) = false := by
  have := top_le
  rw [order_means hx max_means, cmp_int, if_pos (by omega)]
  rfl
theorem not_below {x : Nat} {n : Int} (hx : Means x n) (hn : n.natAbs < 2 ^ 53 - 1) : (FloatKind.f64.format.order x 18442240474082181119 == some .lt) = false := by
  have := top_le
  rw [order_means hx min_means, cmp_int, if_neg (by omega), if_neg (by omega)]
  rfl
theorem inf_above : (FloatKind.f64.format.order 9218868437227405312 9218868437227405311 == some .gt) = true := by decide
theorem lt_zero {x : Nat} {n : Int} (hx : Means x n) : (FloatKind.f64.format.order x 0 == some .lt) = decide (n < 0) := by
  rw [order_means hx zero_means, cmp_int]
  by_cases h : n < 0
  · rw [if_pos h]; simp [h]
  · rw [if_neg h]
    by_cases h0 : n = 0
    · rw [if_pos h0]; simp [h]
    · rw [if_neg h0]; simp [h]
theorem gt_zero {x : Nat} {n : Int} (hx : Means x n) : (FloatKind.f64.format.order x 0 == some .gt) = decide (0 < n) := by
  rw [order_means hx zero_means, cmp_int]
  by_cases h : n < 0
  · rw [if_pos h]; simp; omega
  · rw [if_neg h]
    by_cases h0 : n = 0
    · rw [if_pos h0]; simp [h0]
    · rw [if_neg h0]; simp; omega
end Go.Proofs.YtgmdfkmmbcpikaaGreat.Flt

/- RatioSign, InBand: both sides; math.Inf, IsInf, Abs; the deviation as a float. -/
namespace Go.Proofs.YtgmdfkmmbcpikaaGreat.Rs
open Go.RowKit
open Go.Proofs.YtgmdfkmmbcpikaaGreat.C1
open Go.Proofs.YtgmdfkmmbcpikaaGreat.C2
open Go.Proofs.YtgmdfkmmbcpikaaGreat.Smps
open Go.Proofs.YtgmdfkmmbcpikaaGreat.Mem
open Go.Proofs.YtgmdfkmmbcpikaaGreat.Pd
open Go.Proofs.YtgmdfkmmbcpikaaGreat.Flt
open Go.Proofs.YtgmdfkmmbcpikaaGreat.Gl
set_option linter.unusedVariables false

/-! ### The package math. -/
theorem abs_means {b : Nat} {n : Int} (h : Means b n) (hb : b < 18446744073709551616) : Means (b % 9223372036854775808) (n.natAbs : Int) := by
  obtain ⟨s, m, p, h1, h2, h3⟩ := h
  refine ⟨false, m, p, ?_, h2, ?_⟩
  · have hs : Ieee.double.signWeight = 9223372036854775808 := by decide
    unfold Ieee.Format.read at h1 ⊢
    rw [hs] at h1 ⊢
    have e1 : b % 9223372036854775808 / 9223372036854775808 % 2 = 0 := by omega
    have e2 : b % 9223372036854775808 % 9223372036854775808 = b % 9223372036854775808 := by omega
    simp only [e1, e2] at h1 ⊢
    split at h1
    · rename_i g
      rw [if_pos g]
      cases h1
      rfl
    · rename_i g
      rw [if_neg g]
      split at h1
      · rename_i g2
        rw [if_pos g2]
        cases h1
        rfl
      · split at h1 <;> cases h1
  · unfold Ieee.signed at h3 ⊢
    rw [if_neg (by decide)]
    have h0 : (0 : Int) ≤ ((m <<< (p + E).toNat : Nat) : Int) := Int.natCast_nonneg _
    have hE := two_pos E
    by_cases hn : n < 0
    · have hs : s = true := by
        cases s
        · rw [if_neg (by decide)] at h3
          have := Int.mul_neg_of_neg_of_pos hn hE
          omega
        · rfl
      rw [hs, if_pos rfl] at h3
      rw [show ((n.natAbs : Nat) : Int) = -n by omega, Int.neg_mul, ← h3, Int.neg_neg]
    · rw [show ((n.natAbs : Nat) : Int) = n by omega]
      cases s
      · rw [if_neg (by decide)] at h3
        exact h3
      · rw [if_pos rfl] at h3
        have := Int.mul_nonneg (show 0 ≤ n by omega) (Int.le_of_lt hE)
        omega
theorem frombitsZ (z : Int) (w : World) : (callFunc 258 #[.int .u64 z]).run Tryz.prog w = .ok (.value (.float .f64 z.toNat)) w := by
  rw [run_callFunc_extern Tryz.func258 (by kernel_rfl) (by kernel_rfl) (by kernel_rfl) (show Extern.find Tryz.f258 = some Extern.MathFloatBits.float64frombits by kernel_rfl)]
  rfl
theorem frombits (b : Nat) (w : World) : (callFunc 258 #[.int .u64 (b : Int)]).run Tryz.prog w = .ok (.value (.float .f64 b)) w := by
  rw [frombitsZ, Int.toNat_natCast]
theorem tobits (b : Nat) (w : World) : (callFunc 264 #[.float .f64 b]).run Tryz.prog w = .ok (.value (.int .u64 (b : Int))) w := by
  rw [run_callFunc_extern Tryz.func264 (by kernel_rfl) (by kernel_rfl) (by kernel_rfl) (show Extern.find Tryz.f264 = some Extern.MathFloatBits.float64bits by kernel_rfl)]
  rfl
theorem inf_one (w : World) : Calls Tryz.prog 249 #[.int .i64 1] w fun e w' => e = .returned (.float .f64 9218868437227405312) ∧ w = w' := by
  have hf : ∀ w, (callFunc 258 #[.int .u64 9218868437227405312]).run Tryz.prog w = .ok (.value (.float .f64 9218868437227405312)) w := fun w => by
    have := frombitsZ 9218868437227405312 w
    simp only [Int.reduceToNat] at this
    exact this
  go_enter Tryz.func249, Tryz.ntmps249
  go_wp2
  go_ret
  exact ⟨rfl, rfl⟩
set_option maxRecDepth 20000 in
theorem math_abs (b : Nat) (hb : b < 18446744073709551616) (w : World) : Calls Tryz.prog 257 #[.float .f64 b] w fun e w' => e = .returned (.float .f64 (b % 9223372036854775808)) ∧ w = w' := by
  have ht := tobits b
  have hf : ∀ w, (callFunc 258 #[.int .u64 ((b : Int) % 9223372036854775808)]).run Tryz.prog w = .ok (.value (.float .f64 (b % 9223372036854775808))) w := fun w => by
    rw [frombitsZ, show ((b : Int) % 9223372036854775808).toNat = b % 9223372036854775808 by omega]
  have hbits : bits .andNot .u64 (b : Int) 9223372036854775808 = ((b % 9223372036854775808 : Nat) : Int) := by
    rw [u64_andNot (b : Int) 9223372036854775808 (by omega) (by omega) (by omega) (by omega)]
    have : b &&& (2 ^ 63 - 1) = b % 2 ^ 63 := Nat.and_two_pow_sub_one_eq_mod b 63
    exact congrArg (fun n : Nat => (n : Int)) this
  go_enter Tryz.func257, Tryz.ntmps257
  go_wp2
  go_ret
  exact ⟨rfl, rfl⟩
theorem is_inf (z : Nat) (hz : z < 18446744073709551616) (bo : Bool) (ho : (FloatKind.f64.format.order (z % 9223372036854775808) 9218868437227405311 == some .gt) = bo) (w : World) : Calls Tryz.prog 247 #[.float .f64 z, .int .i64 0] w fun e w' => e = .returned (.bool bo) ∧ w = w' := by
  go_enter Tryz.func247, Tryz.ntmps247
  go_wp2_with (go_at_call 257; refine (math_abs _ hz _).mono ?_; rintro e w' ⟨rfl, rfl⟩)
  go_ret
  exact ⟨ret1B (by first | rfl | exact ho), rfl⟩
theorem is_inf_yes (w : World) : Calls Tryz.prog 247 #[.float .f64 9218868437227405312, .int .i64 0] w fun e w' => e = .returned (.bool true) ∧ w = w' :=
  is_inf 9218868437227405312 (by omega) true (by rw [Nat.mod_eq_of_lt (by omega)]; exact inf_above) w
theorem is_inf_no (b : Nat) (n : Int) (hb : b < 18446744073709551616) (hm : Means b n) (hn : n.natAbs < 2 ^ 53 - 1) (w : World) : Calls Tryz.prog 247 #[.float .f64 b, .int .i64 0] w fun e w' => e = .returned (.bool false) ∧ w = w' :=
  is_inf b hb false (not_above (abs_means hm hb) (by omega)) w

/-! ### impl.signOf. -/
theorem sign_infz (z : Nat) (h : ∀ w, Calls Tryz.prog 247 #[.float .f64 z, .int .i64 0] w fun e w' => e = .returned (.bool true) ∧ w = w') (w : World) : Calls Tryz.prog 237 #[.float .f64 z] w fun e w' => e = .returned (.int .i64 2) ∧ w = w' := by
  go_enter Tryz.func237, Tryz.ntmps237
  go_wp2_with (go_at_call 247; refine (h _).mono ?_; rintro e w' ⟨rfl, rfl⟩)
  go_ret
  exact ⟨rfl, rfl⟩
theorem sign_inf (w : World) : Calls Tryz.prog 237 #[.float .f64 9218868437227405312] w fun e w' => e = .returned (.int .i64 2) ∧ w = w' := sign_infz 9218868437227405312 is_inf_yes w
theorem sign_num (b : Nat) (n : Int) (hb : b < 18446744073709551616) (hm : Means b n) (hn : n.natAbs < 2 ^ 53 - 1) (w : World) : Calls Tryz.prog 237 #[.float .f64 b] w fun e w' => e = .returned (.int .i64 (if n < 0 then -1 else if 0 < n then 1 else 0)) ∧ w = w' := by
  have hl := lt_zero hm
  have hg := gt_zero hm
  have HI := Lib.hid (is_inf_no b n hb hm hn)
  clear hm
  by_cases h1 : n < 0
  · rw [if_pos h1]
    rw [decide_eq_true h1] at hl
    clear hg h1
    go_enter Tryz.func237, Tryz.ntmps237
    go_wp2_with (go_at_call 247; refine (HI.out _).mono ?_; rintro e w' ⟨rfl, rfl⟩)
    go_ret
    exact ⟨rfl, rfl⟩
  · rw [if_neg h1]
    rw [decide_eq_false h1] at hl
    by_cases h2 : 0 < n
    · rw [if_pos h2]
      rw [decide_eq_true h2] at hg
      clear h1 h2
      go_enter Tryz.func237, Tryz.ntmps237
      go_wp2_with (go_at_call 247; refine (HI.out _).mono ?_; rintro e w' ⟨rfl, rfl⟩)
      go_ret
      exact ⟨rfl, rfl⟩
    · rw [if_neg h2]
      rw [decide_eq_false h2] at hg
      clear h1 h2
      go_enter Tryz.func237, Tryz.ntmps237
      go_wp2_with (go_at_call 247; refine (HI.out _).mono ?_; rintro e w' ⟨rfl, rfl⟩)
      go_ret
      exact ⟨rfl, rfl⟩

/-! ### Loads. -/
def ldV (s n : Int) : Value := .agg #[.int .i64 s, .int .i64 n]
theorem box_read2 {w w1 : World} {v0 v1 : Value} {t : TypeId} (h : Below (w.alloc (.cells #[v0, v1] t)).heap.size (w.alloc (.cells #[v0, v1] t)) w1) :
    w.heap.size < w1.heap.size ∧ Below w.heap.size w w1 ∧ w1.cell? ⟨w.heap.size, 0, none⟩ = some v0 ∧ w1.cell? ⟨w.heap.size, 1, none⟩ = some v1 := by
  have hz : (w.alloc (.cells #[v0, v1] t)).heap.size = w.heap.size + 1 := by simp
  have hs := h.size
  rw [hz] at hs
  have hc : ∀ j, w1.cell? ⟨w.heap.size, j, none⟩ = (w.alloc (.cells #[v0, v1] t)).cell? ⟨w.heap.size, j, none⟩ := fun j => h.cell (p := ⟨w.heap.size, j, none⟩) (by show w.heap.size < _; omega)
  refine ⟨by omega, (box_below w _ t).trans (h.mono (by omega)), ?_, ?_⟩ <;> rw [hc, World.cell?_alloc_new] <;> rfl
theorem impl_ldok (s n : Int) (w : World) :
    Calls Tryz.prog 248 #[ldV s n] w fun e w' => e = .returned (.bool (ldOk s n)) ∧ Below w.heap.size w w' := by
  unfold ldOk ldV
  rcases in_ways s 0 1000000000 with ⟨a1, a2, e1⟩ | ⟨a1, e1⟩
  · rcases in_ways n 1 1000 with ⟨b1, b2, e2⟩ | ⟨b1 | b1, e2⟩
    all_goals
      go_enter Tryz.func248, Tryz.ntmps248
      go_wp2_with (go_at_call 187; refine (impl_isSize _ _).mono ?_; rintro e w' ⟨rfl, rfl⟩)
      go_ret
      exact ⟨ret1B (by first | rfl | (rw [e1, e2]; simp; try omega)), box_below _ _ _⟩
  · clear a1
    go_enter Tryz.func248, Tryz.ntmps248
    go_wp2_with (go_at_call 187; refine (impl_isSize _ _).mono ?_; rintro e w' ⟨rfl, rfl⟩)
    go_ret
    exact ⟨ret1B (by first | rfl | (rw [e1]; simp)), box_below _ _ _⟩
/-- The deviation of a load. -/
def DevP (s n t : Int) (e : Ending) : Prop :=
  ((ldOk s n && inB t 1 1000000) = false ∧ e = .returned (.float .f64 9218868437227405312)) ∨
  ((ldOk s n && inB t 1 1000000) = true ∧ ∃ r : Nat, r < 18446744073709551616 ∧ Means r (s - n * t) ∧ e = .returned (.float .f64 r))
theorem impl_dev (s n t : Int) (w : World) :
    Calls Tryz.prog 238 #[ldV s n, .int .i64 t] w fun e w' => DevP s n t e ∧ Below w.heap.size w w' := by
  have hlo := fun W => impl_ldok s n W
  unfold ldV at hlo ⊢
  cases e1 : ldOk s n
  · rw [e1] at hlo
    have HD : Hid (DevP s n t (.returned (.float .f64 9218868437227405312))) := .inl ⟨by rw [e1]; rfl, rfl⟩
    clear e1
    go_enter Tryz.func238, Tryz.ntmps238
    go_wp2_with (first | (go_at_call 248; refine (hlo _).mono ?_; rintro e w1 ⟨rfl, hb1⟩; obtain ⟨r1, r2, q0, q1⟩ := box_read2 hb1; clear hb1) | (go_at_call 249; refine (inf_one _).mono ?_; rintro e w' ⟨rfl, rfl⟩))
    go_ret
    exact ⟨HD.out, r2⟩
  · rw [e1] at hlo
    cases e2 : inB t 1 1000000
    · have HD : Hid (DevP s n t (.returned (.float .f64 9218868437227405312))) := .inl ⟨by rw [e1, e2]; rfl, rfl⟩
      clear e1
      go_enter Tryz.func238, Tryz.ntmps238
      go_wp2_with (first | (go_at_call 248; refine (hlo _).mono ?_; rintro e w1 ⟨rfl, hb1⟩; obtain ⟨r1, r2, q0, q1⟩ := box_read2 hb1; clear hb1) | (go_at_call 149; refine (impl_target _ _).mono ?_; rintro e w' ⟨rfl, rfl⟩) | (go_at_call 249; refine (inf_one _).mono ?_; rintro e w' ⟨rfl, rfl⟩))
      go_ret
      exact ⟨HD.out, r2⟩
    · obtain ⟨⟨s1, s2⟩, n1, n2⟩ := (ldOk_iff s n).1 e1
      obtain ⟨t1, t2⟩ := in_iff.1 e2
      obtain ⟨p1, p2⟩ := prod_bd n1 n2 t1 t2
      have hm1 := int_means s (by omega)
      have hm2 := int_means (n * t) (by omega)
      obtain ⟨r, hr, hm⟩ := sub_means hm1 hm2 (by omega)
      have hlt : r < 18446744073709551616 := FloatKind.f64.format.sub_lt hr
      have hsub : ∀ (T : TypeId) (w : World), (binOp .sub T (.float .f64 (floatOfInt .f64 s)) (.float .f64 (floatOfInt .f64 (n * t)))).run Tryz.prog w = .ok (.float .f64 r) w := fun T w => run_float_arith w .sub T .f64 _ _ r hr
      have HD : Hid (DevP s n t (.returned (.float .f64 r))) := .inr ⟨by rw [e1, e2]; rfl, r, hlt, hm, rfl⟩
      clear e1 hm1 hm2 hr hm hlt
      go_enter Tryz.func238, Tryz.ntmps238
      go_wp2_with (first | (go_at_call 248; refine (hlo _).mono ?_; rintro e w1 ⟨rfl, hb1⟩; obtain ⟨r1, r2, q0, q1⟩ := box_read2 hb1; clear hb1) | (go_at_call 149; refine (impl_target _ _).mono ?_; rintro e w' ⟨rfl, rfl⟩))
      go_ret
      exact ⟨HD.out, r2⟩
theorem impl_lsign (s n t : Int) (w : World) :
    Calls Tryz.prog 219 #[ldV s n, .int .i64 t] w fun e w' => e = .returned (.int .i64 (rsV s n t)) ∧ Below w.heap.size w w' := by
  have hd := fun W => impl_dev s n t W
  obtain ⟨v, hv⟩ : ∃ v, rsV s n t = v := ⟨_, rfl⟩
  have HV := Lib.hid hv
  rw [hv]
  clear hv
  unfold ldV at hd ⊢
  go_enter Tryz.func219, Tryz.ntmps219
  go_wp2_with fail
  refine (hd _).mono ?_
  rintro e w1 ⟨hdv, hb1⟩
  obtain ⟨r1, r2, q0, q1⟩ := box_read2 hb1
  clear hb1
  rcases hdv with ⟨h1, rfl⟩ | ⟨h1, r, hlt, hm, rfl⟩
  · obtain rfl : v = 2 := by rw [← HV.out]; unfold rsV; rw [h1]; rfl
    clear h1 HV
    go_wp2_with (go_at_call 237; refine (sign_inf _).mono ?_; rintro e w' ⟨rfl, rfl⟩)
    go_ret
    exact ⟨rfl, r2⟩
  · rw [Bool.and_eq_true] at h1
    obtain ⟨⟨s1, s2⟩, n1, n2⟩ := (ldOk_iff s n).1 h1.1
    obtain ⟨t1, t2⟩ := in_iff.1 h1.2
    obtain ⟨p1, p2⟩ := prod_bd n1 n2 t1 t2
    have hr : (if s - n * t < 0 then (-1 : Int) else if 0 < s - n * t then 1 else 0) = v := by
      rw [← HV.out]
      rcases rs_good h1.1 h1.2 with ⟨a, b⟩ | ⟨a, b⟩ | ⟨a, b⟩
      · rw [b, if_pos (by omega)]
      · rw [b, if_neg (by omega), if_pos (by omega)]
      · rw [b, if_neg (by omega), if_neg (by omega)]
    have hs := sign_num r (s - n * t) hlt hm (by omega)
    rw [hr] at hs
    have HS := Lib.hid hs
    clear h1 hlt hm s1 s2 n1 n2 t1 t2 p1 p2 hr hs HV
    go_wp2_with (go_at_call 237; refine (HS.out _).mono ?_; rintro e w' ⟨rfl, rfl⟩)
    go_ret
    exact ⟨rfl, r2⟩
/-! ### The model. -/
theorem spec_sign (s n t : Int) (w : World) :
    Calls Tryz.prog 138 #[.int .i64 s, .int .i64 n, .int .i64 t] w fun e w' => e = .returned (.int .i64 (rsV s n t)) ∧ w = w' := by
  cases e1 : inB s 0 1000000000
  · rw [rs_bad3 (.inl e1)]
    go_enter Tryz.func138, Tryz.ntmps138
    go_wp2_with (go_at_call 68; refine (C1.spec_amt _ _).mono ?_; rintro e w' ⟨rfl, rfl⟩)
    go_ret
    exact ⟨rfl, rfl⟩
  · cases e2 : inB n 1 1000
    · rw [rs_bad3 (.inr (.inl e2))]
      go_enter Tryz.func138, Tryz.ntmps138
      go_wp2_with (first | (go_at_call 68; refine (C1.spec_amt _ _).mono ?_; rintro e w' ⟨rfl, rfl⟩) | (go_at_call 31; refine (C1.spec_in _ _ _ _).mono ?_; rintro e w' ⟨rfl, rfl⟩))
      go_ret
      exact ⟨rfl, rfl⟩
    · cases e3 : inB t 1 1000000
      · rw [rs_bad3 (.inr (.inr e3))]
        go_enter Tryz.func138, Tryz.ntmps138
        go_wp2_with (first | (go_at_call 68; refine (C1.spec_amt _ _).mono ?_; rintro e w' ⟨rfl, rfl⟩) | (go_at_call 31; refine (C1.spec_in _ _ _ _).mono ?_; rintro e w' ⟨rfl, rfl⟩))
        go_ret
        exact ⟨rfl, rfl⟩
      · have hl : ldOk s n = true := by unfold ldOk; rw [e1, e2]; rfl
        obtain ⟨s1, s2⟩ := in_iff.1 e1
        obtain ⟨n1, n2⟩ := in_iff.1 e2
        obtain ⟨t1, t2⟩ := in_iff.1 e3
        obtain ⟨p1, p2⟩ := prod_bd n1 n2 t1 t2
        rcases rs_good hl e3 with ⟨a, b⟩ | ⟨a, b⟩ | ⟨a, b⟩
        · rw [b]
          clear hl b
          go_enter Tryz.func138, Tryz.ntmps138
          go_wp2_with (first | (go_at_call 68; refine (C1.spec_amt _ _).mono ?_; rintro e w' ⟨rfl, rfl⟩) | (go_at_call 31; refine (C1.spec_in _ _ _ _).mono ?_; rintro e w' ⟨rfl, rfl⟩))
          go_ret
          exact ⟨rfl, rfl⟩
        · rw [b]
          have a' : ¬ s < n * t := by omega
          clear hl b
          go_enter Tryz.func138, Tryz.ntmps138
          go_wp2_with (first | (go_at_call 68; refine (C1.spec_amt _ _).mono ?_; rintro e w' ⟨rfl, rfl⟩) | (go_at_call 31; refine (C1.spec_in _ _ _ _).mono ?_; rintro e w' ⟨rfl, rfl⟩))
          go_ret
          exact ⟨rfl, rfl⟩
        · rw [b]
          have a' : ¬ s < n * t := by omega
          have a2 : ¬ n * t < s := by omega
          clear hl b a
          go_enter Tryz.func138, Tryz.ntmps138
          go_wp2_with (first | (go_at_call 68; refine (C1.spec_amt _ _).mono ?_; rintro e w' ⟨rfl, rfl⟩) | (go_at_call 31; refine (C1.spec_in _ _ _ _).mono ?_; rintro e w' ⟨rfl, rfl⟩))
          go_ret
          exact ⟨rfl, rfl⟩
end Go.Proofs.YtgmdfkmmbcpikaaGreat.Rs

/- InBand, RefillOf: both sides; readyLoad, refill, judge. -/
namespace Go.Proofs.YtgmdfkmmbcpikaaGreat.Bd
open Go.RowKit
open Go.Proofs.YtgmdfkmmbcpikaaGreat.C1
open Go.Proofs.YtgmdfkmmbcpikaaGreat.C2
open Go.Proofs.YtgmdfkmmbcpikaaGreat.Smps
open Go.Proofs.YtgmdfkmmbcpikaaGreat.Mem
open Go.Proofs.YtgmdfkmmbcpikaaGreat.Pd
open Go.Proofs.YtgmdfkmmbcpikaaGreat.Gl
open Go.Proofs.YtgmdfkmmbcpikaaGreat.Rs
set_option linter.unusedVariables false

theorem cells_new (w : World) (A : Array Value) (t : TypeId) : CellsW (w.alloc (.cells A t)) w.heap.size A.toList :=
  ⟨by simp, fun j hj => by simp at hj; simp [hj]⟩
theorem cells4 {w : World} {g : Nat} {a b c d : Value} (h : CellsW w g [a, b, c, d]) : w.cell? ⟨g, 0, none⟩ = some a ∧ w.cell? ⟨g, 1, none⟩ = some b ∧ w.cell? ⟨g, 2, none⟩ = some c ∧ w.cell? ⟨g, 3, none⟩ = some d :=
  ⟨(h.2 0 (by simp)).1, (h.2 1 (by simp)).1, (h.2 2 (by simp)).1, (h.2 3 (by simp)).1⟩
theorem cells3 {w : World} {g : Nat} {a b c : Value} (h : CellsW w g [a, b, c]) : w.cell? ⟨g, 0, none⟩ = some a ∧ w.cell? ⟨g, 1, none⟩ = some b ∧ w.cell? ⟨g, 2, none⟩ = some c :=
  ⟨(h.2 0 (by simp)).1, (h.2 1 (by simp)).1, (h.2 2 (by simp)).1⟩
theorem cells2 {w : World} {g : Nat} {a b : Value} (h : CellsW w g [a, b]) : w.cell? ⟨g, 0, none⟩ = some a ∧ w.cell? ⟨g, 1, none⟩ = some b :=
  ⟨(h.2 0 (by simp)).1, (h.2 1 (by simp)).1⟩
theorem box2_cells (w : World) (A B : Array Value) (t t' : TypeId) : CellsW ((w.alloc (.cells A t)).alloc (.cells B t')) w.heap.size A.toList ∧ CellsW ((w.alloc (.cells A t)).alloc (.cells B t')) (w.heap.size + 1) B.toList := by
  refine ⟨(cells_new w A t).kept ((Below.refl _ _).alloc (Nat.le_refl _) _), ?_⟩
  have := cells_new (w.alloc (.cells A t)) B t'
  rw [show (w.alloc (.cells A t)).heap.size = w.heap.size + 1 by simp] at this
  exact this
/-! ### InBand. -/
theorem impl_band (s n : Int) (g : Gl) (hg : g.wf) (w : World) :
    Calls Tryz.prog 254 #[glV g, ldV s n] w fun e w' => e = .returned (.bool (bandV s n g)) ∧ Below w.heap.size w w' := by
  have hlo := fun W => impl_ldok s n W
  have hgo := fun W => impl_goalok g hg W
  have HA := Lib.hid (box2_cells w #[.string g.met, .int .i64 g.tar, .int .i64 g.tol] #[.int .i64 s, .int .i64 n] 113 267)
  have H0 := Lib.hid (box2_below w (.cells #[.string g.met, .int .i64 g.tar, .int .i64 g.tol] 113) (.cells #[.int .i64 s, .int .i64 n] 267))
  obtain ⟨z0, z1, z2⟩ := cells3 HA.out.1
  obtain ⟨y0, y1⟩ := cells2 HA.out.2
  obtain ⟨v, hv⟩ : ∃ v, bandV s n g = v := ⟨_, rfl⟩
  have HV := Lib.hid hv
  rw [hv]
  unfold glV at hgo ⊢
  unfold ldV at hlo ⊢
  obtain ⟨W0, hW0⟩ : ∃ W0, (w.alloc (.cells #[.string g.met, .int .i64 g.tar, .int .i64 g.tol] 113)).alloc (.cells #[.int .i64 s, .int .i64 n] 267) = W0 := ⟨_, rfl⟩
  rw [hW0] at HA H0 z0 z1 z2 y0 y1
  have HW := Lib.hid hW0
  clear hv hW0
  cases e1 : ldOk s n
  · rw [e1] at hlo
    obtain rfl : v = false := by rw [← HV.out]; unfold bandV; rw [e1]; rfl
    clear e1 HV
    go_enter Tryz.func254, Tryz.ntmps254
    go_wp2_with fail
    rw [HW.out]
    refine (hlo _).mono ?_
    rintro e w1 ⟨rfl, hb1⟩
    have HB := Lib.hid (H0.out.trans (hb1.mono H0.out.size))
    clear hb1
    go_wp2
    go_ret
    exact ⟨rfl, HB.out⟩
  · rw [e1] at hlo
    have E1 := Lib.hid e1
    clear e1
    go_enter Tryz.func254, Tryz.ntmps254
    go_wp2_with fail
    rw [HW.out]
    refine (hlo _).mono ?_
    rintro e w1 ⟨rfl, hb1⟩
    have HB1 := Lib.hid (H0.out.trans (hb1.mono H0.out.size))
    have HC1 := Lib.hid (HA.out.1.kept hb1)
    have HD1 := Lib.hid (HA.out.2.kept hb1)
    clear hb1 z0 z1 z2 y0 y1
    obtain ⟨z0, z1, z2⟩ := cells3 HC1.out
    cases e2 : okG g
    · rw [e2] at hgo
      obtain rfl : v = false := by rw [← HV.out]; unfold bandV; rw [E1.out, e2]; rfl
      clear e2 HV
      go_wp2_with fail
      refine (hgo _).mono ?_
      rintro e w2 ⟨rfl, hb2⟩
      have HB2 := Lib.hid (HB1.out.trans (hb2.mono HB1.out.size))
      clear hb2
      go_wp2
      go_ret
      exact ⟨rfl, HB2.out⟩
    · rw [e2] at hgo
      obtain ⟨-, ⟨t1, t2⟩, o1, o2⟩ := (okG_iff g).1 e2
      obtain ⟨⟨s1, s2⟩, n1, n2⟩ := (ldOk_iff s n).1 E1.out
      obtain ⟨p1, p2⟩ := prod_bd n1 n2 t1 t2
      obtain rfl : nbV s (n * g.tar) g.tol = v := by rw [← HV.out]; unfold bandV; rw [E1.out, e2]; simp
      clear e2 HV
      go_wp2_with fail
      refine (hgo _).mono ?_
      rintro e w2 ⟨rfl, hb2⟩
      have HB2 := Lib.hid (HB1.out.trans (hb2.mono HB1.out.size))
      have HC2 := Lib.hid (HC1.out.kept hb2)
      have HD2 := Lib.hid (HD1.out.kept hb2)
      clear hb2 z0 z1 z2
      obtain ⟨z0, z1, z2⟩ := cells3 HC2.out
      obtain ⟨y0, y1⟩ := cells2 HD2.out
      go_wp2_with (go_at_call 263; refine (impl_near _ _ _ _).mono ?_; rintro e w' ⟨rfl, rfl⟩)
      go_ret
      exact ⟨rfl, HB2.out⟩
theorem band_rs (s n : Int) (g : Gl) (h : bandV s n g = true) : ldOk s n = true ∧ okG g = true := by
  unfold bandV at h
  simp only [Bool.and_eq_true] at h
  exact h.1
theorem rs_ne2 {s n : Int} {g : Gl} (h1 : ldOk s n = true) (h2 : okG g = true) : (rsV s n g.tar != 2) = true := by
  obtain ⟨-, ⟨t1, t2⟩, -⟩ := (okG_iff g).1 h2
  rcases rs_good (t := g.tar) h1 (in_yes t1 t2) with ⟨-, b⟩ | ⟨-, b⟩ | ⟨-, b⟩ <;> rw [b] <;> rfl
theorem spec_inband (s n : Int) (g : Gl) (hg : g.wf) (w : World) :
    Calls Tryz.prog 139 #[.int .i64 s, .int .i64 n, glV g] w fun e w' => e = .returned (.bool (bandV s n g)) ∧ Below w.heap.size w w' := by
  have hgo := fun W => spec_goalok g hg W
  obtain ⟨v, hv⟩ : ∃ v, bandV s n g = v := ⟨_, rfl⟩
  have HV := Lib.hid hv
  rw [hv]
  unfold glV at hgo ⊢
  clear hv
  cases e1 : (rsV s n g.tar != 2)
  · obtain rfl : v = false := by
      rw [← HV.out]
      cases hb : bandV s n g
      · rfl
      · obtain ⟨h1, h2⟩ := band_rs s n g hb
        rw [rs_ne2 h1 h2] at e1
        cases e1
    clear HV
    go_enter Tryz.func139, Tryz.ntmps139
    go_wp2_with (go_at_call 138; refine (spec_sign _ _ _ _).mono ?_; rintro e w' ⟨rfl, rfl⟩)
    go_ret
    exact ⟨rfl, box_below _ _ _⟩
  · cases e2 : okG g
    · rw [e2] at hgo
      obtain rfl : v = false := by rw [← HV.out]; unfold bandV; rw [e2]; simp
      clear HV e2
      go_enter Tryz.func139, Tryz.ntmps139
      go_wp2_with (first | (go_at_call 138; refine (spec_sign _ _ _ _).mono ?_; rintro e w' ⟨rfl, rfl⟩) | (go_at_call 63; refine (hgo _).mono ?_; rintro e w1 ⟨rfl, hb1⟩; obtain ⟨r1, r2, q0, q1, q2⟩ := box_read3 hb1; clear hb1))
      go_ret
      exact ⟨rfl, r2⟩
    · rw [e2] at hgo
      obtain ⟨-, ⟨t1, t2⟩, o1, o2⟩ := (okG_iff g).1 e2
      have hl : ldOk s n = true := by
        cases h : ldOk s n
        · rw [rs_bad (t := g.tar) (.inl h)] at e1
          cases e1
        · rfl
      obtain ⟨⟨s1, s2⟩, n1, n2⟩ := (ldOk_iff s n).1 hl
      obtain ⟨p1, p2⟩ := prod_bd n1 n2 t1 t2
      obtain rfl : nbV s (n * g.tar) g.tol = v := by rw [← HV.out]; unfold bandV; rw [hl, e2]; simp
      clear HV e2 hl
      go_enter Tryz.func139, Tryz.ntmps139
      go_wp2_with (first | (go_at_call 138; refine (spec_sign _ _ _ _).mono ?_; rintro e w' ⟨rfl, rfl⟩) | (go_at_call 63; refine (hgo _).mono ?_; rintro e w1 ⟨rfl, hb1⟩; obtain ⟨r1, r2, q0, q1, q2⟩ := box_read3 hb1; clear hb1) | (go_at_call 166; refine (spec_near _ _ _ _).mono ?_; rintro e w' ⟨rfl, rfl⟩))
      go_ret
      exact ⟨rfl, r2⟩
/-! ### usable. -/
theorem impl_pc (n : Int) (w : World) :
    Calls Tryz.prog 201 #[.int .i64 n] w fun e w' => e = .returned (.bool (inB n 0 12)) ∧ w = w' := by
  rcases in_ways n 0 12 with ⟨h1, h2, e⟩ | ⟨h1 | h1, e⟩
  all_goals
    rw [e]
    clear e
    go_enter Tryz.func201, Tryz.ntmps201
    go_wp2
    go_ret
    exact ⟨ret1B (by first | rfl | (simp; try omega)), rfl⟩
theorem okU_imp (t : Ty) : okU t = (inB t.rdy 0 12 && inB t.unr 0 12 && inB t.mis 0 12 && inB t.sum 0 1000000000 && decide (0 < t.rdy)) := by
  unfold okU inB
  rw [Bool.eq_iff_iff]
  simp only [Bool.and_eq_true, decide_eq_true_eq]
  omega
theorem impl_usable (t : Ty) (w : World) :
    Calls Tryz.prog 170 #[tyV t] w fun e w' => e = .returned (.bool (okU t)) ∧ Below w.heap.size w w' := by
  rw [okU_imp]
  unfold tyV
  cases c1 : inB t.rdy 0 12
  · go_enter Tryz.func170, Tryz.ntmps170
    go_wp2_with (first | (go_at_call 201; refine (impl_pc _ _).mono ?_; rintro e w' ⟨rfl, rfl⟩))
    go_ret
    exact ⟨ret1B (by first | rfl | simp), box_below _ _ _⟩
  · cases c2 : inB t.unr 0 12
    · go_enter Tryz.func170, Tryz.ntmps170
      go_wp2_with (first | (go_at_call 201; refine (impl_pc _ _).mono ?_; rintro e w' ⟨rfl, rfl⟩))
      go_ret
      exact ⟨ret1B (by first | rfl | simp), box_below _ _ _⟩
    · cases c3 : inB t.mis 0 12
      · go_enter Tryz.func170, Tryz.ntmps170
        go_wp2_with (first | (go_at_call 201; refine (impl_pc _ _).mono ?_; rintro e w' ⟨rfl, rfl⟩))
        go_ret
        exact ⟨ret1B (by first | rfl | simp), box_below _ _ _⟩
      · cases c4 : inB t.sum 0 1000000000
        · go_enter Tryz.func170, Tryz.ntmps170
          go_wp2_with (first | (go_at_call 201; refine (impl_pc _ _).mono ?_; rintro e w' ⟨rfl, rfl⟩) | (go_at_call 187; refine (impl_isSize _ _).mono ?_; rintro e w' ⟨rfl, rfl⟩))
          go_ret
          exact ⟨ret1B (by first | rfl | simp), box_below _ _ _⟩
        · by_cases h0 : 0 < t.rdy
          all_goals
            go_enter Tryz.func170, Tryz.ntmps170
            go_wp2_with (first | (go_at_call 201; refine (impl_pc _ _).mono ?_; rintro e w' ⟨rfl, rfl⟩) | (go_at_call 187; refine (impl_isSize _ _).mono ?_; rintro e w' ⟨rfl, rfl⟩))
            go_ret
            exact ⟨ret1B (by first | rfl | (simp; try omega)), box_below _ _ _⟩
theorem spec_usable (t : Ty) (w : World) :
    Calls Tryz.prog 136 #[tyV t] w fun e w' => e = .returned (.bool (okU t)) ∧ Below w.heap.size w w' := by
  unfold okU tyV
  cases c1 : inB t.rdy 1 12
  · go_enter Tryz.func136, Tryz.ntmps136
    go_wp2_with (go_at_call 31; refine (C1.spec_in _ _ _ _).mono ?_; rintro e w' ⟨rfl, rfl⟩)
    go_ret
    exact ⟨ret1B (by first | rfl | simp), box_below _ _ _⟩
  · cases c2 : inB t.unr 0 12
    · go_enter Tryz.func136, Tryz.ntmps136
      go_wp2_with (go_at_call 31; refine (C1.spec_in _ _ _ _).mono ?_; rintro e w' ⟨rfl, rfl⟩)
      go_ret
      exact ⟨ret1B (by first | rfl | simp), box_below _ _ _⟩
    · cases c3 : inB t.mis 0 12
      all_goals
        go_enter Tryz.func136, Tryz.ntmps136
        go_wp2_with (first | (go_at_call 31; refine (C1.spec_in _ _ _ _).mono ?_; rintro e w' ⟨rfl, rfl⟩) | (go_at_call 68; refine (C1.spec_amt _ _).mono ?_; rintro e w' ⟨rfl, rfl⟩))
        go_ret
        exact ⟨ret1B (by first | rfl | simp), box_below _ _ _⟩
end Go.Proofs.YtgmdfkmmbcpikaaGreat.Bd

/- RefillOf: both sides; readyLoad, refill. -/
namespace Go.Proofs.YtgmdfkmmbcpikaaGreat.Rf
open Go.RowKit
open Go.Proofs.YtgmdfkmmbcpikaaGreat.C1
open Go.Proofs.YtgmdfkmmbcpikaaGreat.C2
open Go.Proofs.YtgmdfkmmbcpikaaGreat.Smps
open Go.Proofs.YtgmdfkmmbcpikaaGreat.Mem
open Go.Proofs.YtgmdfkmmbcpikaaGreat.Pd
open Go.Proofs.YtgmdfkmmbcpikaaGreat.Gl
open Go.Proofs.YtgmdfkmmbcpikaaGreat.Rs
open Go.Proofs.YtgmdfkmmbcpikaaGreat.Bd
set_option linter.unusedVariables false

/-- The refilled load. -/
def rS (t : Ty) (x : Int) : Int := if rsV t.sum t.rdy x = -1 then t.sum + t.mis * x else t.sum
def rN (t : Ty) (x : Int) : Int := if rsV t.sum t.rdy x = -1 then t.rdy + t.mis else if rsV t.sum t.rdy x = 1 then t.rdy + (t.unr + t.mis) else t.rdy
theorem cellsF2 {w : World} {g : Nat} {a b : Value} (h : CellsW w g [a, b]) : w.frozen? ⟨g, 0, none⟩ = false ∧ w.frozen? ⟨g, 1, none⟩ = false :=
  ⟨(h.2 0 (by simp)).2, (h.2 1 (by simp)).2⟩
theorem CellsW.off {w : World} {g c j : Nat} {vs : List Value} (h : CellsW w g vs) (u : Value) (hne : g ≠ c) : CellsW (w.setCell ⟨c, j, none⟩ u) g vs :=
  ⟨by simpa [World.setCell] using h.1, fun i hi => ⟨by rw [World.cell?_setCell_other (h := show (⟨c, j, none⟩ : Addr) ≠ ⟨g, i, none⟩ by intro hh; cases hh; exact hne rfl)]; exact (h.2 i hi).1, by rw [World.frozen?_setCell]; exact (h.2 i hi).2⟩⟩
/-- A result that is a load's cells. -/
theorem ret_load {fn : Func} {k : Nat} (hr : fn.results = #[.cell k 267]) {W : World} {g : Nat} {s n : Int} {tmps : Array Value} (h : CellsW W g [.int .i64 s, .int .i64 n]) (h2 : tmps.getD k undef = .pointer (some ⟨g, 0, none⟩)) :
    (results fn tmps).run Tryz.prog W = .ok (ldV s n) W := by
  obtain ⟨c0, c1⟩ := cells2 h
  have hp' : tmps[k]?.getD undef = .pointer (some ⟨g, 0, none⟩) := by simpa using h2
  simp [results, hr, hp', asAddr, go_sem, c0, c1, ldV]
/-- The two stores of a load into its variable. -/
theorem ld_set {w : World} {g : Nat} {u0 u1 : Value} (h : CellsW w g [u0, u1]) (s n : Int) {B : Nat} (hB : B ≤ g) {a : World} (hb : Below B a w) :
    CellsW ((w.setCell ⟨g, 0, none⟩ (.int .i64 s)).setCell ⟨g, 1, none⟩ (.int .i64 n)) g [.int .i64 s, .int .i64 n] ∧ Below B a ((w.setCell ⟨g, 0, none⟩ (.int .i64 s)).setCell ⟨g, 1, none⟩ (.int .i64 n)) :=
  ⟨(h.set 0 (.int .i64 s) (by simp)).set 1 (.int .i64 n) (by simp), (hb.setCell (p := ⟨g, 0, none⟩) hB _).setCell (p := ⟨g, 1, none⟩) hB _⟩
theorem impl_ready (t : Ty) (w : World) :
    Calls Tryz.prog 204 #[tyV t] w fun e w' => e = .returned (ldV t.sum t.rdy) ∧ Below w.heap.size w w' := by
  unfold tyV
  go_enter Tryz.func204, Tryz.ntmps204
  go_wp2
  have k1 := (box2_cells w #[.int .i64 t.rdy, .int .i64 t.unr, .int .i64 t.mis, .int .i64 t.sum] #[.int .i64 t.sum, .int .i64 t.rdy] 150 267).2
  exact bodyPost_ret (ret_load rfl k1 rfl) rfl ⟨rfl, box2_below _ _ _⟩
set_option maxHeartbeats 2000000 in
theorem impl_refill (t : Ty) (x : Int) (hu : okU t = true) (hx : inB x 1 1000000 = true) (w : World) :
    Calls Tryz.prog 202 #[tyV t, .int .i64 x] w fun e w' => e = .returned (ldV (rS t x) (rN t x)) ∧ Below w.heap.size w w' := by
  have hrd := fun W => impl_ready t W
  have hsg := fun W => impl_lsign t.sum t.rdy x W
  obtain ⟨⟨r1, r2⟩, ⟨u1, u2⟩, ⟨m1, m2⟩, s1, s2⟩ := (okU_iff t).1 hu
  obtain ⟨x1, x2⟩ := in_iff.1 hx
  have hl : ldOk t.sum t.rdy = true := (ldOk_iff _ _).2 ⟨⟨s1, s2⟩, r1, by omega⟩
  have hmx : 0 ≤ t.mis * x ∧ t.mis * x ≤ 12000000 := by
    refine ⟨Int.mul_nonneg m1 (by omega), ?_⟩
    have := Int.mul_le_mul m2 x2 (by omega) (by omega)
    omega
  obtain ⟨mx1, mx2⟩ := hmx
  obtain ⟨S, hS⟩ : ∃ S, rS t x = S := ⟨_, rfl⟩
  obtain ⟨M, hM⟩ : ∃ M, rN t x = M := ⟨_, rfl⟩
  have HS := Lib.hid hS
  have HM := Lib.hid hM
  rw [hS, hM]
  have hrs := rs_good hl hx
  unfold rS at HS
  unfold rN at HM
  obtain ⟨q, hq⟩ : ∃ q, rsV t.sum t.rdy x = q := ⟨_, rfl⟩
  rw [hq] at hsg hrs HS HM
  have HRS := Lib.hid hrs
  clear hu hx hl hS hM hrs hq
  unfold tyV at hrd ⊢
  unfold ldV at hrd hsg ⊢
  have HA := Lib.hid (box2_cells w #[.int .i64 t.rdy, .int .i64 t.unr, .int .i64 t.mis, .int .i64 t.sum] #[.int .i64 0, .int .i64 0] 150 267)
  have H0 := Lib.hid (box2_below w (.cells #[.int .i64 t.rdy, .int .i64 t.unr, .int .i64 t.mis, .int .i64 t.sum] 150) (.cells #[.int .i64 0, .int .i64 0] 267))
  obtain ⟨W0, hW0⟩ : ∃ W0, (w.alloc (.cells #[.int .i64 t.rdy, .int .i64 t.unr, .int .i64 t.mis, .int .i64 t.sum] 150)).alloc (.cells #[.int .i64 0, .int .i64 0] 267) = W0 := ⟨_, rfl⟩
  rw [hW0] at HA H0
  have HW := Lib.hid hW0
  clear hW0
  obtain ⟨y0, y1, y2, y3⟩ := cells4 HA.out.1
  go_enter Tryz.func202, Tryz.ntmps202
  go_wp2_with fail
  rw [HW.out]
  refine (hrd _).mono ?_
  rintro e w1 ⟨rfl, hb1⟩
  have HB1 := Lib.hid (H0.out.trans (hb1.mono H0.out.size))
  have HT1 := Lib.hid (HA.out.1.kept hb1)
  have HR1 := Lib.hid (HA.out.2.kept hb1)
  clear hb1 y0 y1 y2 y3
  have HL1 := Lib.hid (cells_new w1 #[.int .i64 t.sum, .int .i64 t.rdy] 267)
  have hbx := box_below w1 #[.int .i64 t.sum, .int .i64 t.rdy] 267
  have HT2 := Lib.hid (HT1.out.kept hbx)
  have HR2 := Lib.hid (HR1.out.kept hbx)
  have HB2 := Lib.hid (HB1.out.trans (hbx.mono HB1.out.size))
  have hgt := HR1.out.1
  obtain ⟨W1, hW1⟩ : ∃ W1, w1.alloc (.cells #[.int .i64 t.sum, .int .i64 t.rdy] 267) = W1 := ⟨_, rfl⟩
  obtain ⟨g, hg⟩ : ∃ g, w1.heap.size = g := ⟨_, rfl⟩
  obtain ⟨b, hb⟩ : ∃ b, w.heap.size = b := ⟨_, rfl⟩
  have HWW := Lib.hid hW1
  have HGG := Lib.hid hg
  have HBB := Lib.hid hb
  rw [hW1] at HL1 HT2 HR2 HB2
  rw [hb] at HT2 HR2 hgt
  rw [hg] at HL1 hgt
  clear hbx HB1 HT1 HR1 HA H0 HW hg hW1 hb
  obtain ⟨l0, l1⟩ := cells2 HL1.out
  go_wp2_with fail
  rw [HWW.out]
  refine (hsg _).mono ?_
  rintro e w2 ⟨rfl, hb2⟩
  have HB3 := Lib.hid (HB2.out.trans (hb2.mono HB2.out.size))
  have HT3 := Lib.hid (HT2.out.kept hb2)
  have HR3 := Lib.hid (HR2.out.kept hb2)
  have HL3 := Lib.hid (HL1.out.kept hb2)
  clear hb2 l0 l1 HT2 HR2 HL1 HB2
  obtain ⟨l0, l1⟩ := cells2 HL3.out
  obtain ⟨fl0, fl1⟩ := cellsF2 HL3.out
  obtain ⟨fr0, fr1⟩ := cellsF2 HR3.out
  obtain ⟨y0, y1, y2, y3⟩ := cells4 HT3.out
  obtain ⟨z0, z1⟩ := cells2 HR3.out
  rw [HBB.out, HGG.out]
  have hbg := HBB.out
  have n1 : ¬ b = g := by omega
  have n2 : ¬ g = b := by omega
  have n3 : ¬ b + 1 = g := by omega
  have n4 : ¬ g = b + 1 := by omega
  clear hbg
  rcases HRS.out with ⟨-, rfl⟩ | ⟨-, rfl⟩ | ⟨-, rfl⟩
  · obtain rfl : t.sum + t.mis * x = S := by rw [← HS.out, if_pos rfl]
    obtain rfl : t.rdy + t.mis = M := by rw [← HM.out, if_pos rfl]
    go_wp2
    have hbg := HBB.out
    have hr := CellsW.off (j := 1) (CellsW.off (j := 0) HR3.out (.int .i64 (t.sum + t.mis * x)) n3) (.int .i64 (t.rdy + t.mis)) n3
    have hb := ((HB3.out.setCell (p := ⟨g, 0, none⟩) (by show _ ≤ g; omega) (.int .i64 (t.sum + t.mis * x))).setCell (p := ⟨g, 1, none⟩) (by show _ ≤ g; omega) (.int .i64 (t.rdy + t.mis)))
    obtain ⟨k1, k2⟩ := ld_set hr (t.sum + t.mis * x) (t.rdy + t.mis) (by omega) hb
    exact bodyPost_ret (ret_load rfl k1 rfl) rfl ⟨rfl, k2⟩
  · obtain rfl : t.sum = S := by rw [← HS.out, if_neg (by decide)]
    obtain rfl : t.rdy + (t.unr + t.mis) = M := by rw [← HM.out, if_neg (by decide), if_pos rfl]
    go_wp2
    have hbg := HBB.out
    have hr := CellsW.off (j := 1) HR3.out (.int .i64 (t.rdy + (t.unr + t.mis))) n3
    have hb := HB3.out.setCell (p := ⟨g, 1, none⟩) (by show _ ≤ g; omega) (.int .i64 (t.rdy + (t.unr + t.mis)))
    obtain ⟨k1, k2⟩ := ld_set hr t.sum (t.rdy + (t.unr + t.mis)) (by omega) hb
    exact bodyPost_ret (ret_load rfl k1 rfl) rfl ⟨rfl, k2⟩
  · obtain rfl : t.sum = S := by rw [← HS.out, if_neg (by decide)]
    obtain rfl : t.rdy = M := by rw [← HM.out, if_neg (by decide), if_neg (by decide)]
    go_wp2
    have hbg := HBB.out
    obtain ⟨k1, k2⟩ := ld_set HR3.out t.sum t.rdy (by omega) HB3.out
    exact bodyPost_ret (ret_load rfl k1 rfl) rfl ⟨rfl, k2⟩

/-! ### RefillOf. -/
theorem bd_refill (t : Ty) (x : Int) (hu : okU t = true) (hx : inB x 1 1000000 = true) : 0 ≤ rS t x ∧ rS t x ≤ 1012000000 ∧ 1 ≤ rN t x ∧ rN t x ≤ 36 ∧ 0 ≤ t.mis * x ∧ t.mis * x ≤ 12000000 := by
  obtain ⟨⟨r1, r2⟩, ⟨u1, u2⟩, ⟨m1, m2⟩, s1, s2⟩ := (okU_iff t).1 hu
  obtain ⟨x1, x2⟩ := in_iff.1 hx
  have h1 := Int.mul_nonneg m1 (show 0 ≤ x by omega)
  have h2 := Int.mul_le_mul m2 x2 (by omega) (by omega)
  unfold rS rN
  split
  · omega
  · split <;> omega
theorem ret2I {a b c d : Int} (h1 : a = c) (h2 : b = d) : Ending.returned (.tuple #[.int .i64 a, .int .i64 b]) = .returned (.tuple #[.int .i64 c, .int .i64 d]) := by rw [h1, h2]
def rf1 (t : Ty) (g : Gl) : Int := if okU t = true ∧ okG g = true then rS t g.tar else 0
def rf2 (t : Ty) (g : Gl) : Int := if okU t = true ∧ okG g = true then rN t g.tar else 0
theorem rf_no {t : Ty} {g : Gl} (h : okU t = false ∨ okG g = false) : rf1 t g = 0 ∧ rf2 t g = 0 := by
  unfold rf1 rf2
  rcases h with h | h <;> rw [h] <;> simp
theorem rf_yes {t : Ty} {g : Gl} (h : okU t = true) (h2 : okG g = true) : rf1 t g = rS t g.tar ∧ rf2 t g = rN t g.tar := by
  unfold rf1 rf2
  rw [if_pos ⟨h, h2⟩, if_pos ⟨h, h2⟩]
  exact ⟨rfl, rfl⟩
/-! ### The model. -/
set_option maxHeartbeats 2000000 in
theorem spec_refillof (t : Ty) (g : Gl) (hg : g.wf) (S M : Int) (hS : rf1 t g = S) (hM : rf2 t g = M) (w : World) :
    Calls Tryz.prog 137 #[tyV t, glV g] w fun e w' => e = .returned (.tuple #[.int .i64 S, .int .i64 M]) ∧ Below w.heap.size w w' := by
  have hus := fun W => spec_usable t W
  have hgo := fun W => spec_goalok g hg W
  have HS := Lib.hid hS
  have HM := Lib.hid hM
  clear hS hM
  unfold tyV glV
  unfold tyV at hus
  unfold glV at hgo
  have HA := Lib.hid (box2_cells w #[.int .i64 t.rdy, .int .i64 t.unr, .int .i64 t.mis, .int .i64 t.sum] #[.string g.met, .int .i64 g.tar, .int .i64 g.tol] 150 113)
  have H0 := Lib.hid (box2_below w (.cells #[.int .i64 t.rdy, .int .i64 t.unr, .int .i64 t.mis, .int .i64 t.sum] 150) (.cells #[.string g.met, .int .i64 g.tar, .int .i64 g.tol] 113))
  obtain ⟨W0, hW0⟩ : ∃ W0, (w.alloc (.cells #[.int .i64 t.rdy, .int .i64 t.unr, .int .i64 t.mis, .int .i64 t.sum] 150)).alloc (.cells #[.string g.met, .int .i64 g.tar, .int .i64 g.tol] 113) = W0 := ⟨_, rfl⟩
  rw [hW0] at HA H0
  have HW := Lib.hid hW0
  clear hW0
  obtain ⟨y0, y1, y2, y3⟩ := cells4 HA.out.1
  obtain ⟨z0, z1, z2⟩ := cells3 HA.out.2
  cases c1 : okU t
  · rw [c1] at hus
    obtain rfl : 0 = S := (rf_no (.inl c1)).1.symm.trans HS.out
    obtain rfl : 0 = M := (rf_no (.inl c1)).2.symm.trans HM.out
    clear c1
    go_enter Tryz.func137, Tryz.ntmps137
    go_wp2_with fail
    rw [HW.out]
    refine (hus _).mono ?_
    rintro e w1 ⟨rfl, hb1⟩
    have HB := Lib.hid (H0.out.trans (hb1.mono H0.out.size))
    clear hb1
    go_wp2
    go_ret2
    exact ⟨rfl, HB.out⟩
  · rw [c1] at hus
    have C1 := Lib.hid c1
    clear c1
    go_enter Tryz.func137, Tryz.ntmps137
    go_wp2_with fail
    rw [HW.out]
    refine (hus _).mono ?_
    rintro e w1 ⟨rfl, hb1⟩
    have HB1 := Lib.hid (H0.out.trans (hb1.mono H0.out.size))
    have HT1 := Lib.hid (HA.out.1.kept hb1)
    have HG1 := Lib.hid (HA.out.2.kept hb1)
    clear hb1 y0 y1 y2 y3 z0 z1 z2
    obtain ⟨z0, z1, z2⟩ := cells3 HG1.out
    cases c2 : okG g
    · rw [c2] at hgo
      obtain rfl : 0 = S := (rf_no (.inr c2)).1.symm.trans HS.out
      obtain rfl : 0 = M := (rf_no (.inr c2)).2.symm.trans HM.out
      clear c2
      go_wp2_with fail
      refine (hgo _).mono ?_
      rintro e w2 ⟨rfl, hb2⟩
      have HB2 := Lib.hid (HB1.out.trans (hb2.mono HB1.out.size))
      clear hb2
      go_wp2
      go_ret2
      exact ⟨rfl, HB2.out⟩
    · rw [c2] at hgo
      obtain ⟨-, ⟨t1, t2⟩, -⟩ := (okG_iff g).1 c2
      obtain ⟨hS1, hS2⟩ := rf_yes C1.out c2
      have HS2 := Lib.hid (hS1.symm.trans HS.out)
      have HM2 := Lib.hid (hS2.symm.trans HM.out)
      obtain ⟨⟨r1, r2⟩, ⟨u1, u2⟩, ⟨m1, m2⟩, s1, s2⟩ := (okU_iff t).1 C1.out
      obtain ⟨_, _, _, _, x1, x2⟩ := bd_refill t g.tar C1.out (in_yes t1 t2)
      have hl : ldOk t.sum t.rdy = true := (ldOk_iff _ _).2 ⟨⟨s1, s2⟩, r1, by omega⟩
      have hrs := rs_good hl (in_yes t1 t2)
      have hsg := fun W => spec_sign t.sum t.rdy g.tar W
      unfold rS at HS2
      unfold rN at HM2
      obtain ⟨q, hq⟩ : ∃ q, rsV t.sum t.rdy g.tar = q := ⟨_, rfl⟩
      rw [hq] at hsg hrs HS2 HM2
      have HRS := Lib.hid hrs
      clear hl hrs hq HS HM c2 hS1 hS2
      go_wp2_with fail
      refine (hgo _).mono ?_
      rintro e w2 ⟨rfl, hb2⟩
      have HB2 := Lib.hid (HB1.out.trans (hb2.mono HB1.out.size))
      have HT2 := Lib.hid (HT1.out.kept hb2)
      have HG2 := Lib.hid (HG1.out.kept hb2)
      clear hb2 z0 z1 z2
      obtain ⟨y0, y1, y2, y3⟩ := cells4 HT2.out
      obtain ⟨z0, z1, z2⟩ := cells3 HG2.out
      by_cases h0 : t.unr + t.mis = 0
      · have hb0 : (t.unr + t.mis == 0) = true := by rw [beq_iff_eq]; exact h0
        obtain rfl : t.sum = S := by
          rw [← HS2.out]
          have : t.mis = 0 := by omega
          rw [this, Int.zero_mul, Int.add_zero, ite_self]
        obtain rfl : t.rdy = M := by
          rw [← HM2.out]
          have e1 : t.mis = 0 := by omega
          have e2 : t.unr = 0 := by omega
          rw [e1, e2]
          simp
        go_wp2_with fail
        go_quiet (fail)
        go_wp2
        go_ret2
        exact ⟨rfl, below_drewN HB2.out _⟩
      · have hb0 : (t.unr + t.mis == 0) = false := by rw [beq_eq_false_iff_ne]; exact h0
        rcases HRS.out with ⟨-, rfl⟩ | ⟨-, rfl⟩ | ⟨-, rfl⟩
        · obtain rfl : t.sum + t.mis * g.tar = S := by rw [← HS2.out, if_pos rfl]
          obtain rfl : t.rdy + t.mis = M := by rw [← HM2.out, if_pos rfl]
          go_wp2_with (go_at_call 138; refine (hsg _).mono ?_; rintro e w' ⟨rfl, rfl⟩)
          go_quiet (fail)
          go_wp2
          go_ret2
          exact ⟨rfl, below_drewN HB2.out _⟩
        · obtain rfl : t.sum = S := by rw [← HS2.out, if_neg (by decide)]
          obtain rfl : t.rdy + (t.unr + t.mis) = M := by rw [← HM2.out, if_neg (by decide), if_pos rfl]
          go_wp2_with (go_at_call 138; refine (hsg _).mono ?_; rintro e w' ⟨rfl, rfl⟩)
          go_quiet (fail)
          go_wp2
          go_ret2
          exact ⟨ret2I (a := t.sum) (b := t.rdy + t.unr + t.mis) rfl (by omega), below_drewN HB2.out _⟩
        · obtain rfl : t.sum = S := by rw [← HS2.out, if_neg (by decide)]
          obtain rfl : t.rdy = M := by rw [← HM2.out, if_neg (by decide), if_neg (by decide)]
          go_wp2_with (go_at_call 138; refine (hsg _).mono ?_; rintro e w' ⟨rfl, rfl⟩)
          go_quiet (fail)
          go_wp2
          go_ret2
          exact ⟨rfl, below_drewN HB2.out _⟩
end Go.Proofs.YtgmdfkmmbcpikaaGreat.Rf

/- sync.Once and the law of a control: createLaw once, then the law. One goroutine. -/
namespace Go.Proofs.YtgmdfkmmbcpikaaGreat.Once
open Go.RowKit
open Go.Proofs.YtgmdfkmmbcpikaaGreat.C1
open Go.Proofs.YtgmdfkmmbcpikaaGreat.C2
open Go.Proofs.YtgmdfkmmbcpikaaGreat.Smps
open Go.Proofs.YtgmdfkmmbcpikaaGreat.Mem
open Go.Proofs.YtgmdfkmmbcpikaaGreat.Pd
open Go.Proofs.YtgmdfkmmbcpikaaGreat.Gl
open Go.Proofs.YtgmdfkmmbcpikaaGreat.Rs
open Go.Proofs.YtgmdfkmmbcpikaaGreat.Bd
open Go.Proofs.YtgmdfkmmbcpikaaGreat.Rf
set_option linter.unusedVariables false

theorem disable (w : World) : (callFunc 265 #[]).run Tryz.prog w = .ok (.value (.tuple #[])) w := run_call_mark0 Tryz.func265 (by kernel_rfl) (by kernel_rfl) (by kernel_rfl) .disable (by kernel_rfl) w
theorem enable (w : World) : (callFunc 267 #[]).run Tryz.prog w = .ok (.value (.tuple #[])) w := run_call_mark0 Tryz.func267 (by kernel_rfl) (by kernel_rfl) (by kernel_rfl) .enable (by kernel_rfl) w
theorem acquire (a : Addr) (w : World) : (callFunc 268 #[.pointer (some a)]).run Tryz.prog w = .ok (.value (.tuple #[])) w := run_call_marked Tryz.func268 (by kernel_rfl) (by kernel_rfl) (by kernel_rfl) .acquire (by kernel_rfl) a w
theorem releaseMerge (a : Addr) (w : World) : (callFunc 270 #[.pointer (some a)]).run Tryz.prog w = .ok (.value (.tuple #[])) w := run_call_marked Tryz.func270 (by kernel_rfl) (by kernel_rfl) (by kernel_rfl) .releaseMerge (by kernel_rfl) a w
/-- '(*sync/atomic.Bool).Store(true)', entered as a deferred call: the cell holds 1. -/
theorem store_deferred (a : Addr) (x : Value) (u : FrameMode) (w : World) (hc : w.cell? a = some x) (hz : w.frozen? a = false) :
    CallsD Tryz.prog 253 #[.pointer (some a), .bool true] u w fun e u' w' => u' = u ∧ (e = .returned (.tuple #[]) ∧ w' = w.drew.setCell a (.int .u32 1)) := by
  have hc' : w.drew.cell? a = some x := by go_simp
  have hz' : w.drew.frozen? a = false := by go_simp
  have hst := run_call_store (P := Tryz.prog) Tryz.func261 (by kernel_rfl) (by kernel_rfl) (by kernel_rfl) (by kernel_rfl) (k := .u32) (y := 1) hc' hz'
  go_enter_d Tryz.func253, Tryz.ntmps253
  go_wp2
  go_region_calls
  all_goals (go_end0; exact ⟨rfl, rfl⟩)
set_option maxRecDepth 100000 in
set_option maxHeartbeats 1600000 in
/-- '(*sync.Mutex).Unlock', entered as a deferred call, the lock held and nobody waiting (state 1): state 0. -/
theorem unlock_deferred (a : Addr) (u : FrameMode) (w : World) (hc : w.cell? a = some (.int .i32 1)) (hz : w.frozen? a = false) :
    CallsD Tryz.prog 252 #[.pointer (some a)] u w fun e u' w' => u' = u ∧ (e = .returned (.tuple #[]) ∧ w' = w.setCell a (.int .i32 0)) := by
  have hd := disable
  have he := enable
  have hr := releaseMerge
  have hadd := run_call_add (P := Tryz.prog) Tryz.func271 (by kernel_rfl) (by kernel_rfl) (by kernel_rfl) .i32 (by kernel_rfl) (y := -1) (s := 0) hc hz (by simp [go_sem]; rfl)
  have hcv := run_convert_to_unsafe (P := Tryz.prog) (src := 314) (dst := 318) Tryz.underlying314 Tryz.underlying318 (by kernel_rfl) hc
  go_enter_d Tryz.func252, Tryz.ntmps252
  go_wp2
  go_end0
  go_wp2
  go_end0
  exact ⟨rfl, rfl⟩
set_option maxRecDepth 100000 in
set_option maxHeartbeats 1600000 in
/-- '(*sync.Mutex).Lock', the lock free (state 0): state 1. -/
theorem lock_free (a : Addr) (w : World) (hc : w.cell? a = some (.int .i32 0)) (hz : w.frozen? a = false) :
    Calls Tryz.prog 251 #[.pointer (some a)] w fun e w' => e = .returned (.tuple #[]) ∧ w' = w.setCell a (.int .i32 1) := by
  have hd := disable
  have he := enable
  have ha := acquire
  have hcas := run_call_cas_hit (P := Tryz.prog) Tryz.func266 (by kernel_rfl) (by kernel_rfl) (by kernel_rfl) .i32 (by kernel_rfl) (y := 1) hc hz
  have hc' : (w.setCell a (.int .i32 1)).cell? a = some (.int .i32 1) := World.cell?_setCell_same w a _ hc
  have hcv := run_convert_to_unsafe (P := Tryz.prog) (src := 314) (dst := 318) Tryz.underlying314 Tryz.underlying318 (by kernel_rfl) hc'
  go_enter Tryz.func251, Tryz.ntmps251
  go_wp2
  first | go_end0 | (simp only [Exit.inBlock, Exit.then]; refine bodyPost_ret (results_none rfl _ _ _) rfl ?_) | refine bodyPost_ret (results_none rfl _ _ _) rfl ?_
  go_wp2
  go_end0
  exact ⟨rfl, rfl⟩
/-! ### A control in memory: goal (3 cells), once (done, lock, sema), law. -/
def lawF (g : Gl) : Value := .func (.func 241) #[glV g] #[]
/-- A control that has its law (k = 1) or not yet (k = 0). -/
def ctlV (g : Gl) (k : Int) (l : Value) : List Value := [.string g.met, .int .i64 g.tar, .int .i64 g.tol, .int .u32 k, .int .i32 0, .int .u32 0, l]
def makeF (a : Nat) : Value := .func (.func 221) #[.pointer (some ⟨a, 0, none⟩)] #[]
theorem cells7 {w : World} {a : Nat} {v0 v1 v2 v3 v4 v5 v6 : Value} (h : CellsW w a [v0, v1, v2, v3, v4, v5, v6]) : w.cell? ⟨a, 0, none⟩ = some v0 ∧ w.cell? ⟨a, 1, none⟩ = some v1 ∧ w.cell? ⟨a, 2, none⟩ = some v2 ∧ w.cell? ⟨a, 3, none⟩ = some v3 ∧ w.cell? ⟨a, 4, none⟩ = some v4 ∧ w.cell? ⟨a, 5, none⟩ = some v5 ∧ w.cell? ⟨a, 6, none⟩ = some v6 :=
  ⟨(h.2 0 (by simp)).1, (h.2 1 (by simp)).1, (h.2 2 (by simp)).1, (h.2 3 (by simp)).1, (h.2 4 (by simp)).1, (h.2 5 (by simp)).1, (h.2 6 (by simp)).1⟩
theorem cellsF7 {w : World} {a : Nat} {v0 v1 v2 v3 v4 v5 v6 : Value} (h : CellsW w a [v0, v1, v2, v3, v4, v5, v6]) : w.frozen? ⟨a, 3, none⟩ = false ∧ w.frozen? ⟨a, 4, none⟩ = false ∧ w.frozen? ⟨a, 6, none⟩ = false :=
  ⟨(h.2 3 (by simp)).2, (h.2 4 (by simp)).2, (h.2 6 (by simp)).2⟩
theorem make_law (g : Gl) (a : Nat) (x3 x4 x5 l : Value) (w : World) (h : CellsW w a [.string g.met, .int .i64 g.tar, .int .i64 g.tol, x3, x4, x5, l]) :
    Calls Tryz.prog 221 #[.pointer (some ⟨a, 0, none⟩)] w fun e w' => e = .returned (.tuple #[]) ∧ w' = w.setCell ⟨a, 6, none⟩ (lawF g) := by
  have hmf : ∀ (fn : Fn) (first cap : Array Value) (w : World), (Instr.makeFunc fn first cap).run Tryz.prog w = .ok (.func fn first cap) w := fun _ _ _ _ => rfl
  obtain ⟨c0, c1, c2, c3, c4, c5, c6⟩ := cells7 h
  obtain ⟨f3, f4, f6⟩ := cellsF7 h
  unfold lawF glV
  go_enter Tryz.func221, Tryz.ntmps221
  go_wp2
  go_end0
  exact ⟨rfl, rfl⟩
/-! ### sync.Once. -/
set_option maxRecDepth 100000 in
set_option maxHeartbeats 1600000 in
theorem slow_any (g : Gl) (a : Nat) (l : Value) (w : World) (h : CellsW w a (ctlV g 0 l)) :
    Calls Tryz.prog 240 #[.pointer (some ⟨a, 3, none⟩), makeF a] w fun e w' => e = .returned (.tuple #[]) ∧
      w' = (((w.setCell ⟨a, 4, none⟩ (.int .i32 1)).setCell ⟨a, 6, none⟩ (lawF g)).drew.setCell ⟨a, 3, none⟩ (.int .u32 1)).setCell ⟨a, 4, none⟩ (.int .i32 0) := by
  have h1 : CellsW (w.setCell ⟨a, 4, none⟩ (.int .i32 1)) a [.string g.met, .int .i64 g.tar, .int .i64 g.tol, .int .u32 0, .int .i32 1, .int .u32 0, l] := h.set 4 (.int .i32 1) (by simp [ctlV])
  have h2 : CellsW ((w.setCell ⟨a, 4, none⟩ (.int .i32 1)).setCell ⟨a, 6, none⟩ (lawF g)) a [.string g.met, .int .i64 g.tar, .int .i64 g.tol, .int .u32 0, .int .i32 1, .int .u32 0, lawF g] := h1.set 6 (lawF g) (by simp)
  have hl := run_call_load (P := Tryz.prog) Tryz.func250 (by kernel_rfl) (by kernel_rfl) (by kernel_rfl) .u32 (by kernel_rfl) (w := w.setCell ⟨a, 4, none⟩ (.int .i32 1)) (a := ⟨a, 3, none⟩) (x := 0) (cells7 h1).2.2.2.1
  have hnot : ∀ (x : Bool) (w : World), (Op.unary .not (.bool x)).run Tryz.prog w = .ok (.bool (!x)) w := fun _ _ => rfl
  have H2 := Lib.hid h2
  have H1 := Lib.hid h1
  have h4 := (cells7 h).2.2.2.2.1
  have f4 := (cellsF7 h).2.1
  unfold makeF
  clear h1 h2
  go_enter_defers Tryz.func240, Tryz.ntmps240
  go_wp2_with (go_at_call 251; refine (lock_free ⟨a, 4, none⟩ _ h4 f4).mono ?_; rintro e w' ⟨rfl, rfl⟩)
  go_wp2_with (first | (go_at_call 239; go_in) | (go_at_call 221; refine (make_law g a _ _ _ _ _ H1.out).mono ?_; rintro e w' ⟨rfl, rfl⟩))
  -- two deferred calls, the last laid first
  refine leaves_cons (f := 253) (args := #[.pointer (some ⟨a, 3, none⟩), .bool true]) (by simp) (by simp [go_sem]) ?_
  refine (store_deferred ⟨a, 3, none⟩ (.int .u32 0) .returning _ (cells7 H2.out).2.2.2.1 (cellsF7 H2.out).1).mono ?_
  rintro e u' w'' ⟨rfl, rfl, rfl⟩
  have h3 := ((H2.out.kept ((Below.refl _ _).drew : Below ((w.setCell ⟨a, 4, none⟩ (.int .i32 1)).setCell ⟨a, 6, none⟩ (lawF g)).heap.size _ ((w.setCell ⟨a, 4, none⟩ (.int .i32 1)).setCell ⟨a, 6, none⟩ (lawF g)).drew)).set 3 (.int .u32 1) (by simp))
  refine leaves_cons (f := 252) (args := #[.pointer (some ⟨a, 4, none⟩)]) (by simp [settle]) (by simp [go_sem]) ?_
  refine (unlock_deferred ⟨a, 4, none⟩ _ _ (h3.2 4 (by simp)).1 (h3.2 4 (by simp)).2).mono ?_
  rintro e u' w'' ⟨rfl, rfl, rfl⟩
  simp [Leaves, settle, results, Tryz.results240]
set_option maxRecDepth 100000 in
set_option maxHeartbeats 1600000 in
theorem do_first (g : Gl) (a : Nat) (l : Value) (w : World) (h : CellsW w a (ctlV g 0 l)) :
    Calls Tryz.prog 220 #[.pointer (some ⟨a, 3, none⟩), makeF a] w fun e w' => e = .returned (.tuple #[]) ∧ Only a w w' ∧ CellsW w' a (ctlV g 1 (lawF g)) := by
  have hs := slow_any g a l w h
  have hl := run_call_load (P := Tryz.prog) Tryz.func250 (by kernel_rfl) (by kernel_rfl) (by kernel_rfl) .u32 (by kernel_rfl) (w := w) (a := ⟨a, 3, none⟩) (x := 0) (cells7 h).2.2.2.1
  have hnot : ∀ (x : Bool) (w : World), (Op.unary .not (.bool x)).run Tryz.prog w = .ok (.bool (!x)) w := fun _ _ => rfl
  have H := Lib.hid h
  unfold makeF at hs ⊢
  have HS := Lib.hid hs
  clear h hs
  go_enter Tryz.func220, Tryz.ntmps220
  go_wp2_with (first | (go_at_call 240; refine HS.out.mono ?_; rintro e w' ⟨rfl, hw⟩; have HW := Lib.hid hw; clear hw) | (go_at_call 239; go_in))
  go_end0
  refine ⟨rfl, ?_, ?_⟩
  · rw [HW.out]
    exact (((((Only.refl a w).setCell 4 (.int .i32 1)).setCell 6 (lawF g)).trans (Only.of_below (Below.refl _ _).drew)).setCell 3 (.int .u32 1)).setCell 4 (.int .i32 0)
  · rw [HW.out]
    have h1 := (H.out.set 4 (.int .i32 1) (by simp [ctlV])).set 6 (lawF g) (by simp [ctlV])
    exact ((h1.kept (Below.refl _ _).drew).set 3 (.int .u32 1) (by simp [ctlV])).set 4 (.int .i32 0) (by simp [ctlV])
theorem do_done (g : Gl) (a : Nat) (l fv : Value) (w : World) (h : CellsW w a (ctlV g 1 l)) :
    Calls Tryz.prog 220 #[.pointer (some ⟨a, 3, none⟩), fv] w fun e w' => e = .returned (.tuple #[]) ∧ w' = w := by
  have hl := run_call_load (P := Tryz.prog) Tryz.func250 (by kernel_rfl) (by kernel_rfl) (by kernel_rfl) .u32 (by kernel_rfl) (w := w) (a := ⟨a, 3, none⟩) (x := 1) (cells7 h).2.2.2.1
  have hnot : ∀ (x : Bool) (w : World), (Op.unary .not (.bool x)).run Tryz.prog w = .ok (.bool (!x)) w := fun _ _ => rfl
  clear h
  go_enter Tryz.func220, Tryz.ntmps220
  go_wp2_with (go_at_call 239; go_in)
  go_end0
  exact ⟨rfl, rfl⟩
/-! ### The law. -/
theorem impl_judge (s n : Int) (g : Gl) (hg : g.wf) (w : World) :
    Calls Tryz.prog 241 #[glV g, ldV s n] w fun e w' => e = .returned (.int .i64 (jdV s n g)) ∧ Below w.heap.size w w' := by
  have hbd := fun W => impl_band s n g hg W
  have hsg := fun W => impl_lsign s n g.tar W
  have HA := Lib.hid (box2_cells w #[.string g.met, .int .i64 g.tar, .int .i64 g.tol] #[.int .i64 s, .int .i64 n] 113 267)
  have H0 := Lib.hid (box2_below w (.cells #[.string g.met, .int .i64 g.tar, .int .i64 g.tol] 113) (.cells #[.int .i64 s, .int .i64 n] 267))
  obtain ⟨z0, z1, z2⟩ := cells3 HA.out.1
  obtain ⟨y0, y1⟩ := cells2 HA.out.2
  obtain ⟨v, hv⟩ : ∃ v, jdV s n g = v := ⟨_, rfl⟩
  have HV := Lib.hid hv
  rw [hv]
  unfold glV ldV at hbd ⊢
  unfold ldV at hsg
  obtain ⟨W0, hW0⟩ : ∃ W0, (w.alloc (.cells #[.string g.met, .int .i64 g.tar, .int .i64 g.tol] 113)).alloc (.cells #[.int .i64 s, .int .i64 n] 267) = W0 := ⟨_, rfl⟩
  rw [hW0] at HA H0 z0 z1 z2 y0 y1
  have HW := Lib.hid hW0
  clear hv hW0
  go_enter Tryz.func241, Tryz.ntmps241
  go_wp2_with fail
  rw [HW.out]
  refine (hbd _).mono ?_
  rintro e w1 ⟨rfl, hb1⟩
  have HB1 := Lib.hid (H0.out.trans (hb1.mono H0.out.size))
  have HC1 := Lib.hid (HA.out.1.kept hb1)
  have HD1 := Lib.hid (HA.out.2.kept hb1)
  clear hb1 z0 z1 z2 y0 y1
  cases e1 : bandV s n g
  · obtain rfl : rsV s n g.tar = v := by rw [← HV.out]; unfold jdV; rw [e1]; rfl
    obtain ⟨z0, z1, z2⟩ := cells3 HC1.out
    obtain ⟨y0, y1⟩ := cells2 HD1.out
    clear e1 HV
    go_wp2_with fail
    refine (hsg _).mono ?_
    rintro e w2 ⟨rfl, hb2⟩
    have HB2 := Lib.hid (HB1.out.trans (hb2.mono HB1.out.size))
    clear hb2
    go_wp2
    go_ret
    exact ⟨rfl, HB2.out⟩
  · obtain rfl : 0 = v := by rw [← HV.out]; unfold jdV; rw [e1]; rfl
    clear e1 HV
    go_wp2
    go_ret
    exact ⟨rfl, HB1.out⟩
end Go.Proofs.YtgmdfkmmbcpikaaGreat.Once
