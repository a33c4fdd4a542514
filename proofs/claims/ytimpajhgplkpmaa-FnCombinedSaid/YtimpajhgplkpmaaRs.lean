/- RatioSign, InBand: both sides; math.Inf, IsInf, Abs; the deviation as a float. -/
import Derived.Test.YtimpajhgplkpmaaFlt
import Derived.Test.YtimpajhgplkpmaaGl
namespace Go.Proofs.Ytimpajhgplkpmaa.Rs
open Go.RowKit
open Go.Proofs.Ytimpajhgplkpmaa.C1
open Go.Proofs.Ytimpajhgplkpmaa.C2
open Go.Proofs.Ytimpajhgplkpmaa.Smps
open Go.Proofs.Ytimpajhgplkpmaa.Mem
open Go.Proofs.Ytimpajhgplkpmaa.Pd
open Go.Proofs.Ytimpajhgplkpmaa.Flt
open Go.Proofs.Ytimpajhgplkpmaa.Gl
set_option linter.unusedVariables false

/-! ### The package math. -/
theorem abs_means {b : Nat} {n : Int} (h : Means b n) (hb : b < 18446744073709551616) : Means (b % 9223372036854775808) (n.natAbs : Int) := by
  obtain ⟨s, m, p, h1, h2, h3⟩ := h
  refine ⟨false, m, p, ?_, h2, ?_⟩
  · have hs : Ieee.double.signWeight = 9223372036854775808 := by decide
    unfold Ieee.Format.read at h1 ⊢
    rw [hs] at h1 ⊢
    have e1 : b % 9223372036854775808 / 9223372036854775808 % 2 = 0 := by omega
    have e2 : b % 9223372036854775808 % 9223372036854775808 = b % 9223372036854775808 := by omega
    simp only [e1, e2] at h1 ⊢
    split at h1
    · rename_i g
      rw [if_pos g]
      cases h1
      rfl
    · rename_i g
      rw [if_neg g]
      split at h1
      · rename_i g2
        rw [if_pos g2]
        cases h1
        rfl
      · split at h1 <;> cases h1
  · unfold Ieee.signed at h3 ⊢
    rw [if_neg (by decide)]
    have h0 : (0 : Int) ≤ ((m <<< (p + E).toNat : Nat) : Int) := Int.natCast_nonneg _
    have hE := two_pos E
    by_cases hn : n < 0
    · have hs : s = true := by
        cases s
        · rw [if_neg (by decide)] at h3
          have := Int.mul_neg_of_neg_of_pos hn hE
          omega
        · rfl
      rw [hs, if_pos rfl] at h3
      rw [show ((n.natAbs : Nat) : Int) = -n by omega, Int.neg_mul, ← h3, Int.neg_neg]
    · rw [show ((n.natAbs : Nat) : Int) = n by omega]
      cases s
      · rw [if_neg (by decide)] at h3
        exact h3
      · rw [if_pos rfl] at h3
        have := Int.mul_nonneg (show 0 ≤ n by omega) (Int.le_of_lt hE)
        omega
theorem frombitsZ (z : Int) (w : World) : (callFunc 137 #[.int .u64 z]).run Try.prog w = .ok (.value (.float .f64 z.toNat)) w := by
  rw [run_callFunc_extern Try.func137 (by kernel_rfl) (by kernel_rfl) (by kernel_rfl) (show Extern.find Try.f137 = some Extern.MathFloatBits.float64frombits by kernel_rfl)]
  rfl
theorem frombits (b : Nat) (w : World) : (callFunc 137 #[.int .u64 (b : Int)]).run Try.prog w = .ok (.value (.float .f64 b)) w := by
  rw [frombitsZ, Int.toNat_natCast]
theorem tobits (b : Nat) (w : World) : (callFunc 146 #[.float .f64 b]).run Try.prog w = .ok (.value (.int .u64 (b : Int))) w := by
  rw [run_callFunc_extern Try.func146 (by kernel_rfl) (by kernel_rfl) (by kernel_rfl) (show Extern.find Try.f146 = some Extern.MathFloatBits.float64bits by kernel_rfl)]
  rfl
theorem inf_one (w : World) : Calls Try.prog 120 #[.int .i64 1] w fun e w' => e = .returned (.float .f64 9218868437227405312) ∧ w = w' := by
  have hf : ∀ w, (callFunc 137 #[.int .u64 9218868437227405312]).run Try.prog w = .ok (.value (.float .f64 9218868437227405312)) w := fun w => by
    have := frombitsZ 9218868437227405312 w
    simp only [Int.reduceToNat] at this
    exact this
  go_enter Try.func120, Try.ntmps120
  go_wp2
  go_ret
  exact ⟨rfl, rfl⟩
set_option maxRecDepth 20000 in
theorem math_abs (b : Nat) (hb : b < 18446744073709551616) (w : World) : Calls Try.prog 136 #[.float .f64 b] w fun e w' => e = .returned (.float .f64 (b % 9223372036854775808)) ∧ w = w' := by
  have ht := tobits b
  have hf : ∀ w, (callFunc 137 #[.int .u64 ((b : Int) % 9223372036854775808)]).run Try.prog w = .ok (.value (.float .f64 (b % 9223372036854775808))) w := fun w => by
    rw [frombitsZ, show ((b : Int) % 9223372036854775808).toNat = b % 9223372036854775808 by omega]
  have hbits : bits .andNot .u64 (b : Int) 9223372036854775808 = ((b % 9223372036854775808 : Nat) : Int) := by
    rw [u64_andNot (b : Int) 9223372036854775808 (by omega) (by omega) (by omega) (by omega)]
    have : b &&& (2 ^ 63 - 1) = b % 2 ^ 63 := Nat.and_two_pow_sub_one_eq_mod b 63
    exact congrArg (fun n : Nat => (n : Int)) this
  go_enter Try.func136, Try.ntmps136
  go_wp2
  go_ret
  exact ⟨rfl, rfl⟩
theorem is_inf (z : Nat) (hz : z < 18446744073709551616) (bo : Bool) (ho : (FloatKind.f64.format.order (z % 9223372036854775808) 9218868437227405311 == some .gt) = bo) (w : World) : Calls Try.prog 119 #[.float .f64 z, .int .i64 0] w fun e w' => e = .returned (.bool bo) ∧ w = w' := by
  go_enter Try.func119, Try.ntmps119
  go_wp2_with (go_at_call 136; refine (math_abs _ hz _).mono ?_; rintro e w' ⟨rfl, rfl⟩)
  go_ret
  exact ⟨ret1B (by first | rfl | exact ho), rfl⟩
theorem is_inf_yes (w : World) : Calls Try.prog 119 #[.float .f64 9218868437227405312, .int .i64 0] w fun e w' => e = .returned (.bool true) ∧ w = w' :=
  is_inf 9218868437227405312 (by omega) true (by rw [Nat.mod_eq_of_lt (by omega)]; exact inf_above) w
theorem is_inf_no (b : Nat) (n : Int) (hb : b < 18446744073709551616) (hm : Means b n) (hn : n.natAbs < 2 ^ 53 - 1) (w : World) : Calls Try.prog 119 #[.float .f64 b, .int .i64 0] w fun e w' => e = .returned (.bool false) ∧ w = w' :=
  is_inf b hb false (not_above (abs_means hm hb) (by omega)) w

/-! ### impl.signOf. -/
theorem sign_infz (z : Nat) (h : ∀ w, Calls Try.prog 119 #[.float .f64 z, .int .i64 0] w fun e w' => e = .returned (.bool true) ∧ w = w') (w : World) : Calls Try.prog 98 #[.float .f64 z] w fun e w' => e = .returned (.int .i64 2) ∧ w = w' := by
  go_enter Try.func98, Try.ntmps98
  go_wp2_with (go_at_call 119; refine (h _).mono ?_; rintro e w' ⟨rfl, rfl⟩)
  go_ret
  exact ⟨rfl, rfl⟩
theorem sign_inf (w : World) : Calls Try.prog 98 #[.float .f64 9218868437227405312] w fun e w' => e = .returned (.int .i64 2) ∧ w = w' := sign_infz 9218868437227405312 is_inf_yes w
theorem sign_num (b : Nat) (n : Int) (hb : b < 18446744073709551616) (hm : Means b n) (hn : n.natAbs < 2 ^ 53 - 1) (w : World) : Calls Try.prog 98 #[.float .f64 b] w fun e w' => e = .returned (.int .i64 (if n < 0 then -1 else if 0 < n then 1 else 0)) ∧ w = w' := by
  have hl := lt_zero hm
  have hg := gt_zero hm
  have HI := Lib.hid (is_inf_no b n hb hm hn)
  clear hm
  by_cases h1 : n < 0
  · rw [if_pos h1]
    rw [decide_eq_true h1] at hl
    clear hg h1
    go_enter Try.func98, Try.ntmps98
    go_wp2_with (go_at_call 119; refine (HI.out _).mono ?_; rintro e w' ⟨rfl, rfl⟩)
    go_ret
    exact ⟨rfl, rfl⟩
  · rw [if_neg h1]
    rw [decide_eq_false h1] at hl
    by_cases h2 : 0 < n
    · rw [if_pos h2]
      rw [decide_eq_true h2] at hg
      clear h1 h2
      go_enter Try.func98, Try.ntmps98
      go_wp2_with (go_at_call 119; refine (HI.out _).mono ?_; rintro e w' ⟨rfl, rfl⟩)
      go_ret
      exact ⟨rfl, rfl⟩
    · rw [if_neg h2]
      rw [decide_eq_false h2] at hg
      clear h1 h2
      go_enter Try.func98, Try.ntmps98
      go_wp2_with (go_at_call 119; refine (HI.out _).mono ?_; rintro e w' ⟨rfl, rfl⟩)
      go_ret
      exact ⟨rfl, rfl⟩

/-! ### Loads. -/
def ldV (s n : Int) : Value := .agg #[.int .i64 s, .int .i64 n]
theorem box_read2 {w w1 : World} {v0 v1 : Value} {t : TypeId} (h : Below (w.alloc (.cells #[v0, v1] t)).heap.size (w.alloc (.cells #[v0, v1] t)) w1) :
    w.heap.size < w1.heap.size ∧ Below w.heap.size w w1 ∧ w1.cell? ⟨w.heap.size, 0, none⟩ = some v0 ∧ w1.cell? ⟨w.heap.size, 1, none⟩ = some v1 := by
  have hz : (w.alloc (.cells #[v0, v1] t)).heap.size = w.heap.size + 1 := by simp
  have hs := h.size
  rw [hz] at hs
  have hc : ∀ j, w1.cell? ⟨w.heap.size, j, none⟩ = (w.alloc (.cells #[v0, v1] t)).cell? ⟨w.heap.size, j, none⟩ := fun j => h.cell (p := ⟨w.heap.size, j, none⟩) (by show w.heap.size < _; omega)
  refine ⟨by omega, (box_below w _ t).trans (h.mono (by omega)), ?_, ?_⟩ <;> rw [hc, World.cell?_alloc_new] <;> rfl
theorem impl_ldok (s n : Int) (w : World) :
    Calls Try.prog 100 #[ldV s n] w fun e w' => e = .returned (.bool (ldOk s n)) ∧ Below w.heap.size w w' := by
  unfold ldOk ldV
  rcases in_ways s 0 1000000000 with ⟨a1, a2, e1⟩ | ⟨a1, e1⟩
  · rcases in_ways n 1 1000 with ⟨b1, b2, e2⟩ | ⟨b1 | b1, e2⟩
    all_goals
      go_enter Try.func100, Try.ntmps100
      go_wp2_with (go_at_call 94; refine (impl_isSize _ _).mono ?_; rintro e w' ⟨rfl, rfl⟩)
      go_ret
      exact ⟨ret1B (by first | rfl | (rw [e1, e2]; simp; try omega)), box_below _ _ _⟩
  · clear a1
    go_enter Try.func100, Try.ntmps100
    go_wp2_with (go_at_call 94; refine (impl_isSize _ _).mono ?_; rintro e w' ⟨rfl, rfl⟩)
    go_ret
    exact ⟨ret1B (by first | rfl | (rw [e1]; simp)), box_below _ _ _⟩
/-- The deviation of a load. -/
def DevP (s n t : Int) (e : Ending) : Prop :=
  ((ldOk s n && inB t 1 1000000) = false ∧ e = .returned (.float .f64 9218868437227405312)) ∨
  ((ldOk s n && inB t 1 1000000) = true ∧ ∃ r : Nat, r < 18446744073709551616 ∧ Means r (s - n * t) ∧ e = .returned (.float .f64 r))
theorem impl_dev (s n t : Int) (w : World) :
    Calls Try.prog 99 #[ldV s n, .int .i64 t] w fun e w' => DevP s n t e ∧ Below w.heap.size w w' := by
  have hlo := fun W => impl_ldok s n W
  unfold ldV at hlo ⊢
  cases e1 : ldOk s n
  · rw [e1] at hlo
    have HD : Hid (DevP s n t (.returned (.float .f64 9218868437227405312))) := .inl ⟨by rw [e1]; rfl, rfl⟩
    clear e1
    go_enter Try.func99, Try.ntmps99
    go_wp2_with (first | (go_at_call 100; refine (hlo _).mono ?_; rintro e w1 ⟨rfl, hb1⟩; obtain ⟨r1, r2, q0, q1⟩ := box_read2 hb1; clear hb1) | (go_at_call 120; refine (inf_one _).mono ?_; rintro e w' ⟨rfl, rfl⟩))
    go_ret
    exact ⟨HD.out, r2⟩
  · rw [e1] at hlo
    cases e2 : inB t 1 1000000
    · have HD : Hid (DevP s n t (.returned (.float .f64 9218868437227405312))) := .inl ⟨by rw [e1, e2]; rfl, rfl⟩
      clear e1
      go_enter Try.func99, Try.ntmps99
      go_wp2_with (first | (go_at_call 100; refine (hlo _).mono ?_; rintro e w1 ⟨rfl, hb1⟩; obtain ⟨r1, r2, q0, q1⟩ := box_read2 hb1; clear hb1) | (go_at_call 85; refine (impl_target _ _).mono ?_; rintro e w' ⟨rfl, rfl⟩) | (go_at_call 120; refine (inf_one _).mono ?_; rintro e w' ⟨rfl, rfl⟩))
      go_ret
      exact ⟨HD.out, r2⟩
    · obtain ⟨⟨s1, s2⟩, n1, n2⟩ := (ldOk_iff s n).1 e1
      obtain ⟨t1, t2⟩ := in_iff.1 e2
      obtain ⟨p1, p2⟩ := prod_bd n1 n2 t1 t2
      have hm1 := int_means s (by omega)
      have hm2 := int_means (n * t) (by omega)
      obtain ⟨r, hr, hm⟩ := sub_means hm1 hm2 (by omega)
      have hlt : r < 18446744073709551616 := FloatKind.f64.format.sub_lt hr
      have hsub : ∀ (T : TypeId) (w : World), (binOp .sub T (.float .f64 (floatOfInt .f64 s)) (.float .f64 (floatOfInt .f64 (n * t)))).run Try.prog w = .ok (.float .f64 r) w := fun T w => run_float_arith w .sub T .f64 _ _ r hr
      have HD : Hid (DevP s n t (.returned (.float .f64 r))) := .inr ⟨by rw [e1, e2]; rfl, r, hlt, hm, rfl⟩
      clear e1 hm1 hm2 hr hm hlt
      go_enter Try.func99, Try.ntmps99
      go_wp2_with (first | (go_at_call 100; refine (hlo _).mono ?_; rintro e w1 ⟨rfl, hb1⟩; obtain ⟨r1, r2, q0, q1⟩ := box_read2 hb1; clear hb1) | (go_at_call 85; refine (impl_target _ _).mono ?_; rintro e w' ⟨rfl, rfl⟩))
      go_ret
      exact ⟨HD.out, r2⟩
theorem impl_lsign (s n t : Int) (w : World) :
    Calls Try.prog 59 #[ldV s n, .int .i64 t] w fun e w' => e = .returned (.int .i64 (rsV s n t)) ∧ Below w.heap.size w w' := by
  have hd := fun W => impl_dev s n t W
  obtain ⟨v, hv⟩ : ∃ v, rsV s n t = v := ⟨_, rfl⟩
  have HV := Lib.hid hv
  rw [hv]
  clear hv
  unfold ldV at hd ⊢
  go_enter Try.func59, Try.ntmps59
  go_wp2_with fail
  refine (hd _).mono ?_
  rintro e w1 ⟨hdv, hb1⟩
  obtain ⟨r1, r2, q0, q1⟩ := box_read2 hb1
  clear hb1
  rcases hdv with ⟨h1, rfl⟩ | ⟨h1, r, hlt, hm, rfl⟩
  · obtain rfl : v = 2 := by rw [← HV.out]; unfold rsV; rw [h1]; rfl
    clear h1 HV
    go_wp2_with (go_at_call 98; refine (sign_inf _).mono ?_; rintro e w' ⟨rfl, rfl⟩)
    go_ret
    exact ⟨rfl, r2⟩
  · rw [Bool.and_eq_true] at h1
    obtain ⟨⟨s1, s2⟩, n1, n2⟩ := (ldOk_iff s n).1 h1.1
    obtain ⟨t1, t2⟩ := in_iff.1 h1.2
    obtain ⟨p1, p2⟩ := prod_bd n1 n2 t1 t2
    have hr : (if s - n * t < 0 then (-1 : Int) else if 0 < s - n * t then 1 else 0) = v := by
      rw [← HV.out]
      rcases rs_good h1.1 h1.2 with ⟨a, b⟩ | ⟨a, b⟩ | ⟨a, b⟩
      · rw [b, if_pos (by omega)]
      · rw [b, if_neg (by omega), if_pos (by omega)]
      · rw [b, if_neg (by omega), if_neg (by omega)]
    have hs := sign_num r (s - n * t) hlt hm (by omega)
    rw [hr] at hs
    have HS := Lib.hid hs
    clear h1 hlt hm s1 s2 n1 n2 t1 t2 p1 p2 hr hs HV
    go_wp2_with (go_at_call 98; refine (HS.out _).mono ?_; rintro e w' ⟨rfl, rfl⟩)
    go_ret
    exact ⟨rfl, r2⟩
theorem impl_ratio (s n t : Int) (w : World) :
    Calls Try.prog 16 #[.int .i64 s, .int .i64 n, .int .i64 t] w fun e w' => e = .returned (.int .i64 (rsV s n t)) ∧ Below w.heap.size w w' := by
  have hd := fun W => impl_lsign s n t W
  unfold ldV at hd
  go_enter Try.func16, Try.ntmps16
  go_wp2_with (go_at_call 59; refine (hd _).mono ?_; rintro e w1 ⟨rfl, hb1⟩)
  go_ret
  exact ⟨rfl, hb1⟩
/-! ### The model. -/
theorem spec_sign (s n t : Int) (w : World) :
    Calls Try.prog 45 #[.int .i64 s, .int .i64 n, .int .i64 t] w fun e w' => e = .returned (.int .i64 (rsV s n t)) ∧ w = w' := by
  cases e1 : inB s 0 1000000000
  · rw [rs_bad3 (.inl e1)]
    go_enter Try.func45, Try.ntmps45
    go_wp2_with (go_at_call 87; refine (C1.spec_amt _ _).mono ?_; rintro e w' ⟨rfl, rfl⟩)
    go_ret
    exact ⟨rfl, rfl⟩
  · cases e2 : inB n 1 1000
    · rw [rs_bad3 (.inr (.inl e2))]
      go_enter Try.func45, Try.ntmps45
      go_wp2_with (first | (go_at_call 87; refine (C1.spec_amt _ _).mono ?_; rintro e w' ⟨rfl, rfl⟩) | (go_at_call 66; refine (C1.spec_in _ _ _ _).mono ?_; rintro e w' ⟨rfl, rfl⟩))
      go_ret
      exact ⟨rfl, rfl⟩
    · cases e3 : inB t 1 1000000
      · rw [rs_bad3 (.inr (.inr e3))]
        go_enter Try.func45, Try.ntmps45
        go_wp2_with (first | (go_at_call 87; refine (C1.spec_amt _ _).mono ?_; rintro e w' ⟨rfl, rfl⟩) | (go_at_call 66; refine (C1.spec_in _ _ _ _).mono ?_; rintro e w' ⟨rfl, rfl⟩))
        go_ret
        exact ⟨rfl, rfl⟩
      · have hl : ldOk s n = true := by unfold ldOk; rw [e1, e2]; rfl
        obtain ⟨s1, s2⟩ := in_iff.1 e1
        obtain ⟨n1, n2⟩ := in_iff.1 e2
        obtain ⟨t1, t2⟩ := in_iff.1 e3
        obtain ⟨p1, p2⟩ := prod_bd n1 n2 t1 t2
        rcases rs_good hl e3 with ⟨a, b⟩ | ⟨a, b⟩ | ⟨a, b⟩
        · rw [b]
          clear hl b
          go_enter Try.func45, Try.ntmps45
          go_wp2_with (first | (go_at_call 87; refine (C1.spec_amt _ _).mono ?_; rintro e w' ⟨rfl, rfl⟩) | (go_at_call 66; refine (C1.spec_in _ _ _ _).mono ?_; rintro e w' ⟨rfl, rfl⟩))
          go_ret
          exact ⟨rfl, rfl⟩
        · rw [b]
          have a' : ¬ s < n * t := by omega
          clear hl b
          go_enter Try.func45, Try.ntmps45
          go_wp2_with (first | (go_at_call 87; refine (C1.spec_amt _ _).mono ?_; rintro e w' ⟨rfl, rfl⟩) | (go_at_call 66; refine (C1.spec_in _ _ _ _).mono ?_; rintro e w' ⟨rfl, rfl⟩))
          go_ret
          exact ⟨rfl, rfl⟩
        · rw [b]
          have a' : ¬ s < n * t := by omega
          have a2 : ¬ n * t < s := by omega
          clear hl b a
          go_enter Try.func45, Try.ntmps45
          go_wp2_with (first | (go_at_call 87; refine (C1.spec_amt _ _).mono ?_; rintro e w' ⟨rfl, rfl⟩) | (go_at_call 66; refine (C1.spec_in _ _ _ _).mono ?_; rintro e w' ⟨rfl, rfl⟩))
          go_ret
          exact ⟨rfl, rfl⟩
end Go.Proofs.Ytimpajhgplkpmaa.Rs
