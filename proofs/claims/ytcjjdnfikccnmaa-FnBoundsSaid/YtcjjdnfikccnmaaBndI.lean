/- The counts that policies allow: the program's most, least, bounds and its iterator. -/
import Derived.Test.YtcjjdnfikccnmaaMvd
import Derived.Test.YtcjjdnfikccnmaaPl
namespace Go.Proofs.Ytcjjdnfikccnmaa.BndI
open Go.RowKit Go.Shelf Go.BigFrame
open Go.Proofs.Ytcjjdnfikccnmaa.C1
open Go.Proofs.Ytcjjdnfikccnmaa.C2
open Go.Proofs.Ytcjjdnfikccnmaa.Smps
open Go.Proofs.Ytcjjdnfikccnmaa.Mem
open Go.Proofs.Ytcjjdnfikccnmaa.Ser
open Go.Proofs.Ytcjjdnfikccnmaa.Pl
open Go.Proofs.Ytcjjdnfikccnmaa.BhM
open Go.Proofs.Ytcjjdnfikccnmaa.BhI
open Go.Proofs.Ytcjjdnfikccnmaa.LogI
open Go.Proofs.Ytcjjdnfikccnmaa.Itr
open Go.Proofs.Ytcjjdnfikccnmaa.Tail
open Go.Proofs.Ytcjjdnfikccnmaa.Win
open Go.Proofs.Ytcjjdnfikccnmaa.Ext
open Go.Proofs.Ytcjjdnfikccnmaa.Cons
open Go.Proofs.Ytcjjdnfikccnmaa.Mvd
attribute [local go_sem] Oper.semAt_some
set_option linter.unusedVariables false

theorem mul_bd2 {x y a b : Int} (hx : 0 ≤ x ∧ x ≤ a) (hy : 0 ≤ y ∧ y ≤ b) : 0 ≤ x * y ∧ x * y ≤ a * b := ⟨Int.mul_nonneg hx.1 hy.1, Int.mul_le_mul hx.2 hy.2 hy.1 (by omega)⟩
theorem impl_most (p : Pl) (hp : polV p = true) (base : Int) (hb : 0 ≤ base ∧ base ≤ 201000) (w : World) :
    Calls Try.prog 65 #[.agg #[.int .i64 p.kd, .int .i64 p.va, .int .i64 p.pe], .int .i64 base] w fun e w' => e = .returned (.int .i64 (upB p base)) ∧ Below w.heap.size w w' := by
  obtain ⟨hkd, hva0, hva1, -, -⟩ := pol_bd hp
  have HB := Lib.hid (box_below w #[.int .i64 p.kd, .int .i64 p.va, .int .i64 p.pe] 106)
  obtain ⟨z0, z1⟩ := hb
  have hml := mul_bd2 (x := base) (y := p.va) (a := 201000) (b := 1000) ⟨z0, z1⟩ ⟨by omega, by omega⟩
  have hcl := fun w => impl_ceil (base * p.va) 100 w ⟨by omega, by omega⟩
  obtain ⟨cv, hcv⟩ : ∃ cv, clD (base * p.va) 100 = cv := ⟨_, rfl⟩
  have hcvb : 0 ≤ cv ∧ cv ≤ 10000000 := by rw [← hcv]; unfold clD; rw [if_neg (by omega)]; omega
  simp only [hcv] at hcl
  have HCL := Lib.hid hcl
  obtain ⟨u, hu⟩ : ∃ u, upB p base = u := ⟨_, rfl⟩
  have hx : ((p.kd == 1) = false ∧ ((1000 < base + p.va ∧ u = 1000) ∨ (base + p.va ≤ 1000 ∧ u = base + p.va))) ∨ ((p.kd == 1) = true ∧ ((1000 < base + cv ∧ u = 1000) ∨ (base + cv ≤ 1000 ∧ u = base + cv))) := by
    rw [← hu]; unfold upB
    rcases hkd with h | h
    · rw [if_neg (by omega)]; exact .inl ⟨by rw [h]; rfl, by omega⟩
    · rw [if_pos h, hcv]; exact .inr ⟨by rw [h]; rfl, by omega⟩
  rw [hu]
  clear hcl hcv hu hkd hp
  rcases hx with ⟨k1, ⟨k2, rfl⟩ | ⟨k2, rfl⟩⟩ | ⟨k1, ⟨k2, rfl⟩ | ⟨k2, rfl⟩⟩
  all_goals
    go_enter Try.func65, Try.ntmps65
    go_wp2_with (go_at_call 119; refine (HCL.out _).mono ?_; rintro e w' ⟨rfl, rfl⟩)
    go_ret
    exact ⟨ret1I (by first | rfl | omega), HB.out⟩
theorem impl_least (p : Pl) (hp : polV p = true) (base : Int) (hb : 0 ≤ base ∧ base ≤ 201000) (w : World) :
    Calls Try.prog 67 #[.agg #[.int .i64 p.kd, .int .i64 p.va, .int .i64 p.pe], .int .i64 base] w fun e w' => e = .returned (.int .i64 (dnB p base)) ∧ Below w.heap.size w w' := by
  obtain ⟨hkd, hva0, hva1, -, -⟩ := pol_bd hp
  have HB := Lib.hid (box_below w #[.int .i64 p.kd, .int .i64 p.va, .int .i64 p.pe] 106)
  obtain ⟨z0, z1⟩ := hb
  unfold dnB
  obtain ⟨bc, hbc⟩ : ∃ bc, min base 1000 = bc := ⟨_, rfl⟩
  obtain ⟨lf, hlf⟩ : ∃ lf, max (100 - p.va) 0 = lf := ⟨_, rfl⟩
  simp only [hbc, hlf]
  have hbcb : 0 ≤ bc ∧ bc ≤ 1000 := by omega
  have hlfb : 0 ≤ lf ∧ lf ≤ 100 := by omega
  have hml := mul_bd2 hbcb hlfb
  have hcl := fun w => impl_floor (bc * lf) 100 w ⟨by omega, by omega⟩
  have HCL0 : Hid (∀ w, Calls Try.prog 120 #[.int .i64 0, .int .i64 100] w fun e w' => e = .returned (.int .i64 0) ∧ w = w') := fun w => (impl_floor 0 100 w ⟨by omega, by omega⟩)
  obtain ⟨cv, hcv⟩ : ∃ cv, flD (bc * lf) 100 = cv := ⟨_, rfl⟩
  simp only [hcv] at hcl
  have HCL := Lib.hid hcl
  obtain ⟨u, hu⟩ : ∃ u, (if p.kd = 1 then flD (bc * lf) 100 else max (bc - p.va) 0) = u := ⟨_, rfl⟩
  have hx : ((p.kd == 1) = false ∧ bc - p.va < 0 ∧ u = 0) ∨ ((p.kd == 1) = false ∧ 0 ≤ bc - p.va ∧ u = bc - p.va) ∨ ((p.kd == 1) = true ∧ 100 - p.va < 0 ∧ u = 0) ∨ ((p.kd == 1) = true ∧ 0 ≤ 100 - p.va ∧ lf = 100 - p.va ∧ u = cv) := by
    rw [← hu]
    rcases hkd with h | h
    · rw [if_neg (by omega)]; by_cases g : bc - p.va < 0
      · exact .inl ⟨by rw [h]; rfl, g, by omega⟩
      · exact .inr (.inl ⟨by rw [h]; rfl, by omega, by omega⟩)
    · rw [if_pos h, hcv]; by_cases g : 100 - p.va < 0
      · exact .inr (.inr (.inl ⟨by rw [h]; rfl, g, by rw [← hcv, show lf = 0 by omega, Int.mul_zero]; rfl⟩))
      · exact .inr (.inr (.inr ⟨by rw [h]; rfl, by omega, by omega, rfl⟩))
  rw [hu]
  have hx1 : (1000 < base ∧ bc = 1000) ∨ (base ≤ 1000 ∧ bc = base) := by omega
  clear hcl hcv hu hkd hp hbc hlf
  rcases hx1 with ⟨j1, rfl⟩ | ⟨j1, rfl⟩
  all_goals
    rcases hx with ⟨k1, k2, rfl⟩ | ⟨k1, k2, rfl⟩ | ⟨k1, k2, rfl⟩ | ⟨k1, k2, rfl, rfl⟩
    · clear HCL HCL0 hml
      first
        | (exfalso; omega)
        | (go_enter Try.func67, Try.ntmps67
           go_wp2
           go_ret
           exact ⟨ret1I (by first | rfl | omega), HB.out⟩)
    · clear HCL HCL0 hml
      first
        | (exfalso; omega)
        | (go_enter Try.func67, Try.ntmps67
           go_wp2
           go_ret
           exact ⟨ret1I (by first | rfl | omega), HB.out⟩)
    · clear HCL hml
      go_enter Try.func67, Try.ntmps67
      go_wp2_with (go_at_call 120; refine (HCL0.out _).mono ?_; rintro e w' ⟨rfl, rfl⟩)
      go_ret
      exact ⟨ret1I (by first | rfl | omega), HB.out⟩
    · clear HCL0
      go_enter Try.func67, Try.ntmps67
      go_wp2_with (go_at_call 120; refine (HCL.out _).mono ?_; rintro e w' ⟨rfl, rfl⟩)
      go_ret
      exact ⟨ret1I (by first | rfl | omega), HB.out⟩
end Go.Proofs.Ytcjjdnfikccnmaa.BndI
