/- InBand, RefillOf: both sides; readyLoad, refill, judge. -/
import Derived.Test.YtimpajhgplkpmaaRs
import Derived.BigQuiet
import Derived.Laws.ResultCell
namespace Go.Proofs.Ytimpajhgplkpmaa.Bd
open Go.RowKit
open Go.Proofs.Ytimpajhgplkpmaa.C1
open Go.Proofs.Ytimpajhgplkpmaa.C2
open Go.Proofs.Ytimpajhgplkpmaa.Smps
open Go.Proofs.Ytimpajhgplkpmaa.Mem
open Go.Proofs.Ytimpajhgplkpmaa.Pd
open Go.Proofs.Ytimpajhgplkpmaa.Gl
open Go.Proofs.Ytimpajhgplkpmaa.Rs
set_option linter.unusedVariables false

theorem cells_new (w : World) (A : Array Value) (t : TypeId) : CellsW (w.alloc (.cells A t)) w.heap.size A.toList :=
  ⟨by simp, fun j hj => by simp at hj; simp [hj]⟩
theorem cells4 {w : World} {g : Nat} {a b c d : Value} (h : CellsW w g [a, b, c, d]) : w.cell? ⟨g, 0, none⟩ = some a ∧ w.cell? ⟨g, 1, none⟩ = some b ∧ w.cell? ⟨g, 2, none⟩ = some c ∧ w.cell? ⟨g, 3, none⟩ = some d :=
  ⟨(h.2 0 (by simp)).1, (h.2 1 (by simp)).1, (h.2 2 (by simp)).1, (h.2 3 (by simp)).1⟩
theorem cells3 {w : World} {g : Nat} {a b c : Value} (h : CellsW w g [a, b, c]) : w.cell? ⟨g, 0, none⟩ = some a ∧ w.cell? ⟨g, 1, none⟩ = some b ∧ w.cell? ⟨g, 2, none⟩ = some c :=
  ⟨(h.2 0 (by simp)).1, (h.2 1 (by simp)).1, (h.2 2 (by simp)).1⟩
theorem cells2 {w : World} {g : Nat} {a b : Value} (h : CellsW w g [a, b]) : w.cell? ⟨g, 0, none⟩ = some a ∧ w.cell? ⟨g, 1, none⟩ = some b :=
  ⟨(h.2 0 (by simp)).1, (h.2 1 (by simp)).1⟩
theorem box2_cells (w : World) (A B : Array Value) (t t' : TypeId) : CellsW ((w.alloc (.cells A t)).alloc (.cells B t')) w.heap.size A.toList ∧ CellsW ((w.alloc (.cells A t)).alloc (.cells B t')) (w.heap.size + 1) B.toList := by
  refine ⟨(cells_new w A t).kept ((Below.refl _ _).alloc (Nat.le_refl _) _), ?_⟩
  have := cells_new (w.alloc (.cells A t)) B t'
  rw [show (w.alloc (.cells A t)).heap.size = w.heap.size + 1 by simp] at this
  exact this
/-! ### InBand. -/
theorem impl_band (s n : Int) (g : Gl) (hg : g.wf) (w : World) :
    Calls Try.prog 60 #[glV g, ldV s n] w fun e w' => e = .returned (.bool (bandV s n g)) ∧ Below w.heap.size w w' := by
  have hlo := fun W => impl_ldok s n W
  have hgo := fun W => impl_goalok g hg W
  have HA := Lib.hid (box2_cells w #[.string g.met, .int .i64 g.tar, .int .i64 g.tol] #[.int .i64 s, .int .i64 n] 27 100)
  have H0 := Lib.hid (box2_below w (.cells #[.string g.met, .int .i64 g.tar, .int .i64 g.tol] 27) (.cells #[.int .i64 s, .int .i64 n] 100))
  obtain ⟨z0, z1, z2⟩ := cells3 HA.out.1
  obtain ⟨y0, y1⟩ := cells2 HA.out.2
  obtain ⟨v, hv⟩ : ∃ v, bandV s n g = v := ⟨_, rfl⟩
  have HV := Lib.hid hv
  rw [hv]
  unfold glV at hgo ⊢
  unfold ldV at hlo ⊢
  obtain ⟨W0, hW0⟩ : ∃ W0, (w.alloc (.cells #[.string g.met, .int .i64 g.tar, .int .i64 g.tol] 27)).alloc (.cells #[.int .i64 s, .int .i64 n] 100) = W0 := ⟨_, rfl⟩
  rw [hW0] at HA H0 z0 z1 z2 y0 y1
  have HW := Lib.hid hW0
  clear hv hW0
  cases e1 : ldOk s n
  · rw [e1] at hlo
    obtain rfl : v = false := by rw [← HV.out]; unfold bandV; rw [e1]; rfl
    clear e1 HV
    go_enter Try.func60, Try.ntmps60
    go_wp2_with fail
    rw [HW.out]
    refine (hlo _).mono ?_
    rintro e w1 ⟨rfl, hb1⟩
    have HB := Lib.hid (H0.out.trans (hb1.mono H0.out.size))
    clear hb1
    go_wp2
    go_ret
    exact ⟨rfl, HB.out⟩
  · rw [e1] at hlo
    have E1 := Lib.hid e1
    clear e1
    go_enter Try.func60, Try.ntmps60
    go_wp2_with fail
    rw [HW.out]
    refine (hlo _).mono ?_
    rintro e w1 ⟨rfl, hb1⟩
    have HB1 := Lib.hid (H0.out.trans (hb1.mono H0.out.size))
    have HC1 := Lib.hid (HA.out.1.kept hb1)
    have HD1 := Lib.hid (HA.out.2.kept hb1)
    clear hb1 z0 z1 z2 y0 y1
    obtain ⟨z0, z1, z2⟩ := cells3 HC1.out
    cases e2 : okG g
    · rw [e2] at hgo
      obtain rfl : v = false := by rw [← HV.out]; unfold bandV; rw [E1.out, e2]; rfl
      clear e2 HV
      go_wp2_with fail
      refine (hgo _).mono ?_
      rintro e w2 ⟨rfl, hb2⟩
      have HB2 := Lib.hid (HB1.out.trans (hb2.mono HB1.out.size))
      clear hb2
      go_wp2
      go_ret
      exact ⟨rfl, HB2.out⟩
    · rw [e2] at hgo
      obtain ⟨-, ⟨t1, t2⟩, o1, o2⟩ := (okG_iff g).1 e2
      obtain ⟨⟨s1, s2⟩, n1, n2⟩ := (ldOk_iff s n).1 E1.out
      obtain ⟨p1, p2⟩ := prod_bd n1 n2 t1 t2
      obtain rfl : nbV s (n * g.tar) g.tol = v := by rw [← HV.out]; unfold bandV; rw [E1.out, e2]; simp
      clear e2 HV
      go_wp2_with fail
      refine (hgo _).mono ?_
      rintro e w2 ⟨rfl, hb2⟩
      have HB2 := Lib.hid (HB1.out.trans (hb2.mono HB1.out.size))
      have HC2 := Lib.hid (HC1.out.kept hb2)
      have HD2 := Lib.hid (HD1.out.kept hb2)
      clear hb2 z0 z1 z2
      obtain ⟨z0, z1, z2⟩ := cells3 HC2.out
      obtain ⟨y0, y1⟩ := cells2 HD2.out
      go_wp2_with (go_at_call 101; refine (impl_near _ _ _ _).mono ?_; rintro e w' ⟨rfl, rfl⟩)
      go_ret
      exact ⟨rfl, HB2.out⟩
theorem impl_inband (s n : Int) (g : Gl) (hg : g.wf) (w : World) :
    Calls Try.prog 17 #[.int .i64 s, .int .i64 n, glV g] w fun e w' => e = .returned (.bool (bandV s n g)) ∧ Below w.heap.size w w' := by
  have hd := fun W => impl_band s n g hg W
  unfold ldV glV at hd
  unfold glV
  go_enter Try.func17, Try.ntmps17
  go_wp2_with (go_at_call 60; refine (hd _).mono ?_; rintro e w1 ⟨rfl, hb1⟩; obtain ⟨r1, r2, q0, q1, q2⟩ := box_read3 hb1; clear hb1)
  go_ret
  exact ⟨rfl, r2⟩
theorem band_rs (s n : Int) (g : Gl) (h : bandV s n g = true) : ldOk s n = true ∧ okG g = true := by
  unfold bandV at h
  simp only [Bool.and_eq_true] at h
  exact h.1
theorem rs_ne2 {s n : Int} {g : Gl} (h1 : ldOk s n = true) (h2 : okG g = true) : (rsV s n g.tar != 2) = true := by
  obtain ⟨-, ⟨t1, t2⟩, -⟩ := (okG_iff g).1 h2
  rcases rs_good (t := g.tar) h1 (in_yes t1 t2) with ⟨-, b⟩ | ⟨-, b⟩ | ⟨-, b⟩ <;> rw [b] <;> rfl
theorem spec_inband (s n : Int) (g : Gl) (hg : g.wf) (w : World) :
    Calls Try.prog 46 #[.int .i64 s, .int .i64 n, glV g] w fun e w' => e = .returned (.bool (bandV s n g)) ∧ Below w.heap.size w w' := by
  have hgo := fun W => spec_goalok g hg W
  obtain ⟨v, hv⟩ : ∃ v, bandV s n g = v := ⟨_, rfl⟩
  have HV := Lib.hid hv
  rw [hv]
  unfold glV at hgo ⊢
  clear hv
  cases e1 : (rsV s n g.tar != 2)
  · obtain rfl : v = false := by
      rw [← HV.out]
      cases hb : bandV s n g
      · rfl
      · obtain ⟨h1, h2⟩ := band_rs s n g hb
        rw [rs_ne2 h1 h2] at e1
        cases e1
    clear HV
    go_enter Try.func46, Try.ntmps46
    go_wp2_with (go_at_call 45; refine (spec_sign _ _ _ _).mono ?_; rintro e w' ⟨rfl, rfl⟩)
    go_ret
    exact ⟨rfl, box_below _ _ _⟩
  · cases e2 : okG g
    · rw [e2] at hgo
      obtain rfl : v = false := by rw [← HV.out]; unfold bandV; rw [e2]; simp
      clear HV e2
      go_enter Try.func46, Try.ntmps46
      go_wp2_with (first | (go_at_call 45; refine (spec_sign _ _ _ _).mono ?_; rintro e w' ⟨rfl, rfl⟩) | (go_at_call 42; refine (hgo _).mono ?_; rintro e w1 ⟨rfl, hb1⟩; obtain ⟨r1, r2, q0, q1, q2⟩ := box_read3 hb1; clear hb1))
      go_ret
      exact ⟨rfl, r2⟩
    · rw [e2] at hgo
      obtain ⟨-, ⟨t1, t2⟩, o1, o2⟩ := (okG_iff g).1 e2
      have hl : ldOk s n = true := by
        cases h : ldOk s n
        · rw [rs_bad (t := g.tar) (.inl h)] at e1
          cases e1
        · rfl
      obtain ⟨⟨s1, s2⟩, n1, n2⟩ := (ldOk_iff s n).1 hl
      obtain ⟨p1, p2⟩ := prod_bd n1 n2 t1 t2
      obtain rfl : nbV s (n * g.tar) g.tol = v := by rw [← HV.out]; unfold bandV; rw [hl, e2]; simp
      clear HV e2 hl
      go_enter Try.func46, Try.ntmps46
      go_wp2_with (first | (go_at_call 45; refine (spec_sign _ _ _ _).mono ?_; rintro e w' ⟨rfl, rfl⟩) | (go_at_call 42; refine (hgo _).mono ?_; rintro e w1 ⟨rfl, hb1⟩; obtain ⟨r1, r2, q0, q1, q2⟩ := box_read3 hb1; clear hb1) | (go_at_call 88; refine (spec_near _ _ _ _).mono ?_; rintro e w' ⟨rfl, rfl⟩))
      go_ret
      exact ⟨rfl, r2⟩
/-! ### usable. -/
theorem impl_pc (n : Int) (w : World) :
    Calls Try.prog 93 #[.int .i64 n] w fun e w' => e = .returned (.bool (inB n 0 12)) ∧ w = w' := by
  rcases in_ways n 0 12 with ⟨h1, h2, e⟩ | ⟨h1 | h1, e⟩
  all_goals
    rw [e]
    clear e
    go_enter Try.func93, Try.ntmps93
    go_wp2
    go_ret
    exact ⟨ret1B (by first | rfl | (simp; try omega)), rfl⟩
theorem okU_imp (t : Ty) : okU t = (inB t.rdy 0 12 && inB t.unr 0 12 && inB t.mis 0 12 && inB t.sum 0 1000000000 && decide (0 < t.rdy)) := by
  unfold okU inB
  rw [Bool.eq_iff_iff]
  simp only [Bool.and_eq_true, decide_eq_true_eq]
  omega
theorem impl_usable (t : Ty) (w : World) :
    Calls Try.prog 54 #[tyV t] w fun e w' => e = .returned (.bool (okU t)) ∧ Below w.heap.size w w' := by
  rw [okU_imp]
  unfold tyV
  cases c1 : inB t.rdy 0 12
  · go_enter Try.func54, Try.ntmps54
    go_wp2_with (first | (go_at_call 93; refine (impl_pc _ _).mono ?_; rintro e w' ⟨rfl, rfl⟩))
    go_ret
    exact ⟨ret1B (by first | rfl | simp), box_below _ _ _⟩
  · cases c2 : inB t.unr 0 12
    · go_enter Try.func54, Try.ntmps54
      go_wp2_with (first | (go_at_call 93; refine (impl_pc _ _).mono ?_; rintro e w' ⟨rfl, rfl⟩))
      go_ret
      exact ⟨ret1B (by first | rfl | simp), box_below _ _ _⟩
    · cases c3 : inB t.mis 0 12
      · go_enter Try.func54, Try.ntmps54
        go_wp2_with (first | (go_at_call 93; refine (impl_pc _ _).mono ?_; rintro e w' ⟨rfl, rfl⟩))
        go_ret
        exact ⟨ret1B (by first | rfl | simp), box_below _ _ _⟩
      · cases c4 : inB t.sum 0 1000000000
        · go_enter Try.func54, Try.ntmps54
          go_wp2_with (first | (go_at_call 93; refine (impl_pc _ _).mono ?_; rintro e w' ⟨rfl, rfl⟩) | (go_at_call 94; refine (impl_isSize _ _).mono ?_; rintro e w' ⟨rfl, rfl⟩))
          go_ret
          exact ⟨ret1B (by first | rfl | simp), box_below _ _ _⟩
        · by_cases h0 : 0 < t.rdy
          all_goals
            go_enter Try.func54, Try.ntmps54
            go_wp2_with (first | (go_at_call 93; refine (impl_pc _ _).mono ?_; rintro e w' ⟨rfl, rfl⟩) | (go_at_call 94; refine (impl_isSize _ _).mono ?_; rintro e w' ⟨rfl, rfl⟩))
            go_ret
            exact ⟨ret1B (by first | rfl | (simp; try omega)), box_below _ _ _⟩
theorem spec_usable (t : Ty) (w : World) :
    Calls Try.prog 57 #[tyV t] w fun e w' => e = .returned (.bool (okU t)) ∧ Below w.heap.size w w' := by
  unfold okU tyV
  cases c1 : inB t.rdy 1 12
  · go_enter Try.func57, Try.ntmps57
    go_wp2_with (go_at_call 66; refine (C1.spec_in _ _ _ _).mono ?_; rintro e w' ⟨rfl, rfl⟩)
    go_ret
    exact ⟨ret1B (by first | rfl | simp), box_below _ _ _⟩
  · cases c2 : inB t.unr 0 12
    · go_enter Try.func57, Try.ntmps57
      go_wp2_with (go_at_call 66; refine (C1.spec_in _ _ _ _).mono ?_; rintro e w' ⟨rfl, rfl⟩)
      go_ret
      exact ⟨ret1B (by first | rfl | simp), box_below _ _ _⟩
    · cases c3 : inB t.mis 0 12
      all_goals
        go_enter Try.func57, Try.ntmps57
        go_wp2_with (first | (go_at_call 66; refine (C1.spec_in _ _ _ _).mono ?_; rintro e w' ⟨rfl, rfl⟩) | (go_at_call 87; refine (C1.spec_amt _ _).mono ?_; rintro e w' ⟨rfl, rfl⟩))
        go_ret
        exact ⟨ret1B (by first | rfl | simp), box_below _ _ _⟩
end Go.Proofs.Ytimpajhgplkpmaa.Bd
