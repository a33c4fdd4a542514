/- InBand, RefillOf: both sides; readyLoad, refill, judge. -/
import Derived.Test.YtimpajhgplkpmabDoorRs
import Derived.BigQuiet
import Derived.Laws.ResultCell
namespace Go.Proofs.YtimpajhgplkpmabDoor.Bd
open Go.RowKit
open Go.Proofs.YtimpajhgplkpmabDoor.C1
open Go.Proofs.YtimpajhgplkpmabDoor.C2
open Go.Proofs.YtimpajhgplkpmabDoor.Smps
open Go.Proofs.YtimpajhgplkpmabDoor.Mem
open Go.Proofs.YtimpajhgplkpmabDoor.Pd
open Go.Proofs.YtimpajhgplkpmabDoor.Gl
open Go.Proofs.YtimpajhgplkpmabDoor.Rs
set_option linter.unusedVariables false

theorem cells_new (w : World) (A : Array Value) (t : TypeId) : CellsW (w.alloc (.cells A t)) w.heap.size A.toList :=
  ⟨by simp, fun j hj => by simp at hj; simp [hj]⟩
theorem cells4 {w : World} {g : Nat} {a b c d : Value} (h : CellsW w g [a, b, c, d]) : w.cell? ⟨g, 0, none⟩ = some a ∧ w.cell? ⟨g, 1, none⟩ = some b ∧ w.cell? ⟨g, 2, none⟩ = some c ∧ w.cell? ⟨g, 3, none⟩ = some d :=
  ⟨(h.2 0 (by simp)).1, (h.2 1 (by simp)).1, (h.2 2 (by simp)).1, (h.2 3 (by simp)).1⟩
theorem cells3 {w : World} {g : Nat} {a b c : Value} (h : CellsW w g [a, b, c]) : w.cell? ⟨g, 0, none⟩ = some a ∧ w.cell? ⟨g, 1, none⟩ = some b ∧ w.cell? ⟨g, 2, none⟩ = some c :=
  ⟨(h.2 0 (by simp)).1, (h.2 1 (by simp)).1, (h.2 2 (by simp)).1⟩
theorem cells2 {w : World} {g : Nat} {a b : Value} (h : CellsW w g [a, b]) : w.cell? ⟨g, 0, none⟩ = some a ∧ w.cell? ⟨g, 1, none⟩ = some b :=
  ⟨(h.2 0 (by simp)).1, (h.2 1 (by simp)).1⟩
theorem box2_cells (w : World) (A B : Array Value) (t t' : TypeId) : CellsW ((w.alloc (.cells A t)).alloc (.cells B t')) w.heap.size A.toList ∧ CellsW ((w.alloc (.cells A t)).alloc (.cells B t')) (w.heap.size + 1) B.toList := by
  refine ⟨(cells_new w A t).kept ((Below.refl _ _).alloc (Nat.le_refl _) _), ?_⟩
  have := cells_new (w.alloc (.cells A t)) B t'
  rw [show (w.alloc (.cells A t)).heap.size = w.heap.size + 1 by simp] at this
  exact this
/-! ### InBand. -/
theorem band_rs (s n : Int) (g : Gl) (h : bandV s n g = true) : ldOk s n = true ∧ okG g = true := by
  unfold bandV at h
  simp only [Bool.and_eq_true] at h
  exact h.1
theorem rs_ne2 {s n : Int} {g : Gl} (h1 : ldOk s n = true) (h2 : okG g = true) : (rsV s n g.tar != 2) = true := by
  obtain ⟨-, ⟨t1, t2⟩, -⟩ := (okG_iff g).1 h2
  rcases rs_good (t := g.tar) h1 (in_yes t1 t2) with ⟨-, b⟩ | ⟨-, b⟩ | ⟨-, b⟩ <;> rw [b] <;> rfl
/-! ### usable. -/
theorem impl_pc (n : Int) (w : World) :
    Calls Tryd.prog 35 #[.int .i64 n] w fun e w' => e = .returned (.bool (inB n 0 12)) ∧ w = w' := by
  rcases in_ways n 0 12 with ⟨h1, h2, e⟩ | ⟨h1 | h1, e⟩
  all_goals
    rw [e]
    clear e
    go_enter Tryd.func35, Tryd.ntmps35
    go_wp2
    go_ret
    exact ⟨ret1B (by first | rfl | (simp; try omega)), rfl⟩
theorem okU_imp (t : Ty) : okU t = (inB t.rdy 0 12 && inB t.unr 0 12 && inB t.mis 0 12 && inB t.sum 0 1000000000 && decide (0 < t.rdy)) := by
  unfold okU inB
  rw [Bool.eq_iff_iff]
  simp only [Bool.and_eq_true, decide_eq_true_eq]
  omega
theorem impl_usable (t : Ty) (w : World) :
    Calls Tryd.prog 19 #[tyV t] w fun e w' => e = .returned (.bool (okU t)) ∧ Below w.heap.size w w' := by
  rw [okU_imp]
  unfold tyV
  cases c1 : inB t.rdy 0 12
  · go_enter Tryd.func19, Tryd.ntmps19
    go_wp2_with (first | (go_at_call 35; refine (impl_pc _ _).mono ?_; rintro e w' ⟨rfl, rfl⟩))
    go_ret
    exact ⟨ret1B (by first | rfl | simp), box_below _ _ _⟩
  · cases c2 : inB t.unr 0 12
    · go_enter Tryd.func19, Tryd.ntmps19
      go_wp2_with (first | (go_at_call 35; refine (impl_pc _ _).mono ?_; rintro e w' ⟨rfl, rfl⟩))
      go_ret
      exact ⟨ret1B (by first | rfl | simp), box_below _ _ _⟩
    · cases c3 : inB t.mis 0 12
      · go_enter Tryd.func19, Tryd.ntmps19
        go_wp2_with (first | (go_at_call 35; refine (impl_pc _ _).mono ?_; rintro e w' ⟨rfl, rfl⟩))
        go_ret
        exact ⟨ret1B (by first | rfl | simp), box_below _ _ _⟩
      · cases c4 : inB t.sum 0 1000000000
        · go_enter Tryd.func19, Tryd.ntmps19
          go_wp2_with (first | (go_at_call 35; refine (impl_pc _ _).mono ?_; rintro e w' ⟨rfl, rfl⟩) | (go_at_call 36; refine (impl_isSize _ _).mono ?_; rintro e w' ⟨rfl, rfl⟩))
          go_ret
          exact ⟨ret1B (by first | rfl | simp), box_below _ _ _⟩
        · by_cases h0 : 0 < t.rdy
          all_goals
            go_enter Tryd.func19, Tryd.ntmps19
            go_wp2_with (first | (go_at_call 35; refine (impl_pc _ _).mono ?_; rintro e w' ⟨rfl, rfl⟩) | (go_at_call 36; refine (impl_isSize _ _).mono ?_; rintro e w' ⟨rfl, rfl⟩))
            go_ret
            exact ⟨ret1B (by first | rfl | (simp; try omega)), box_below _ _ _⟩
theorem spec_usable (t : Ty) (w : World) :
    Calls Tryd.prog 16 #[tyV t] w fun e w' => e = .returned (.bool (okU t)) ∧ Below w.heap.size w w' := by
  unfold okU tyV
  cases c1 : inB t.rdy 1 12
  · go_enter Tryd.func16, Tryd.ntmps16
    go_wp2_with (go_at_call 31; refine (C1.spec_in _ _ _ _).mono ?_; rintro e w' ⟨rfl, rfl⟩)
    go_ret
    exact ⟨ret1B (by first | rfl | simp), box_below _ _ _⟩
  · cases c2 : inB t.unr 0 12
    · go_enter Tryd.func16, Tryd.ntmps16
      go_wp2_with (go_at_call 31; refine (C1.spec_in _ _ _ _).mono ?_; rintro e w' ⟨rfl, rfl⟩)
      go_ret
      exact ⟨ret1B (by first | rfl | simp), box_below _ _ _⟩
    · cases c3 : inB t.mis 0 12
      all_goals
        go_enter Tryd.func16, Tryd.ntmps16
        go_wp2_with (first | (go_at_call 31; refine (C1.spec_in _ _ _ _).mono ?_; rintro e w' ⟨rfl, rfl⟩) | (go_at_call 32; refine (C1.spec_amt _ _).mono ?_; rintro e w' ⟨rfl, rfl⟩))
        go_ret
        exact ⟨ret1B (by first | rfl | simp), box_below _ _ _⟩
end Go.Proofs.YtimpajhgplkpmabDoor.Bd
