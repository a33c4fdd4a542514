/- CondName: the model's and the program's. -/
import Derived.Test.YtgmdfkmmbcpikaaDoorC2
import Derived.Test.YtgmdfkmmbcpikaaDoorMt
namespace Go.Proofs.YtgmdfkmmbcpikaaDoor.Cnd
open Go.RowKit
open Go.Proofs.YtgmdfkmmbcpikaaDoor.C1
open Go.Proofs.YtgmdfkmmbcpikaaDoor.C2
open Go.Proofs.YtgmdfkmmbcpikaaDoor.Milli
open Go.Proofs.YtgmdfkmmbcpikaaDoor.Mt
set_option linter.unusedVariables false

/-- The names of the conditions. -/
def condL (k : Nat) : List UInt8 := if k = 0 then [110, 111, 110, 101] else if k = 1 then [111, 102, 102] else if k = 2 then [98, 108, 105, 110, 100] else if k = 3 then [115, 116, 101, 97, 100, 121] else if k = 4 then [109, 111, 118, 101, 100] else [102, 97, 117, 108, 116]
def condT (c : Int) : List UInt8 := if 0 ≤ c ∧ c ≤ 5 then condL c.toNat else []
/-- The program's table stands. -/
structure Conds (w : World) : Prop where
  lt : 0 < w.heap.size
  cell : ∀ k, k < 6 → w.cell? ⟨0, k, none⟩ = some (.string (mk (condL k)))
theorem Conds.kept {w w' : World} (h : Conds w) (hb : Below w.heap.size w w') : Conds w' :=
  ⟨Nat.lt_of_lt_of_le h.lt hb.size, fun k hk => (hb.cell (p := ⟨_, k, none⟩) h.lt).trans (h.cell k hk)⟩
theorem cond_some (k : Nat) (h : k < 6) : mk (condL k) = mk (condT (k : Int)) := by unfold condT; rw [if_pos (by omega)]; simp
theorem cond_none {c : Int} (h : ¬ (0 ≤ c ∧ c ≤ 5)) : mk [] = mk (condT c) := by unfold condT; rw [if_neg h]
theorem spec_cond (c : Int) (w : World) :
    Calls Tryd.prog 6 #[.int .i64 c] w fun e w' => e = .returned (.string (mk (condT c))) ∧ Below w.heap.size w w' := by
  have hb := box_below w #[.string { data := #[110, 111, 110, 101] }, .string { data := #[111, 102, 102] }, .string { data := #[98, 108, 105, 110, 100] }, .string { data := #[115, 116, 101, 97, 100, 121] }, .string { data := #[109, 111, 118, 101, 100] }, .string { data := #[102, 97, 117, 108, 116] }] 9
  have hin := fun w => C2.spec_in c 0 5 w
  by_cases h : 0 ≤ c ∧ c ≤ 5
  · obtain ⟨k, rfl⟩ : ∃ k : Nat, c = (k : Int) := ⟨c.toNat, by omega⟩
    have hk : k < 6 := by omega
    have hk2 : (k : Int) < 6 := by omega
    have hkw : IntKind.i64.wrap (k : Int) = k := by rw [IntKind.wrap_i64]; omega
    simp only [decide_eq_true h] at hin
    have HIN := Lib.hid hin
    have HL := Lib.hid (cond_some k hk)
    have hx : (w.alloc (.cells #[.string { data := #[110, 111, 110, 101] }, .string { data := #[111, 102, 102] }, .string { data := #[98, 108, 105, 110, 100] }, .string { data := #[115, 116, 101, 97, 100, 121] }, .string { data := #[109, 111, 118, 101, 100] }, .string { data := #[102, 97, 117, 108, 116] }] 9)).cell? ⟨w.heap.size, k, none⟩ = some (.string (mk (condL k))) := by
      have : k = 0 ∨ k = 1 ∨ k = 2 ∨ k = 3 ∨ k = 4 ∨ k = 5 := by omega
      rcases this with rfl | rfl | rfl | rfl | rfl | rfl <;> simp [condL] <;> rfl
    have HB := Lib.hid hb
    clear hin hb h
    go_enter Tryd.func6, Tryd.ntmps6
    go_wp2_with (go_at_call 16; refine (HIN.out _).mono ?_; rintro e w1 ⟨rfl, rfl⟩)
    go_ret
    exact ⟨ret1S HL.out, HB.out⟩
  · simp only [decide_eq_false h] at hin
    have HIN := Lib.hid hin
    have HL := Lib.hid (cond_none h)
    have HB := Lib.hid hb
    clear hin hb h
    go_enter Tryd.func6, Tryd.ntmps6
    go_wp2_with (go_at_call 16; refine (HIN.out _).mono ?_; rintro e w1 ⟨rfl, rfl⟩)
    go_ret
    exact ⟨ret1S HL.out, HB.out⟩
theorem impl_condok (c : Int) (w : World) : Calls Tryd.prog 17 #[.int .i64 c] w fun e w' => e = .returned (.bool (decide (0 ≤ c ∧ c ≤ 5))) ∧ w = w' := by
  by_cases h1 : 0 ≤ c
  · by_cases h2 : c ≤ 5
    all_goals
      go_enter Tryd.func17, Tryd.ntmps17
      go_wp2
      go_ret
      exact ⟨ret1B (by simp; omega), rfl⟩
  · go_enter Tryd.func17, Tryd.ntmps17
    go_wp2
    go_ret
    exact ⟨ret1B (by simp; omega), rfl⟩
theorem impl_cond (c : Int) (w : World) (hc : Conds w) :
    Calls Tryd.prog 7 #[.int .i64 c] w fun e w' => e = .returned (.string (mk (condT c))) ∧ Below w.heap.size w w' := by
  have hin := fun w => impl_condok c w
  by_cases h : 0 ≤ c ∧ c ≤ 5
  · obtain ⟨k, rfl⟩ : ∃ k : Nat, c = (k : Int) := ⟨c.toNat, by omega⟩
    have hk : k < 6 := by omega
    have hk2 : (k : Int) < 6 := by omega
    have hkw : IntKind.i64.wrap (k : Int) = k := by rw [IntKind.wrap_i64]; omega
    simp only [decide_eq_true h] at hin
    have HIN := Lib.hid hin
    have HL := Lib.hid (cond_some k hk)
    have hx := hc.cell k hk
    clear hin hc h
    go_enter Tryd.func7, Tryd.ntmps7
    go_wp2_with (go_at_call 17; refine (HIN.out _).mono ?_; rintro e w1 ⟨rfl, rfl⟩)
    go_ret
    exact ⟨ret1S HL.out, Below.refl _ _⟩
  · simp only [decide_eq_false h] at hin
    have HIN := Lib.hid hin
    have HL := Lib.hid (cond_none h)
    clear hin h
    go_enter Tryd.func7, Tryd.ntmps7
    go_wp2_with (go_at_call 17; refine (HIN.out _).mono ?_; rintro e w1 ⟨rfl, rfl⟩)
    go_ret
    exact ⟨ret1S HL.out, Below.refl _ _⟩
end Go.Proofs.YtgmdfkmmbcpikaaDoor.Cnd
