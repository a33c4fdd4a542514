/- Chapter 5's law of combined wants: the arithmetic behind it. -/
import Derived.Test.YtimpajhgplkpmaaComb
namespace Go.Proofs.Ytimpajhgplkpmaa.Law5C
open Go.RowKit Go.Deep
open Go.Proofs.Ytimpajhgplkpmaa.C1 Go.Proofs.Ytimpajhgplkpmaa.Gl Go.Proofs.Ytimpajhgplkpmaa.Comb
set_option linter.unusedVariables false
theorem comb_law (c : Int) (xs : List Int) : combV c xs = -1 ∨ (0 ≤ combV c xs ∧ ∀ k (hk : k < xs.length), xs[k] ≤ combV c xs ∧ (xs[k] < 0 → c ≤ combV c xs)) := by
  by_cases h : inB c 0 1000 = true ∧ wsOk xs = true
  · obtain ⟨h1, h2⟩ := h
    right
    rw [comb_yes h1 h2]
    obtain ⟨c1, c2⟩ := in_iff.1 h1
    have hm := (mx_ge xs (-1)).2
    have hall := (ws_parts h2).2
    have hh : ∀ k (hk : k < xs.length), xs[k] < 0 → has xs (-1) = true := fun k hk hn => has_yes k hk (by have := hall k hk; omega)
    have hmx : ∀ k (hk : k < xs.length), xs[k] ≤ mxL xs := fun k hk => hm _ (List.getElem_mem hk)
    split
    · rename_i hc
      refine ⟨c1, fun k hk => ⟨?_, fun _ => Int.le_refl _⟩⟩
      have := hmx k hk
      omega
    · rename_i hc
      refine ⟨by omega, fun k hk => ⟨hmx k hk, fun hn => ?_⟩⟩
      have hb := hh k hk hn
      apply Decidable.byContradiction
      intro hcc
      exact hc (.inr ⟨hb, by omega⟩)
  · refine .inl (comb_no ?_)
    cases e1 : inB c 0 1000
    · exact .inl rfl
    · cases e2 : wsOk xs
      · exact .inr rfl
      · exact absurd ⟨e1, e2⟩ h
end Go.Proofs.Ytimpajhgplkpmaa.Law5C
