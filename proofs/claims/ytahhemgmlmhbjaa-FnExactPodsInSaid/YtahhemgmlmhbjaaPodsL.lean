/- PodsIn: both contracts in the forms that the law's walk meets. -/
import Derived.Test.YtahhemgmlmhbjaaPodsM
import Derived.Test.YtahhemgmlmhbjaaPodsT
namespace Go.Proofs.Ytahhemgmlmhbjaa.PodsL
open Go.RowKit Go.Sort
open Go.Proofs.Ytahhemgmlmhbjaa.C1
open Go.Proofs.Ytahhemgmlmhbjaa.C2
open Go.Proofs.Ytahhemgmlmhbjaa.Smps
open Go.Proofs.Ytahhemgmlmhbjaa.SortP
open Go.Proofs.Ytahhemgmlmhbjaa.SortI
open Go.Proofs.Ytahhemgmlmhbjaa.Pods
open Go.Proofs.Ytahhemgmlmhbjaa.PodsM
open Go.Proofs.Ytahhemgmlmhbjaa.PodsT
open Go.Proofs.Ytahhemgmlmhbjaa.Mark
set_option linter.unusedVariables false

/-- What PodsIn returns: nothing where the list is too long. -/
def podsR (xs : List Smp) : List (List UInt8) := if 300 < xs.length then [] else podsV xs
theorem podsR_gt {xs : List Smp} (h : 300 < xs.length) : podsR xs = [] := by unfold podsR; rw [if_pos h]
theorem podsR_le {xs : List Smp} (h : xs.length ≤ 300) : podsR xs = podsV xs := by unfold podsR; rw [if_neg (by omega)]
theorem podsR_len (xs : List Smp) : (podsR xs).length ≤ 300 := by
  by_cases h : 300 < xs.length
  · rw [podsR_gt h]; simp
  · rw [podsR_le (by omega), ← upT_all]
    have := upT_len (sortS xs) (sortS xs).length
    rw [sortS_len] at this
    rw [sortS_len]
    omega
theorem podsV_nil : podsV [] = [] := by
  have h := upT_all []
  have h2 : sortS [] = [] := List.length_eq_zero_iff.1 (by rw [sortS_len]; rfl)
  rw [h2] at h
  rw [← h]; rfl
theorem cells_vals {w : World} {g : Nat} {vs : List Value} (h : CellsW w g vs) : Vals w (some ⟨g, 0, none⟩) vs := .inr ⟨g, 0, rfl, h.1, fun i hi => by rw [Nat.zero_add]; exact (h.2 i hi).1⟩
theorem enc_len (ps : List (List UInt8)) : ps.length = (ps.map encT).length := by simp

theorem spec_p0 (xs : List Smp) (hp : podsR xs = []) (hwf : ∀ s ∈ xs, s.wf) (a : Option Addr) (cap : Nat) (w : World) (h : Smps w a xs) (hm : xs.length ≤ 1048576) :
    Calls Try.prog 21 #[.slice a xs.length cap] w fun e w' => ∃ a' cap', e = .returned (.slice a' 0 cap') ∧ Below w.heap.size w w' := by
  refine (spec_pods xs hwf a cap w h hm).mono ?_
  rintro e w' ⟨⟨_, a', cap', rfl⟩ | ⟨h1, v, rfl, ho⟩, hb⟩
  · exact ⟨_, _, rfl, hb⟩
  · rw [podsR_le h1] at hp
    rw [hp] at ho
    rcases ho.forms with ⟨rfl, _⟩ | ⟨g, c, rfl, _⟩
    · exact ⟨_, _, rfl, hb⟩
    · exact ⟨_, _, rfl, hb⟩
theorem spec_p1 (xs : List Smp) (ps : List (List UInt8)) (hp : podsR xs = ps) (hne : ps ≠ []) (hwf : ∀ s ∈ xs, s.wf) (a : Option Addr) (cap : Nat) (w : World) (h : Smps w a xs) (hm : xs.length ≤ 1048576) :
    Calls Try.prog 21 #[.slice a xs.length cap] w fun e w' => ∃ g cap', e = .returned (.slice (some ⟨g, 0, none⟩) ps.length cap') ∧ w.heap.size ≤ g ∧ CellsW w' g (ps.map encT) ∧ Below w.heap.size w w' := by
  refine (spec_pods xs hwf a cap w h hm).mono ?_
  rintro e w' ⟨⟨h1, a', cap', rfl⟩ | ⟨h1, v, rfl, ho⟩, hb⟩
  · exact absurd (hp.symm.trans (podsR_gt h1)) hne
  · rw [podsR_le h1] at hp
    subst hp
    rcases ho.forms with ⟨_, hn⟩ | ⟨g, c, rfl, hg, _, hc⟩
    · exact absurd hn hne
    · exact ⟨g, c, rfl, hg, hc, hb⟩
theorem impl_p0 (xs : List Smp) (hp : podsR xs = []) (a : Option Addr) (cap : Nat) (w : World) (h : Smps w a xs) (hm : xs.length ≤ 1048576) :
    Calls Try.prog 22 #[.slice a xs.length cap] w fun e w' => ∃ a' cap', e = .returned (.slice a' 0 cap') ∧ Below w.heap.size w w' := by
  refine (impl_pods xs a cap w h hm).mono ?_
  rintro e w' ⟨⟨_, rfl⟩ | ⟨h1, ⟨_, rfl⟩ | ⟨g, c, rfl, _⟩⟩, hb⟩
  · exact ⟨_, _, rfl, hb⟩
  · exact ⟨_, _, rfl, hb⟩
  · rw [podsR_le h1] at hp
    rw [hp]
    exact ⟨_, _, rfl, hb⟩
theorem impl_p1 (xs : List Smp) (ps : List (List UInt8)) (hp : podsR xs = ps) (hne : ps ≠ []) (a : Option Addr) (cap : Nat) (w : World) (h : Smps w a xs) (hm : xs.length ≤ 1048576) :
    Calls Try.prog 22 #[.slice a xs.length cap] w fun e w' => ∃ g cap', e = .returned (.slice (some ⟨g, 0, none⟩) ps.length cap') ∧ w.heap.size ≤ g ∧ CellsW w' g (ps.map encT) ∧ Below w.heap.size w w' := by
  refine (impl_pods xs a cap w h hm).mono ?_
  rintro e w' ⟨⟨h1, rfl⟩ | ⟨h1, ⟨h2, rfl⟩ | ⟨g, c, rfl, hg, hc⟩⟩, hb⟩
  · exact absurd (hp.symm.trans (podsR_gt h1)) hne
  · rw [podsR_le h1, h2, podsV_nil] at hp
    exact absurd hp.symm hne
  · rw [podsR_le h1] at hp
    subst hp
    exact ⟨g, c, rfl, hg, hc, hb⟩
end Go.Proofs.Ytahhemgmlmhbjaa.PodsL
