/- What the law on SortSamples asks of each call: the contracts in the forms that the law's walk meets. -/
import Derived.Test.YtahhemgmlmhbjaaMark
namespace Go.Proofs.Ytahhemgmlmhbjaa.SortL
open Go.RowKit
open Go.Proofs.Ytahhemgmlmhbjaa.C1
open Go.Proofs.Ytahhemgmlmhbjaa.C2
open Go.Proofs.Ytahhemgmlmhbjaa.Smps
open Go.Proofs.Ytahhemgmlmhbjaa.SortP
open Go.Proofs.Ytahhemgmlmhbjaa.SortI
open Go.Proofs.Ytahhemgmlmhbjaa.SortJ
open Go.Proofs.Ytahhemgmlmhbjaa.Mark
set_option linter.unusedVariables false

theorem mark_zero (a : Option Addr) (cap : Nat) (k : Int) (w : World) : Calls Try.prog 19 #[.slice a 0 cap, .int .i64 k] w fun e w' => e = .returned (.int .i64 k) ∧ w' = w := by
  go_enter Try.func19, Try.ntmps19
  go_wp2
  go_loop [1, 5] (fun v i => v = .int .i64 k ∧ i = .int .i64 0) (fun _ _ => 0)
  case atStart => exact ⟨rfl, rfl⟩
  case round =>
    obtain ⟨rfl, rfl⟩ := hrel
    go_wp2
    go_ret
    exact ⟨rfl, rfl⟩
theorem held_zero (a : Option Addr) (cap : Nat) (k : Int) (w : World) : Calls Try.prog 20 #[.slice a 0 cap, .int .i64 k] w fun e w' => e = .returned (.int .i64 k) ∧ w' = w := by
  go_enter Try.func20, Try.ntmps20
  go_wp2
  go_loop [1, 5] (fun v i => v = .int .i64 k ∧ i = .int .i64 0) (fun _ _ => 0)
  case atStart => exact ⟨rfl, rfl⟩
  case round =>
    obtain ⟨rfl, rfl⟩ := hrel
    go_wp2
    go_ret
    exact ⟨rfl, rfl⟩
theorem eq_n (ys : List Smp) (n : Nat) (hn : n = ys.length) (a a' : Option Addr) (cap cap' : Nat) (w : World) (h : Smps w a ys) (h' : Smps w a' ys) (hm : n ≤ 1048576) :
    Calls Try.prog 18 #[.slice a n cap, .slice a' n cap'] w fun e w' => e = .returned (.bool true) ∧ Below w.heap.size w w' := by
  subst hn
  exact eq_samples ys a a' cap cap' w h h' hm
theorem mark_n (g n cap : Nat) (ys : List Smp) (hn : n = ys.length) (hm : n ≤ 1048576) (w : World) (h : CellsW w g (flat ys)) :
    Calls Try.prog 19 #[.slice (some ⟨g, 0, none⟩) n cap, .int .i64 1] w fun e w' => e = .returned (.int .i64 ((1 + 4 * n : Nat) : Int)) ∧ CellsW w' g (flat (marks 1 n)) ∧ Only g w w' := by
  subst hn
  exact mark_samples g 1 cap (by omega) ys (by omega) w h
theorem held_n (g n cap : Nat) (hm : n ≤ 1048576) (w : World) (h : CellsW w g (flat (marks 1 n))) :
    Calls Try.prog 20 #[.slice (some ⟨g, 0, none⟩) n cap, .int .i64 1] w fun e w' => e = .returned (.int .i64 ((1 + 4 * n : Nat) : Int)) ∧ Below w.heap.size w w' :=
  held_samples g 1 n cap (by omega) (by omega) w h
theorem own_cells {w : World} {B g n cap : Nat} {xs : List Smp} (h : OwnS w B (.slice (some ⟨g, 0, none⟩) n cap) xs) (hn : n = xs.length) : CellsW w g (flat xs) :=
  cells_rows h.new.2 (rows_own h hn)
theorem own_smps {w : World} {B g n cap : Nat} {xs : List Smp} (h : OwnS w B (.slice (some ⟨g, 0, none⟩) n cap) xs) : Smps w (some ⟨g, 0, none⟩) xs := by
  obtain ⟨a, c, hv, hs⟩ := h.smps
  cases hv
  exact hs
theorem smps_only {w w' : World} {b c : Nat} {xs : List Smp} (h : Smps w (some ⟨b, 0, none⟩) xs) (ho : Only c w w') (hc : b ≠ c) : Smps w' (some ⟨b, 0, none⟩) xs := by
  rcases h with h | ⟨b', off, h1, h2, h3⟩
  · exact .inl h
  · cases h1
    refine .inr ⟨b, 0, rfl, Nat.lt_of_lt_of_le h2 ho.size, fun i hi => ?_⟩
    have hcell : ∀ j, w'.cell? ⟨b, j, none⟩ = w.cell? ⟨b, j, none⟩ := fun j => ho.cell h2 hc
    obtain ⟨c0, c1, c2, c3⟩ := h3 i hi
    exact ⟨by rw [hcell]; exact c0, by rw [hcell]; exact c1, by rw [hcell]; exact c2, by rw [hcell]; exact c3⟩
theorem cells_only {w w' : World} {g c : Nat} {vs : List Value} (h : CellsW w g vs) (ho : Only c w w') (hc : g ≠ c) : CellsW w' g vs :=
  ⟨Nat.lt_of_lt_of_le h.1 ho.size, fun j hj => ⟨(World.cell?_of_block (w := w) (a := ⟨g, j, none⟩) (ho.block g h.1 hc)).trans (h.2 j hj).1, (World.frozen?_of_block (w := w) (a := ⟨g, j, none⟩) (ho.block g h.1 hc)).trans (h.2 j hj).2⟩⟩

theorem spec_le (xs : List Smp) (hwf : ∀ s ∈ xs, s.wf) (a : Option Addr) (cap : Nat) (w : World) (h : Smps w a xs) (hm : xs.length ≤ 300) :
    Calls Try.prog 15 #[.slice a xs.length cap] w fun e w' => ∃ a' cap', e = .returned (.slice a' xs.length cap') ∧ Smps w' a' (sortS xs) ∧ (sortS xs = [] ∨ ∃ g, a' = some ⟨g, 0, none⟩ ∧ w.heap.size ≤ g ∧ g < w'.heap.size) ∧ Below w.heap.size w w' := by
  refine (spec_sort xs hwf a cap w h (by omega)).mono ?_
  rintro e w' ⟨⟨h1, _⟩ | ⟨_, v, rfl, ho⟩, hb⟩
  · omega
  · have ho' : w'.ownsRow w.heap.size 27 4 v (sortS xs).length (flat (sortS xs)) := ho
    obtain ⟨a', cap', rfl, hs⟩ := ho.smps
    rw [sortS_len] at *
    refine ⟨a', cap', rfl, hs, ?_, hb⟩
    rcases ho'.2 with ⟨hv, hz⟩ | ⟨g, c, cur, hv, hg, hh, _⟩
    · exact .inl (List.length_eq_zero_iff.1 (by rw [sortS_len]; exact hz))
    · cases hv
      exact .inr ⟨g, rfl, hg, (Array.getElem?_eq_some_iff.1 hh).1⟩
theorem spec_gt (xs : List Smp) (hwf : ∀ s ∈ xs, s.wf) (a : Option Addr) (cap : Nat) (w : World) (h : Smps w a xs) (hm : 300 < xs.length) (hm2 : xs.length ≤ 1048576) :
    Calls Try.prog 15 #[.slice a xs.length cap] w fun e w' => e = .returned (.slice none 0 0) ∧ Below w.heap.size w w' := by
  refine (spec_sort xs hwf a cap w h hm2).mono ?_
  rintro e w' ⟨⟨_, he⟩ | ⟨h1, _⟩, hb⟩
  · exact ⟨he, hb⟩
  · omega
theorem impl_le (xs : List Smp) (b off cap : Nat) (w : World) (h : Smps w (some ⟨b, off, none⟩) xs) (hm : xs.length ≤ 300) :
    Calls Try.prog 17 #[.slice (some ⟨b, off, none⟩) xs.length cap] w fun e w' => ∃ g cap', e = .returned (.slice (some ⟨g, 0, none⟩) xs.length cap') ∧ Smps w' (some ⟨g, 0, none⟩) (sortS xs) ∧ (xs = [] ∨ w.heap.size ≤ g ∧ CellsW w' g (flat (sortS xs))) ∧ Below w.heap.size w w' := by
  refine (impl_sort xs b off cap w h (by omega)).mono ?_
  rintro e w' ⟨⟨h1, _⟩ | ⟨_, g, cap', rfl, hr⟩, hb⟩
  · omega
  · refine ⟨g, cap', rfl, SortI.Rows.smps hr, ?_, hb⟩
    have hr' := hr
    rcases hr with hr | ⟨g', h1, h2, h3, _⟩
    · refine .inl (List.length_eq_zero_iff.1 ?_)
      rw [← sortS_len, hr]; rfl
    · cases h1
      exact .inr ⟨h2, cells_rows h3 hr'⟩
theorem impl_gt (xs : List Smp) (b off cap : Nat) (w : World) (h : Smps w (some ⟨b, off, none⟩) xs) (hm : 300 < xs.length) (hm2 : xs.length ≤ 1048576) :
    Calls Try.prog 17 #[.slice (some ⟨b, off, none⟩) xs.length cap] w fun e w' => e = .returned (.slice none 0 0) ∧ Below w.heap.size w w' := by
  refine (impl_sort xs b off cap w h hm2).mono ?_
  rintro e w' ⟨⟨_, he⟩ | ⟨h1, _⟩, hb⟩
  · exact ⟨he, hb⟩
  · omega
end Go.Proofs.Ytahhemgmlmhbjaa.SortL
