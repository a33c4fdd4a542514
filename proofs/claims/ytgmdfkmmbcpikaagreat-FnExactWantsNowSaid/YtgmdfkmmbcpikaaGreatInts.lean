/- Slices of integers that a call reads or copies: 'Ints w a xs' says that the slice at a holds the numbers xs; the contracts of laws.toIntS (a copy) and laws.eqIntS (a comparison). -/
import Derived.Test.YtgmdfkmmbcpikaaGreatC1
import Derived.Deep.OwnRows
import Derived.Deep.QuietTactic
import Derived.BigQuiet
namespace Go.Proofs.YtgmdfkmmbcpikaaGreat.Ints
open Go.RowKit Go.Deep
open Go.Proofs.YtgmdfkmmbcpikaaGreat.C1

theorem info3 : (Tryz.prog.info? 3).map (fun i => (i.zero, i.size, i.bytes)) = some (some (.int .i64 0), 1, 8) := by kernel_rfl

/-- The slice at a holds the numbers xs (in a block that the world has). -/
def Ints (w : World) (a : Option Addr) (xs : List Int) : Prop :=
  xs = [] ∨ ∃ b off, a = some ⟨b, off, none⟩ ∧ b < w.heap.size ∧ ∀ i, i < xs.length → w.cell? ⟨b, off + i, none⟩ = some (.int .i64 (xs.getD i 0))

theorem Ints.kept {w w' : World} {a : Option Addr} {xs : List Int} (h : Ints w a xs) (hb : Below w.heap.size w w') : Ints w' a xs := by
  rcases h with h | ⟨b, off, h1, h2, h3⟩
  · exact .inl h
  · refine .inr ⟨b, off, h1, Nat.lt_of_lt_of_le h2 hb.size, fun i hi => ?_⟩
    rw [hb.cell (p := ⟨b, off + i, none⟩) h2]
    exact h3 i hi

def fill (xs : List Int) (k : Nat) : List Value := (xs.take k ++ List.replicate (xs.length - k) 0).map (Value.int .i64)
theorem fill_len (xs : List Int) (k : Nat) (hk : k ≤ xs.length) : (fill xs k).length = xs.length := by
  unfold fill; simp; omega
theorem fill_get (xs : List Int) (k j : Nat) (hk : k ≤ xs.length) (hj : j < xs.length) : ∃ v, (fill xs k)[j]? = some v := by
  have := fill_len xs k hk
  exact ⟨(fill xs k)[j], by rw [List.getElem?_eq_getElem (by omega)]⟩
theorem fill_set (xs : List Int) (k : Nat) (hk : k < xs.length) : (fill xs k).set k (.int .i64 (xs.getD k 0)) = fill xs (k + 1) := by
  unfold fill
  apply List.ext_getElem?
  intro j
  rw [List.getElem?_set]
  by_cases hj : k = j
  · subst hj
    have h1 : (List.take k xs ++ List.replicate (xs.length - k) (0 : Int)).length = xs.length := by simp; omega
    rw [if_pos rfl, if_pos (by rw [List.length_map, h1]; exact hk)]
    rw [List.getElem?_map, List.getElem?_append_left (by simp; omega)]
    rw [List.getElem?_take, if_pos (by omega)]
    simp [List.getD_eq_getElem?_getD, List.getElem?_eq_getElem hk]
  · rw [if_neg hj, List.getElem?_map, List.getElem?_map]
    congr 1
    by_cases h : j < k
    · rw [List.getElem?_append_left (by simp; omega), List.getElem?_append_left (by simp; omega), List.getElem?_take, List.getElem?_take, if_pos h, if_pos (by omega)]
    · rw [List.getElem?_append_right (by simp; omega), List.getElem?_append_right (by simp; omega), List.getElem?_replicate, List.getElem?_replicate]
      have e1 : (List.take k xs).length = k := by simp; omega
      have e2 : (List.take (k + 1) xs).length = k + 1 := by simp; omega
      rw [e1, e2]
      have : (j - k < xs.length - k) ↔ (j - (k + 1) < xs.length - (k + 1)) := by omega
      simp [this]
theorem fill_all (xs : List Int) : fill xs xs.length = xs.map (Value.int .i64) := by unfold fill; simp
theorem fill_none (xs : List Int) : fill xs 0 = List.replicate xs.length (.int .i64 0) := by unfold fill; simp

theorem owned_ints {w : World} {base g n cap : Nat} {xs : List Int} (h : w.ownsRow base 3 1 (.slice (some ⟨g, 0, none⟩) n cap) n (xs.map (Value.int .i64))) (hn : n = xs.length) : Ints w (some ⟨g, 0, none⟩) xs := by
  subst hn
  by_cases hx : xs = []
  · exact .inl hx
  · have hpos : 0 < xs.length := List.length_pos_iff.2 hx
    obtain ⟨_, hlt⟩ := h.lt g rfl
    refine .inr ⟨g, 0, rfl, hlt, fun i hi => ?_⟩
    have := h.cellAt (0 + i) (by omega)
    rw [this]
    simp [List.getElem?_eq_getElem hi]

/-- The comparison of two slices that hold the same numbers. -/
theorem eq_ints (xs : List Int) (a a' : Option Addr) (cap cap' : Nat) (w : World) (h : Ints w a xs) (h' : Ints w a' xs) (hm : xs.length ≤ 35184372088832) :
    Calls Tryz.prog 13 #[.slice a xs.length cap, .slice a' xs.length cap'] w fun e w' => e = .returned (.bool true) ∧ Below w.heap.size w w' := by
  have hc : ∃ b off b' off', (0 < xs.length → a = some ⟨b, off, none⟩ ∧ a' = some ⟨b', off', none⟩) ∧
      (∀ i, i < xs.length → w.cell? ⟨b, off + i, none⟩ = some (.int .i64 (xs.getD i 0))) ∧ (∀ i, i < xs.length → w.cell? ⟨b', off' + i, none⟩ = some (.int .i64 (xs.getD i 0))) := by
    rcases h with h | ⟨b, off, h1, h2, h3⟩
    · subst h
      exact ⟨0, 0, 0, 0, by simp, by simp, by simp⟩
    · rcases h' with h' | ⟨b', off', g1, g2, g3⟩
      · subst h'
        exact ⟨0, 0, 0, 0, by simp, by simp, by simp⟩
      · exact ⟨b, off, b', off', fun _ => ⟨h1, g1⟩, h3, g3⟩
  obtain ⟨b, off, b', off', ha, hcell, hcell'⟩ := hc
  have Hc := Lib.hid hcell
  have Hc' := Lib.hid hcell'
  have Ha := Lib.hid ha
  clear hcell hcell' ha
  go_enter Tryz.func13, Tryz.ntmps13
  go_wp2
  go_loopw [5] (fun i wr => ∃ k : Nat, k ≤ xs.length ∧ i = .int .i64 k ∧ ∃ d, wr = w.drewN d)
    (fun i _ => xs.length - (intOf i).toNat)
  case atStart => exact ⟨0, Nat.zero_le _, rfl, 0, rfl⟩
  case round =>
    obtain ⟨k, hk, rfl, d, rfl⟩ := hrel
    by_cases hlt : k < xs.length
    · obtain ⟨rfl, rfl⟩ := Ha.out (by omega)
      have eg : xs.getD k 0 = xs[k] := by simp [hlt]
      have hx : w.cell? ⟨b, off + k, none⟩ = some (.int .i64 xs[k]) := by rw [← eg]; exact Hc.out k hlt
      have hx' : w.cell? ⟨b', off' + k, none⟩ = some (.int .i64 xs[k]) := by rw [← eg]; exact Hc'.out k hlt
      have hi : (k : Int) < (xs.length : Int) := by omega
      clear eg
      go_wp2
      go_quiet (fail)
      go_wp2
      go_roundw
      case rel => exact ⟨k + 1, by omega, by go_num, _, rfl⟩
      case measure => simp [intOf]; omega
    · go_wp2
      go_ret
      exact ⟨rfl, below_drewN (Below.refl _ _) _⟩

/-- What the frame of a law tells of a slice that came in ('IsRow'), in these words. -/
theorem of_row {w : World} {a : Option Addr} {len cap : Nat} {zs : List Int}
    (h : (a = none ∧ len = 0 ∧ cap = 0 ∧ zs = []) ∨ ∃ x, a = some x ∧ len ≤ cap ∧ cap ≤ maxLen ∧ zs.length = cap ∧ (∀ i, i < zs.length → w.cell? (x.add i) = some (.int .i64 (zs.getD i 0))) ∧ ∀ n ∈ zs, (Lit.int .i64 n).wf = true) :
    ∃ xs : List Int, xs.length = len ∧ Ints w a xs ∧ xs.length ≤ maxLen := by
  rcases h with ⟨rfl, rfl, rfl, rfl⟩ | ⟨x, rfl, h1, h2, h3, h4, _⟩
  · exact ⟨[], rfl, .inl rfl, by simp⟩
  · refine ⟨zs.take len, by simp; omega, ?_, by simp; omega⟩
    by_cases hp : 0 < zs.length
    · obtain ⟨b, off, rfl, hc⟩ := ints_at h4 hp
      refine .inr ⟨b, off, rfl, World.block_lt_of_cell? _ _ (hc 0 hp), fun i hi => ?_⟩
      have hi2 : i < len ∧ i < zs.length := by simp at hi; omega
      rw [hc i hi2.2]
      simp [List.getD_eq_getElem?_getD, hi2.1]
    · refine .inl ?_
      have : zs = [] := by cases zs with
        | nil => rfl
        | cons a l => simp at hp
      subst this
      simp
end Go.Proofs.YtgmdfkmmbcpikaaGreat.Ints
