/- A series by its key: slices.BinarySearchFunc over series, impl.placeOf, impl.find; the model's l03At, l03Points, SeriesOf. -/
import Derived.Test.YtgmdfkmmbcpikaaGreatDoorCnt
import Derived.Test.YtgmdfkmmbcpikaaGreatDoorRing
namespace Go.Proofs.YtgmdfkmmbcpikaaGreatDoor.Find
open Go.RowKit Go.Sort Go.BigFrame
open Go.Proofs.YtgmdfkmmbcpikaaGreatDoor.C1
open Go.Proofs.YtgmdfkmmbcpikaaGreatDoor.C2
open Go.Proofs.YtgmdfkmmbcpikaaGreatDoor.Smps
open Go.Proofs.YtgmdfkmmbcpikaaGreatDoor.Mem
open Go.Proofs.YtgmdfkmmbcpikaaGreatDoor.Ser
open Go.Proofs.YtgmdfkmmbcpikaaGreatDoor.Ser2
open Go.Proofs.YtgmdfkmmbcpikaaGreatDoor.Key
open Go.Proofs.YtgmdfkmmbcpikaaGreatDoor.Sto
open Go.Proofs.YtgmdfkmmbcpikaaGreatDoor.StoL
open Go.Proofs.YtgmdfkmmbcpikaaGreatDoor.Cnt
open Go.Proofs.YtgmdfkmmbcpikaaGreatDoor.Ring
set_option linter.unusedVariables false

/-! ### Keys in order. -/
theorem key_trans {p m p2 m2 p3 m3 : ByteArray} (h1 : keyLt p m p2 m2) (h2 : keyLt p2 m2 p3 m3) : keyLt p m p3 m3 := by
  rcases h1 with h1 | ⟨e1, h1⟩
  · rcases h2 with h2 | ⟨e2, h2⟩
    · exact Or.inl (List.lt_trans h1 h2)
    · exact Or.inl (by rw [← e2]; exact h1)
  · rcases h2 with h2 | ⟨e2, h2⟩
    · exact Or.inl (by rw [e1]; exact h2)
    · exact Or.inr ⟨e1.trans e2, List.lt_trans h1 h2⟩
theorem key_irr (p m : ByteArray) : ¬ keyLt p m p m := by
  rintro (h | ⟨_, h⟩) <;> exact List.lt_irrefl _ h
theorem ahead_le {xs : List Ser} (h : Store xs) : ∀ (j i : Nat) (hj : j < xs.length) (hi : i < j), Ahead xs[i] xs[j]
  | 0, i, _, hi => absurd hi (by omega)
  | j + 1, i, hj, hi => by
    have h1 := h.order j hj
    by_cases e : i = j
    · subst e; exact h1
    · exact key_trans (ahead_le h j i (by omega) (by omega)) h1
/-- A place found by halves: all ahead of it are less than the key, none from it on. -/
structure Place (xs : List Ser) (p m : ByteArray) (i : Nat) : Prop where
  le : i ≤ xs.length
  less : ∀ (j : Nat) (h : j < xs.length), j < i → keyLt xs[j].pod xs[j].met p m
  more : ∀ (j : Nat) (h : j < xs.length), i ≤ j → ¬ keyLt xs[j].pod xs[j].met p m
def matches_ (p m : ByteArray) (s : Ser) : Bool := s.pod.data.toList == p.data.toList && s.met.data.toList == m.data.toList
theorem ba_ext {a b : ByteArray} (h : a.data.toList = b.data.toList) : a = b := by
  cases a; cases b; congr 1; exact Array.toList_inj.1 h
theorem matches_iff (p m : ByteArray) (s : Ser) : matches_ p m s = true ↔ s.pod = p ∧ s.met = m := by
  unfold matches_
  rw [Bool.and_eq_true, beq_iff_eq, beq_iff_eq]
  exact ⟨fun h => ⟨ba_ext h.1, ba_ext h.2⟩, fun h => by rw [h.1, h.2]; exact ⟨rfl, rfl⟩⟩
/-- The series with a key in a store. -/
def findV (xs : List Ser) (p m : ByteArray) : Option Ser := if storeV xs = true then xs.find? (matches_ p m) else none
theorem find_at {xs : List Ser} {p m : ByteArray} {k : Nat} (hk : k < xs.length) (h : matches_ p m xs[k] = true) (hn : ∀ (j : Nat) (hj : j < xs.length), j < k → matches_ p m xs[j] = false) : xs.find? (matches_ p m) = some xs[k] := by
  rw [List.find?_eq_some_iff_getElem]
  exact ⟨h, k, hk, rfl, fun j hj => by simp [hn j (by omega) hj]⟩
theorem find_no {xs : List Ser} {p m : ByteArray} (hn : ∀ (j : Nat) (hj : j < xs.length), matches_ p m xs[j] = false) : xs.find? (matches_ p m) = none := by
  rw [List.find?_eq_none]
  intro x hx
  obtain ⟨j, hj, rfl⟩ := List.mem_iff_getElem.1 hx
  rw [hn j hj]; exact Bool.false_ne_true
theorem place_yes {xs : List Ser} {p m : ByteArray} {i : Nat} (hp : Place xs p m i) (hi : i < xs.length) (h : kc xs[i].pod xs[i].met p m = 0) : xs.find? (matches_ p m) = some xs[i] := by
  obtain ⟨e1, e2⟩ := (kc_zero _ _ _ _).1 h
  refine find_at hi ((matches_iff _ _ _).2 ⟨e1, e2⟩) fun j hj hlt => ?_
  cases hm : matches_ p m xs[j]
  · rfl
  · obtain ⟨f1, f2⟩ := (matches_iff _ _ _).1 hm
    have := hp.less j hj hlt
    rw [f1, f2] at this
    exact absurd this (key_irr _ _)
theorem place_no {xs : List Ser} {p m : ByteArray} {i : Nat} (hs : Store xs) (hp : Place xs p m i) (h : ¬ ∃ hi : i < xs.length, kc xs[i].pod xs[i].met p m = 0) : xs.find? (matches_ p m) = none := by
  refine find_no fun j hj => ?_
  cases hm : matches_ p m xs[j]
  · rfl
  · obtain ⟨f1, f2⟩ := (matches_iff _ _ _).1 hm
    exfalso
    by_cases hji : j < i
    · have := hp.less j hj hji
      rw [f1, f2] at this
      exact key_irr _ _ this
    · have hi : i < xs.length := by omega
      by_cases e : j = i
      · subst e
        exact h ⟨hj, (kc_zero _ _ _ _).2 ⟨f1, f2⟩⟩
      · have h1 : Ahead xs[i] xs[j] := ahead_le hs j i hj (by omega)
        unfold Ahead at h1
        rw [f1, f2] at h1
        exact hp.more i hi (Nat.le_refl _) h1

/-! ### slices.BinarySearchFunc. -/
/-! ### impl.placeOf, impl.find. -/
/-- What find answers: the points of the series with the key, not copied. -/
def FindsP (ls : List Sv) (p m : ByteArray) (e : Ending) : Prop :=
  (findV (ls.map Sv.s) p m = none ∧ e = .returned (.tuple #[.slice none 0 0, .bool false])) ∨
  ∃ (i : Nat) (hi : i < ls.length), findV (ls.map Sv.s) p m = some ls[i].s ∧ storeV (ls.map Sv.s) = true ∧ e = .returned (.tuple #[.slice ls[i].a ls[i].s.pts.length ls[i].cap, .bool true])
/-! ### The model: l03At, l03Points, SeriesOf. -/
def AtP (ls : List Sv) (p m : ByteArray) (e : Ending) : Prop :=
  (∃ (i : Nat) (hi : i < ls.length), (ls.map Sv.s).find? (matches_ p m) = some ls[i].s ∧ e = .returned (.int .i64 i)) ∨ ((ls.map Sv.s).find? (matches_ p m) = none ∧ e = .returned (.int .i64 (-1)))
theorem atP_yes {ls : List Sv} {p m : ByteArray} (i : Nat) (hi : i < ls.length) (h : (ls.map Sv.s).find? (matches_ p m) = some ls[i].s) : AtP ls p m (.returned (.int .i64 i)) := .inl ⟨i, hi, h, rfl⟩
theorem atP_no {ls : List Sv} {p m : ByteArray} (h : (ls.map Sv.s).find? (matches_ p m) = none) : AtP ls p m (.returned (.int .i64 (-1))) := .inr ⟨h, rfl⟩
end Go.Proofs.YtgmdfkmmbcpikaaGreatDoor.Find
