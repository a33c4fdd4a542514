/- The sums and means of chapter 1 over a list of integers that a call reads. -/
import Derived.Test.YtgmdfkmmbcpikaaGreatDoorInts
namespace Go.Proofs.YtgmdfkmmbcpikaaGreatDoor.C1L
open Go.RowKit Go.Deep
open Go.Proofs.YtgmdfkmmbcpikaaGreatDoor.C1 Go.Proofs.YtgmdfkmmbcpikaaGreatDoor.Ints

theorem int_eq {k : IntKind} {a b : Int} (h : a = b) : Value.int k a = .int k b := by rw [h]
theorem bool_eq {a b : Bool} (h : a = b) : Value.bool a = .bool b := by rw [h]

def sumStep (p : Int × Bool) (x : Int) : Int × Bool := (cutV (p.1 + x), p.2 || cutB (p.1 + x))
def sumL (xs : List Int) : Int × Bool := xs.foldl sumStep (0, false)
def allV (xs : List Int) : Bool := xs.all fun x => inB x (-1000000000) 1000000000
def addOk (xs : List Int) : Bool := decide (xs.length ≤ 300) && allV xs
def addV (xs : List Int) : Int := if addOk xs then (sumL xs).1 else 0
def addB (xs : List Int) : Bool := if addOk xs then (sumL xs).2 else true

theorem cutV_bd (x : Int) : -1000000000 ≤ cutV x ∧ cutV x ≤ 1000000000 := by
  rcases cut_ways x with ⟨h, e, _⟩ | ⟨h, e, _⟩ | ⟨h, h', e, _⟩ <;> rw [e] <;> omega
theorem take_snoc {α : Type} (xs : List α) (k : Nat) (h : k < xs.length) : xs.take (k + 1) = xs.take k ++ [xs[k]] := by
  rw [List.take_succ_eq_append_getElem h]
theorem sum_snoc (xs : List Int) (x : Int) : sumL (xs ++ [x]) = sumStep (sumL xs) x := by unfold sumL; rw [List.foldl_append]; rfl
theorem sum_bd (xs : List Int) : -1000000000 ≤ (sumL xs).1 ∧ (sumL xs).1 ≤ 1000000000 := by
  suffices h : ∀ (l : List Int) (p : Int × Bool), (-1000000000 ≤ p.1 ∧ p.1 ≤ 1000000000) → -1000000000 ≤ (l.foldl sumStep p).1 ∧ (l.foldl sumStep p).1 ≤ 1000000000 from h xs (0, false) (by simp)
  intro l
  induction l with
  | nil => intro p h; exact h
  | cons x l ih => intro p h; exact ih _ (cutV_bd _)
theorem add_good {xs : List Int} (h1 : xs.length ≤ 300) (h2 : allV xs = true) : addV xs = (sumL xs).1 ∧ addB xs = (sumL xs).2 := by
  have : addOk xs = true := by unfold addOk; simp [h1, h2]
  unfold addV addB
  rw [this]
  exact ⟨rfl, rfl⟩
theorem add_bad {xs : List Int} (h : ¬ xs.length ≤ 300 ∨ allV xs = false) : addV xs = 0 ∧ addB xs = true := by
  have : addOk xs = false := by unfold addOk; rcases h with h | h <;> simp [h]
  unfold addV addB
  rw [this]
  exact ⟨rfl, rfl⟩
theorem allV_get {xs : List Int} (h : allV xs = true) (k : Nat) (hk : k < xs.length) : inB xs[k] (-1000000000) 1000000000 = true := by
  unfold allV at h
  rw [List.all_eq_true] at h
  exact h _ (List.getElem_mem hk)
theorem allV_no {xs : List Int} (k : Nat) (hk : k < xs.length) (h : inB xs[k] (-1000000000) 1000000000 = false) : allV xs = false := by
  cases g : allV xs with
  | false => rfl
  | true => rw [allV_get g k hk] at h; cases h
theorem allV_yes {xs : List Int} (h : ∀ k (hk : k < xs.length), inB xs[k] (-1000000000) 1000000000 = true) : allV xs = true := by
  unfold allV
  rw [List.all_eq_true]
  intro x hx
  obtain ⟨k, hk, rfl⟩ := List.getElem_of_mem hx
  exact h k hk
theorem in_bd {x lo hi : Int} (h : inB x lo hi = true) : lo ≤ x ∧ x ≤ hi := by unfold inB at h; simpa using h

/-- What a loop over the list needs of it. -/
def Cells (w : World) (a : Option Addr) (xs : List Int) (b off : Nat) : Prop :=
  (0 < xs.length → a = some ⟨b, off, none⟩) ∧ ∀ i (h : i < xs.length), w.cell? ⟨b, off + i, none⟩ = some (.int .i64 xs[i])
theorem Ints.cells {w : World} {a : Option Addr} {xs : List Int} (h : Ints w a xs) : ∃ b off, Cells w a xs b off := by
  rcases h with h | ⟨b, off, h1, h2, h3⟩
  · subst h
    exact ⟨0, 0, by simp, by simp⟩
  · exact ⟨b, off, fun _ => h1, fun i hi => by have := h3 i hi; simpa [hi] using this⟩

theorem first_cell {w : World} {a : Option Addr} {xs : List Int} {b off : Nat} (h : Cells w a xs b off) (hp : 0 < xs.length) : w.cell? ⟨b, off, none⟩ = some (.int .i64 xs[0]) := h.2 0 hp

/-! ### MeanOf -/
def meanOk (xs : List Int) : Bool := decide (0 < xs.length) && !addB xs
def meanV (xs : List Int) : Int := if meanOk xs then flD (addV xs) xs.length else 0
theorem mean_ways (xs : List Int) : (0 < xs.length ∧ addB xs = false ∧ meanV xs = flD (addV xs) xs.length ∧ meanOk xs = true) ∨ (0 < xs.length ∧ addB xs = true ∧ meanV xs = 0 ∧ meanOk xs = false) ∨
    (xs.length = 0 ∧ meanV xs = 0 ∧ meanOk xs = false) := by
  unfold meanV meanOk
  by_cases h : 0 < xs.length
  · cases h2 : addB xs
    · exact .inl ⟨h, rfl, by simp [h], by simp [h]⟩
    · exact .inr (.inl ⟨h, rfl, by simp, by simp⟩)
  · exact .inr (.inr ⟨by omega, by simp [h], by simp [h]⟩)
theorem addV_bd (xs : List Int) : -1000000000 ≤ addV xs ∧ addV xs ≤ 1000000000 := by
  unfold addV
  split
  · exact sum_bd xs
  · omega

end Go.Proofs.YtgmdfkmmbcpikaaGreatDoor.C1L
