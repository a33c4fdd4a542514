/- The sums and means of chapter 1 over a list of integers that a call reads. -/
import Derived.Test.YtgmdfkmmbcpikaaGreatInts
namespace Go.Proofs.YtgmdfkmmbcpikaaGreat.C1L
open Go.RowKit Go.Deep
open Go.Proofs.YtgmdfkmmbcpikaaGreat.C1 Go.Proofs.YtgmdfkmmbcpikaaGreat.Ints

theorem int_eq {k : IntKind} {a b : Int} (h : a = b) : Value.int k a = .int k b := by rw [h]
theorem bool_eq {a b : Bool} (h : a = b) : Value.bool a = .bool b := by rw [h]

def sumStep (p : Int × Bool) (x : Int) : Int × Bool := (cutV (p.1 + x), p.2 || cutB (p.1 + x))
def sumL (xs : List Int) : Int × Bool := xs.foldl sumStep (0, false)
def allV (xs : List Int) : Bool := xs.all fun x => inB x (-1000000000) 1000000000
def addOk (xs : List Int) : Bool := decide (xs.length ≤ 300) && allV xs
def addV (xs : List Int) : Int := if addOk xs then (sumL xs).1 else 0
def addB (xs : List Int) : Bool := if addOk xs then (sumL xs).2 else true

theorem cutV_bd (x : Int) : -1000000000 ≤ cutV x ∧ cutV x ≤ 1000000000 := by
  rcases cut_ways x with ⟨h, e, _⟩ | ⟨h, e, _⟩ | ⟨h, h', e, _⟩ <;> rw [e] <;> omega
theorem take_snoc {α : Type} (xs : List α) (k : Nat) (h : k < xs.length) : xs.take (k + 1) = xs.take k ++ [xs[k]] := by
  rw [List.take_succ_eq_append_getElem h]
theorem sum_snoc (xs : List Int) (x : Int) : sumL (xs ++ [x]) = sumStep (sumL xs) x := by unfold sumL; rw [List.foldl_append]; rfl
theorem sum_bd (xs : List Int) : -1000000000 ≤ (sumL xs).1 ∧ (sumL xs).1 ≤ 1000000000 := by
  suffices h : ∀ (l : List Int) (p : Int × Bool), (-1000000000 ≤ p.1 ∧ p.1 ≤ 1000000000) → -1000000000 ≤ (l.foldl sumStep p).1 ∧ (l.foldl sumStep p).1 ≤ 1000000000 from h xs (0, false) (by simp)
  intro l
  induction l with
  | nil => intro p h; exact h
  | cons x l ih => intro p h; exact ih _ (cutV_bd _)
theorem add_good {xs : List Int} (h1 : xs.length ≤ 300) (h2 : allV xs = true) : addV xs = (sumL xs).1 ∧ addB xs = (sumL xs).2 := by
  have : addOk xs = true := by unfold addOk; simp [h1, h2]
  unfold addV addB
  rw [this]
  exact ⟨rfl, rfl⟩
theorem add_bad {xs : List Int} (h : ¬ xs.length ≤ 300 ∨ allV xs = false) : addV xs = 0 ∧ addB xs = true := by
  have : addOk xs = false := by unfold addOk; rcases h with h | h <;> simp [h]
  unfold addV addB
  rw [this]
  exact ⟨rfl, rfl⟩
theorem allV_get {xs : List Int} (h : allV xs = true) (k : Nat) (hk : k < xs.length) : inB xs[k] (-1000000000) 1000000000 = true := by
  unfold allV at h
  rw [List.all_eq_true] at h
  exact h _ (List.getElem_mem hk)
theorem allV_no {xs : List Int} (k : Nat) (hk : k < xs.length) (h : inB xs[k] (-1000000000) 1000000000 = false) : allV xs = false := by
  cases g : allV xs with
  | false => rfl
  | true => rw [allV_get g k hk] at h; cases h
theorem allV_yes {xs : List Int} (h : ∀ k (hk : k < xs.length), inB xs[k] (-1000000000) 1000000000 = true) : allV xs = true := by
  unfold allV
  rw [List.all_eq_true]
  intro x hx
  obtain ⟨k, hk, rfl⟩ := List.getElem_of_mem hx
  exact h k hk
theorem in_bd {x lo hi : Int} (h : inB x lo hi = true) : lo ≤ x ∧ x ≤ hi := by unfold inB at h; simpa using h

/-- What a loop over the list needs of it. -/
def Cells (w : World) (a : Option Addr) (xs : List Int) (b off : Nat) : Prop :=
  (0 < xs.length → a = some ⟨b, off, none⟩) ∧ ∀ i (h : i < xs.length), w.cell? ⟨b, off + i, none⟩ = some (.int .i64 xs[i])
theorem Ints.cells {w : World} {a : Option Addr} {xs : List Int} (h : Ints w a xs) : ∃ b off, Cells w a xs b off := by
  rcases h with h | ⟨b, off, h1, h2, h3⟩
  · subst h
    exact ⟨0, 0, by simp, by simp⟩
  · exact ⟨b, off, fun _ => h1, fun i hi => by have := h3 i hi; simpa [hi] using this⟩

theorem first_cell {w : World} {a : Option Addr} {xs : List Int} {b off : Nat} (h : Cells w a xs b off) (hp : 0 < xs.length) : w.cell? ⟨b, off, none⟩ = some (.int .i64 xs[0]) := h.2 0 hp

theorem all_values (xs : List Int) (a : Option Addr) (cap : Nat) (w : World) (h : Ints w a xs) (hm : xs.length ≤ 35184372088832) :
    Calls Tryz.prog 217 #[.slice a xs.length cap] w fun e w' => e = .returned (.bool (allV xs)) ∧ w = w' := by
  obtain ⟨b, off, hc⟩ := Ints.cells h
  go_enter Tryz.func217, Tryz.ntmps217
  go_wp2
  go_loop [7] (fun i => ∃ k : Nat, k ≤ xs.length ∧ i = .int .i64 k ∧ ∀ j (hj : j < xs.length), j < k → inB xs[j] (-1000000000) 1000000000 = true)
    (fun i => xs.length - (intOf i).toNat)
  case atStart => exact ⟨0, Nat.zero_le _, rfl, fun j hj h => by omega⟩
  case round =>
    obtain ⟨k, hk, rfl, hall⟩ := hrel
    have HA := Lib.hid hall
    clear hall
    by_cases hlt : k < xs.length
    · obtain rfl := hc.1 (by omega)
      have hx := hc.2 k hlt
      have HC := Lib.hid hc
      clear hc
      cases hB : inB xs[k] (-1000000000) 1000000000
      · have HN := Lib.hid (allV_no k hlt hB)
        go_wp2_with (go_at_call 235; refine (impl_isValue _ _).mono ?_; rintro e w' ⟨rfl, rfl⟩)
        go_ret
        exact ⟨ret1B HN.out.symm, rfl⟩
      · go_wp2_with (go_at_call 235; refine (impl_isValue _ _).mono ?_; rintro e w' ⟨rfl, rfl⟩)
        go_round
        case rel =>
          refine ⟨k + 1, by omega, by go_num, fun j hj h => ?_⟩
          by_cases e : j = k
          · subst e; exact hB
          · exact HA.out j hj (by omega)
        case measure => simp [intOf]; omega
    · have HN := Lib.hid (allV_yes fun j hj => HA.out j hj (by omega))
      go_wp2
      go_ret
      exact ⟨ret1B HN.out.symm, rfl⟩

set_option maxHeartbeats 400000 in
theorem sum_values (xs : List Int) (a : Option Addr) (cap : Nat) (w : World) (h : Ints w a xs) (hm : xs.length ≤ 35184372088832) (hv : allV xs = true) :
    Calls Tryz.prog 218 #[.slice a xs.length cap] w fun e w' => e = .returned (.tuple #[.int .i64 (sumL xs).1, .bool (sumL xs).2]) ∧ w = w' := by
  obtain ⟨b, off, hc⟩ := Ints.cells h
  go_enter Tryz.func218, Tryz.ntmps218
  go_wp2
  go_loop [4, 5, 12] (fun s c i => ∃ k : Nat, k ≤ xs.length ∧ i = .int .i64 k ∧ ∃ p : Int × Bool, p = sumL (xs.take k) ∧ s = .int .i64 p.1 ∧ c = .bool p.2)
    (fun _ _ i => xs.length - (intOf i).toNat)
  case atStart => exact ⟨0, Nat.zero_le _, rfl, _, rfl, rfl, rfl⟩
  case round =>
    obtain ⟨k, hk, rfl, p, hp, rfl, rfl⟩ := hrel
    have hbd := sum_bd (xs.take k)
    rw [← hp] at hbd
    by_cases hlt : k < xs.length
    · obtain rfl := hc.1 (by omega)
      have hx := hc.2 k hlt
      have hxb := in_bd (allV_get hv k hlt)
      have hs := sum_snoc (xs.take k) xs[k]
      rw [← take_snoc xs k hlt, ← hp] at hs
      have HS := Lib.hid hs
      have HC := Lib.hid hc
      have HV := Lib.hid hv
      clear hc hv hs hp
      obtain ⟨s, c⟩ := p
      cases c
      all_goals
        simp only at hbd
        go_wp2_with (go_at_call 236; refine (impl_cutm _ _).mono ?_; rintro e w' ⟨rfl, rfl⟩)
        go_round
        case rel => exact ⟨k + 1, by omega, by go_num, _, HS.out.symm, by simp [sumStep], by simp [sumStep]⟩
        case measure => simp [intOf]; omega
    · have : k = xs.length := by omega
      subst this
      rw [List.take_length] at hp
      subst hp
      go_wp2
      go_ret2
      exact ⟨rfl, rfl⟩

theorem impl_add (xs : List Int) (a : Option Addr) (cap : Nat) (w : World) (h : Ints w a xs) (hm : xs.length ≤ 35184372088832) :
    Calls Tryz.prog 199 #[.slice a xs.length cap] w fun e w' => e = .returned (.tuple #[.int .i64 (addV xs), .bool (addB xs)]) ∧ w = w' := by
  by_cases h1 : xs.length ≤ 300
  · cases h2 : allV xs
    · obtain ⟨e1, e2⟩ := add_bad (.inr h2)
      rw [e1, e2]
      go_enter Tryz.func199, Tryz.ntmps199
      go_wp2_with (go_at_call 217; refine (all_values xs _ _ _ h hm).mono ?_; rintro e w' ⟨rfl, rfl⟩)
      go_ret2
      exact ⟨rfl, rfl⟩
    · obtain ⟨e1, e2⟩ := add_good h1 h2
      rw [e1, e2]
      have H2 := Lib.hid h2
      go_enter Tryz.func199, Tryz.ntmps199
      go_wp2_with (first | (go_at_call 217; refine (all_values xs _ _ _ h hm).mono ?_; rintro e w' ⟨rfl, rfl⟩) | (go_at_call 218; refine (sum_values xs _ _ _ h hm H2.out).mono ?_; rintro e w' ⟨rfl, rfl⟩))
      go_ret2
      exact ⟨rfl, rfl⟩
  · obtain ⟨e1, e2⟩ := add_bad (xs := xs) (.inl h1)
    rw [e1, e2]
    go_enter Tryz.func199, Tryz.ntmps199
    go_wp2_with (go_at_call 217; refine (all_values xs _ _ _ h hm).mono ?_; rintro e w' ⟨rfl, rfl⟩)
    go_ret2
    exact ⟨rfl, rfl⟩

set_option maxHeartbeats 400000 in
theorem spec_add (xs : List Int) (a : Option Addr) (cap : Nat) (w : World) (h : Ints w a xs) (hm : xs.length ≤ 35184372088832) :
    Calls Tryz.prog 135 #[.slice a xs.length cap] w fun e w' => e = .returned (.tuple #[.int .i64 (addV xs), .bool (addB xs)]) ∧ w = w' := by
  obtain ⟨b, off, hc⟩ := Ints.cells h
  by_cases h1 : xs.length ≤ 300
  · go_enter Tryz.func135, Tryz.ntmps135
    go_wp2
    go_loop [6] (fun i => ∃ k : Nat, k ≤ xs.length ∧ i = .int .i64 k ∧ ∀ j (hj : j < xs.length), j < k → inB xs[j] (-1000000000) 1000000000 = true)
      (fun i => xs.length - (intOf i).toNat)
    case atStart => exact ⟨0, Nat.zero_le _, rfl, fun j hj h => by omega⟩
    case round =>
      obtain ⟨k, hk, rfl, hall⟩ := hrel
      have HA := Lib.hid hall
      clear hall
      by_cases hlt : k < xs.length
      · obtain rfl := hc.1 (by omega)
        have hx := hc.2 k hlt
        have HC := Lib.hid hc
        clear hc
        cases hB : inB xs[k] (-1000000000) 1000000000
        · obtain ⟨e1, e2⟩ := add_bad (xs := xs) (.inr (allV_no k hlt hB))
          have H1 := Lib.hid e1
          have H2 := Lib.hid e2
          clear e1 e2
          go_wp2_with (go_at_call 164; refine (spec_value _ _).mono ?_; rintro e w' ⟨rfl, rfl⟩)
          go_ret2
          exact ⟨retIB H1.out.symm H2.out.symm, rfl⟩
        · go_wp2_with (go_at_call 164; refine (spec_value _ _).mono ?_; rintro e w' ⟨rfl, rfl⟩)
          go_round
          case rel =>
            refine ⟨k + 1, by omega, by go_num, fun j hj h => ?_⟩
            by_cases e : j = k
            · subst e; exact hB
            · exact HA.out j hj (by omega)
          case measure => simp [intOf]; omega
      · have hv : allV xs = true := allV_yes fun j hj => HA.out j hj (by omega)
        obtain ⟨e1, e2⟩ := add_good h1 hv
        have H1 := Lib.hid e1
        have H2 := Lib.hid e2
        clear e1 e2 HA
        go_wp2
        go_loop [4, 5, 7] (fun s c i => ∃ k : Nat, k ≤ xs.length ∧ i = .int .i64 k ∧ ∃ p : Int × Bool, p = sumL (xs.take k) ∧ s = .int .i64 p.1 ∧ c = .bool p.2)
          (fun _ _ i => xs.length - (intOf i).toNat)
        case atStart => exact ⟨0, Nat.zero_le _, rfl, _, rfl, rfl, rfl⟩
        case round =>
          obtain ⟨k, hk, rfl, p, hp, rfl, rfl⟩ := hrel
          have hbd := sum_bd (xs.take k)
          rw [← hp] at hbd
          by_cases hlt : k < xs.length
          · obtain rfl := hc.1 (by omega)
            have hx := hc.2 k hlt
            have hxb := in_bd (allV_get hv k hlt)
            have hs := sum_snoc (xs.take k) xs[k]
            rw [← take_snoc xs k hlt, ← hp] at hs
            have HS := Lib.hid hs
            have HC := Lib.hid hc
            have HV := Lib.hid hv
            clear hc hv hs hp
            obtain ⟨s, c⟩ := p
            cases c
            all_goals
              simp only at hbd
              go_wp2_with (go_at_call 165; refine (spec_cut _ _).mono ?_; rintro e w' ⟨rfl, rfl⟩)
              go_round
              case rel => exact ⟨k + 1, by omega, by go_num, _, HS.out.symm, by simp [sumStep], by simp [sumStep]⟩
              case measure => simp [intOf]; omega
          · have : k = xs.length := by omega
            subst this
            rw [List.take_length] at hp
            subst hp
            go_wp2
            go_ret2
            exact ⟨retIB H1.out.symm H2.out.symm, rfl⟩
  · obtain ⟨e1, e2⟩ := add_bad (xs := xs) (.inl h1)
    rw [e1, e2]
    clear e1 e2
    go_enter Tryz.func135, Tryz.ntmps135
    go_wp2
    go_ret2
    exact ⟨rfl, rfl⟩

/-! ### MeanOf -/
def meanOk (xs : List Int) : Bool := decide (0 < xs.length) && !addB xs
def meanV (xs : List Int) : Int := if meanOk xs then flD (addV xs) xs.length else 0
theorem mean_ways (xs : List Int) : (0 < xs.length ∧ addB xs = false ∧ meanV xs = flD (addV xs) xs.length ∧ meanOk xs = true) ∨ (0 < xs.length ∧ addB xs = true ∧ meanV xs = 0 ∧ meanOk xs = false) ∨
    (xs.length = 0 ∧ meanV xs = 0 ∧ meanOk xs = false) := by
  unfold meanV meanOk
  by_cases h : 0 < xs.length
  · cases h2 : addB xs
    · exact .inl ⟨h, rfl, by simp [h], by simp [h]⟩
    · exact .inr (.inl ⟨h, rfl, by simp, by simp⟩)
  · exact .inr (.inr ⟨by omega, by simp [h], by simp [h]⟩)
theorem addV_bd (xs : List Int) : -1000000000 ≤ addV xs ∧ addV xs ≤ 1000000000 := by
  unfold addV
  split
  · exact sum_bd xs
  · omega

theorem spec_mean (xs : List Int) (a : Option Addr) (cap : Nat) (w : World) (h : Ints w a xs) (hm : xs.length ≤ 35184372088832) :
    Calls Tryz.prog 163 #[.slice a xs.length cap] w fun e w' => e = .returned (.tuple #[.int .i64 (meanV xs), .bool (meanOk xs)]) ∧ w = w' := by
  obtain ⟨hb1, hb2⟩ := addV_bd xs
  rcases mean_ways xs with ⟨h1, h2, e1, e2⟩ | ⟨h1, h2, e1, e2⟩ | ⟨h1, e1, e2⟩
  · have hne : ¬ xs = [] := by rintro rfl; simp at h1
    rw [e1, e2]
    clear e1 e2
    go_enter Tryz.func163, Tryz.ntmps163
    go_wp2_with (first | (go_at_call 135; refine (spec_add xs _ _ _ h hm).mono ?_; rintro e w' ⟨rfl, rfl⟩) | (go_at_call 196; refine (spec_floor _ _ _ ⟨by omega, by omega⟩).mono ?_; rintro e w' ⟨rfl, rfl⟩))
    go_ret2
    exact ⟨rfl, rfl⟩
  · have hne : ¬ xs = [] := by rintro rfl; simp at h1
    rw [e1, e2]
    clear e1 e2
    go_enter Tryz.func163, Tryz.ntmps163
    go_wp2_with (first | (go_at_call 135; refine (spec_add xs _ _ _ h hm).mono ?_; rintro e w' ⟨rfl, rfl⟩))
    go_ret2
    exact ⟨rfl, rfl⟩
  · rw [e1, e2]
    clear e1 e2
    obtain rfl : xs = [] := List.length_eq_zero_iff.1 h1
    clear h1
    cases hB : addB []
    all_goals
      go_enter Tryz.func163, Tryz.ntmps163
      go_wp2_with (first | (go_at_call 135; refine (spec_add [] _ _ _ h hm).mono ?_; rintro e w' ⟨rfl, rfl⟩))
      go_ret2
      exact ⟨rfl, rfl⟩

theorem impl_mean (xs : List Int) (a : Option Addr) (cap : Nat) (w : World) (h : Ints w a xs) (hm : xs.length ≤ 35184372088832) :
    Calls Tryz.prog 234 #[.slice a xs.length cap] w fun e w' => e = .returned (.tuple #[.int .i64 (meanV xs), .bool (meanOk xs)]) ∧ w = w' := by
  obtain ⟨hb1, hb2⟩ := addV_bd xs
  rcases mean_ways xs with ⟨h1, h2, e1, e2⟩ | ⟨h1, h2, e1, e2⟩ | ⟨h1, e1, e2⟩
  · have hne : ¬ xs = [] := by rintro rfl; simp at h1
    rw [e1, e2]
    clear e1 e2
    go_enter Tryz.func234, Tryz.ntmps234
    go_wp2_with (first | (go_at_call 199; refine (impl_add xs _ _ _ h hm).mono ?_; rintro e w' ⟨rfl, rfl⟩) | (go_at_call 246; refine (impl_floor _ _ _ ⟨by omega, by omega⟩).mono ?_; rintro e w' ⟨rfl, rfl⟩))
    go_ret2
    exact ⟨rfl, rfl⟩
  · have hne : ¬ xs = [] := by rintro rfl; simp at h1
    rw [e1, e2]
    clear e1 e2
    go_enter Tryz.func234, Tryz.ntmps234
    go_wp2_with (first | (go_at_call 199; refine (impl_add xs _ _ _ h hm).mono ?_; rintro e w' ⟨rfl, rfl⟩))
    go_ret2
    exact ⟨rfl, rfl⟩
  · rw [e1, e2]
    clear e1 e2
    obtain rfl : xs = [] := List.length_eq_zero_iff.1 h1
    clear h1
    cases hB : addB []
    all_goals
      go_enter Tryz.func234, Tryz.ntmps234
      go_wp2_with (first | (go_at_call 199; refine (impl_add [] _ _ _ h hm).mono ?_; rintro e w' ⟨rfl, rfl⟩))
      go_ret2
      exact ⟨rfl, rfl⟩
end Go.Proofs.YtgmdfkmmbcpikaaGreat.C1L
