/- Plain mathematics of the passes of a stable sort by blocks; the order on samples. -/
import Derived.Test.YtahhemgmlmhbjaaSortM
namespace Go.Proofs.Ytahhemgmlmhbjaa.SortP
open Go.Sort
open Go.Proofs.Ytahhemgmlmhbjaa.C2
open Go.Proofs.Ytahhemgmlmhbjaa.Smps
open Go.Proofs.Ytahhemgmlmhbjaa.StM
open Go.Proofs.Ytahhemgmlmhbjaa.Cmp
open Go.Proofs.Ytahhemgmlmhbjaa.SortM
set_option linter.unusedVariables false

theorem mod_next {k x a : Nat} (hx : x % k = 0) (ha : a % k = 0) (h : x < a) : x + k ≤ a := by
  obtain ⟨u, rfl⟩ : ∃ u, x = k * u := ⟨x / k, by have := Nat.div_add_mod x k; omega⟩
  obtain ⟨v, rfl⟩ : ∃ v, a = k * v := ⟨a / k, by have := Nat.div_add_mod a k; omega⟩
  have huv : u < v := Nat.lt_of_mul_lt_mul_left h
  have : k * (u + 1) ≤ k * v := Nat.mul_le_mul_left k huv
  rw [Nat.mul_add, Nat.mul_one] at this
  exact this
theorem mod_add {k a : Nat} (ha : a % k = 0) : (a + k) % k = 0 := by rw [Nat.add_mod_right]; exact ha
theorem mod_half {k a : Nat} (ha : a % (2 * k) = 0) : a % k = 0 := by
  obtain ⟨u, rfl⟩ : ∃ u, a = 2 * k * u := ⟨a / (2 * k), by have := Nat.div_add_mod a (2 * k); omega⟩
  rw [Nat.mul_comm 2 k, Nat.mul_assoc]
  exact Nat.mul_mod_right k _

section
variable {lt T : Nat → Nat → Bool} {D : Nat}

theorem sorted_same {x y : Nat} {d d' : Array Nat} (h : SortedIn T x y d) (he : ∀ p, x ≤ p → p < y → d'[p]! = d[p]!) : SortedIn T x y d' := fun i j hi hij hj => by
  rw [he i hi (by omega), he j (by omega) hj]; exact h i j hi hij hj

/-- The insertion pass has come to a. -/
structure PartI (T : Nat → Nat → Bool) (D a : Nat) (d : Array Nat) : Prop where
  sz : d.size = D
  perm : PermIn 0 D (Array.range D) d
  org : Org 20 d
  fresh : ∀ p, a ≤ p → p < D → d[p]! = p
  done : ∀ x, x % 20 = 0 → x < a → SortedIn T x (min (x + 20) D) d
  amod : a % 20 = 0
/-- Every block of bs elements is sorted. -/
structure Full (T : Nat → Nat → Bool) (D bs : Nat) (d : Array Nat) : Prop where
  sz : d.size = D
  perm : PermIn 0 D (Array.range D) d
  org : Org bs d
  all : ∀ x, x % bs = 0 → SortedIn T x (min (x + bs) D) d
/-- The pass that merges blocks of bs elements has come to a. -/
structure Part (T : Nat → Nat → Bool) (D bs a : Nat) (d : Array Nat) : Prop where
  sz : d.size = D
  perm : PermIn 0 D (Array.range D) d
  orgL : Org (2 * bs) d
  org : ∀ p, a ≤ p → p < D → d[p]! / bs = p / bs
  done : ∀ x, x % (2 * bs) = 0 → x < a → SortedIn T x (min (x + 2 * bs) D) d
  rest : ∀ x, a ≤ x → x % bs = 0 → SortedIn T x (min (x + bs) D) d
  amod : a % (2 * bs) = 0

theorem range_at {D p : Nat} (h : p < D) : (Array.range D)[p]! = p := by
  rw [getElem!_pos (Array.range D) p (by simpa using h)]; simp
theorem partI_start : PartI T D 0 (Array.range D) :=
  ⟨by simp, permIn_refl _ _ _, fun p hp => by rw [range_at (by simpa using hp)], fun p _ hp => range_at hp, fun x _ h => by omega, by simp⟩
theorem partI_step {a : Nat} {d d' : Array Nat} (h : PartI T D a d) (hb : a + 20 ≤ D) (hP : PermIn a (a + 20) d d') (hS : SortedIn T a (a + 20) d') : PartI T D (a + 20) d' := by
  have hz := h.sz
  refine ⟨hP.1.trans h.sz, permIn_trans _ _ _ _ _ h.perm (permIn_mono _ _ _ _ _ _ (by omega) (by omega) (by omega) hP), org_perm h.org h.amod (by omega) (by omega) (by omega) hP, fun p h1 h2 => by rw [hP.2.1 p (Or.inr h1)]; exact h.fresh p (by omega) h2, fun x hx hxa => ?_, mod_add h.amod⟩
  by_cases hlt : x < a
  · have := mod_next hx h.amod hlt
    exact sorted_same (h.done x hx hlt) fun p h1 h2 => hP.2.1 p (Or.inl (by omega))
  · obtain rfl : x = a := by
      rcases Nat.lt_or_ge a x with g | g
      · have := mod_next h.amod hx g; omega
      · omega
    rw [Nat.min_eq_left hb]; exact hS
theorem partI_end {a : Nat} {d d' : Array Nat} (h : PartI T D a d) (haD : a ≤ D) (hb : D < a + 20) (hP : PermIn a D d d') (hS : SortedIn T a D d') : Full T D 20 d' := by
  have hz := h.sz
  refine ⟨hP.1.trans h.sz, permIn_trans _ _ _ _ _ h.perm (permIn_mono _ _ _ _ _ _ (by omega) (by omega) (by omega) hP), org_perm h.org h.amod (by omega) (by omega) (by omega) hP, fun x hx => ?_⟩
  by_cases hlt : x < a
  · have := mod_next hx h.amod hlt
    exact sorted_same (h.done x hx hlt) fun p h1 h2 => hP.2.1 p (Or.inl (by omega))
  · by_cases he : x = a
    · subst he
      rw [Nat.min_eq_right (by omega)]; exact hS
    · have := mod_next h.amod hx (by omega)
      intro i j h1 h2 h3
      omega
theorem part_start {bs : Nat} {d : Array Nat} (h : Full T D bs d) : Part T D bs 0 d :=
  ⟨h.sz, h.perm, org_double h.org, fun p _ hp => h.org p (by rw [h.sz]; exact hp), fun x _ hx => by omega, fun x _ hx => h.all x hx, by simp⟩
theorem part_ahd {bs a b : Nat} {d : Array Nat} (h : Part T D bs a d) (hb0 : 0 < bs) (hb : b ≤ D) (hT : ∀ i j, i < j → lt j i = T j i) : Ahd lt T a (a + bs) b d := by
  intro i j hi hi2 hj hj2
  have hm : (a + bs) % bs = 0 := mod_add (mod_half h.amod)
  refine hT _ _ ?_
  have e1 := h.org i hi (by omega)
  have e2 := h.org j (by omega) (by omega)
  have e3 : i / bs < j / bs := by
    have h1 : i / bs < (a + bs) / bs := Nat.div_lt_of_lt_mul (by have := Nat.div_add_mod (a + bs) bs; omega)
    have h2 : (a + bs) / bs ≤ j / bs := Nat.div_le_div_right hj
    omega
  rw [← e1, ← e2] at e3
  exact Nat.lt_of_not_le fun hle => by have := Nat.div_le_div_right (c := bs) hle; omega
theorem part_halves {bs a b : Nat} {d : Array Nat} (h : Part T D bs a d) (hb1 : b ≤ D) (hb2 : b ≤ a + 2 * bs) (hm : a + bs ≤ b) : SortedIn T a (a + bs) d ∧ SortedIn T (a + bs) b d := by
  have h1 := h.rest a (Nat.le_refl _) (mod_half h.amod)
  have h2 := h.rest (a + bs) (by omega) (mod_add (mod_half h.amod))
  rw [Nat.min_eq_left (by omega)] at h1
  exact ⟨h1, fun i j g1 g2 g3 => h2 i j g1 g2 (by omega)⟩
theorem part_step {bs a : Nat} {d d' : Array Nat} (h : Part T D bs a d) (hb0 : 0 < bs) (hb : a + 2 * bs ≤ D) (hP : PermIn a (a + 2 * bs) d d') (hS : SortedIn T a (a + 2 * bs) d') : Part T D bs (a + 2 * bs) d' := by
  have hz := h.sz
  refine ⟨hP.1.trans h.sz, permIn_trans _ _ _ _ _ h.perm (permIn_mono _ _ _ _ _ _ (by omega) (by omega) (by omega) hP), org_perm h.orgL h.amod (by omega) (by omega) (by omega) hP, fun p h1 h2 => by rw [hP.2.1 p (Or.inr h1)]; exact h.org p (by omega) h2, fun x hx hxa => ?_,
    fun x hx hm => sorted_same (h.rest x (by omega) hm) fun p h1 h2 => hP.2.1 p (Or.inr (by omega)), mod_add h.amod⟩
  by_cases hlt : x < a
  · have := mod_next hx h.amod hlt
    exact sorted_same (h.done x hx hlt) fun p h1 h2 => hP.2.1 p (Or.inl (by omega))
  · obtain rfl : x = a := by
      rcases Nat.lt_or_ge a x with g | g
      · have := mod_next h.amod hx g; omega
      · omega
    rw [Nat.min_eq_left hb]; exact hS
theorem part_end {bs a : Nat} {d d' : Array Nat} (h : Part T D bs a d) (hb0 : 0 < bs) (haD : a ≤ D) (hb : D < a + 2 * bs) (hP : PermIn a D d d') (hS : SortedIn T a D d') : Full T D (2 * bs) d' := by
  have hz := h.sz
  refine ⟨hP.1.trans h.sz, permIn_trans _ _ _ _ _ h.perm (permIn_mono _ _ _ _ _ _ (by omega) (by omega) (by omega) hP), org_perm h.orgL h.amod (by omega) (by omega) (by omega) hP, fun x hx => ?_⟩
  by_cases hlt : x < a
  · have := mod_next hx h.amod hlt
    exact sorted_same (h.done x hx hlt) fun p h1 h2 => hP.2.1 p (Or.inl (by omega))
  · by_cases he : x = a
    · subst he
      rw [Nat.min_eq_right (by omega)]; exact hS
    · have := mod_next h.amod hx (by omega)
      intro i j h1 h2 h3
      omega
theorem part_last {bs a : Nat} {d : Array Nat} (h : Part T D bs a d) (hm : D ≤ a + bs) : SortedIn T a D d := by
  have h1 := h.rest a (Nat.le_refl _) (mod_half h.amod)
  rw [Nat.min_eq_right hm] at h1
  exact h1
theorem full_sorted {bs : Nat} {d : Array Nat} (h : Full T D bs d) (hb : D ≤ bs) : SortedIn T 0 D d := by
  have := h.all 0 (by simp)
  rw [Nat.zero_add, Nat.min_eq_right hb] at this
  exact this
end

/-! ### The order on samples. -/
theorem cmpB_lt (x y : List UInt8) : (cmpB x y < 0 ↔ x < y) ∧ (cmpB x y = 0 ↔ x = y) := by
  unfold cmpB
  by_cases h1 : x < y
  · rw [if_pos h1]
    exact ⟨⟨fun _ => h1, fun _ => by omega⟩, ⟨fun h => by omega, fun h => by subst h; exact absurd h1 (List.lt_irrefl _)⟩⟩
  · rw [if_neg h1]
    by_cases h2 : y < x
    · rw [if_pos h2]
      exact ⟨⟨fun h => by omega, fun h => absurd h h1⟩, ⟨fun h => by omega, fun h => by subst h; exact absurd h2 (List.lt_irrefl _)⟩⟩
    · rw [if_neg h2]
      exact ⟨⟨fun h => by omega, fun h => absurd h h1⟩, ⟨fun _ => List.le_antisymm (List.not_lt.1 h2) (List.not_lt.1 h1), fun _ => rfl⟩⟩
theorem cmpI_lt (x y : Int) : (cmpI x y < 0 ↔ x < y) ∧ (cmpI x y = 0 ↔ x = y) := by
  unfold cmpI
  by_cases h1 : x < y
  · rw [if_pos h1]; omega
  · rw [if_neg h1]
    by_cases h2 : y < x
    · rw [if_pos h2]; omega
    · rw [if_neg h2]; omega
/-- a comes before b: by pod, metric, tick. -/
def Bef (a b : Smp) : Prop := a.pod.data.toList < b.pod.data.toList ∨ a.pod.data.toList = b.pod.data.toList ∧ (a.met.data.toList < b.met.data.toList ∨ a.met.data.toList = b.met.data.toList ∧ a.tick < b.tick)
theorem cfS_lt (a b : Smp) : cfS a b < 0 ↔ Bef a b := by
  unfold cfS orV Bef
  obtain ⟨p1, p2⟩ := cmpB_lt a.pod.data.toList b.pod.data.toList
  obtain ⟨m1, m2⟩ := cmpB_lt a.met.data.toList b.met.data.toList
  obtain ⟨t1, _⟩ := cmpI_lt a.tick b.tick
  by_cases h1 : cmpB a.pod.data.toList b.pod.data.toList = 0
  · have e1 := p2.1 h1
    have n1 : ¬ a.pod.data.toList < b.pod.data.toList := by rw [e1]; exact List.lt_irrefl _
    rw [if_pos h1]
    by_cases h2 : cmpB a.met.data.toList b.met.data.toList = 0
    · have e2 := m2.1 h2
      have n2 : ¬ a.met.data.toList < b.met.data.toList := by rw [e2]; exact List.lt_irrefl _
      rw [if_pos h2, t1]
      exact ⟨fun h => .inr ⟨e1, .inr ⟨e2, h⟩⟩, fun h => by
        rcases h with h | ⟨_, h | ⟨_, h⟩⟩
        · exact absurd h n1
        · exact absurd h n2
        · exact h⟩
    · rw [if_neg h2, m1]
      exact ⟨fun h => .inr ⟨e1, .inl h⟩, fun h => by
        rcases h with h | ⟨_, h | ⟨h, _⟩⟩
        · exact absurd h n1
        · exact h
        · exact absurd (m2.2 h) h2⟩
  · rw [if_neg h1, p1]
    exact ⟨fun h => .inl h, fun h => by
      rcases h with h | ⟨h, _⟩
      · exact h
      · exact absurd (p2.2 h) h1⟩
theorem bef_irrefl (a : Smp) : ¬ Bef a a := by
  rintro (h | ⟨_, h | ⟨_, h⟩⟩)
  · exact List.lt_irrefl _ h
  · exact List.lt_irrefl _ h
  · omega
theorem bef_trans {a b c : Smp} (h1 : Bef a b) (h2 : Bef b c) : Bef a c := by
  rcases h1 with h1 | ⟨e1, h1⟩
  · rcases h2 with h2 | ⟨e2, _⟩
    · exact .inl (List.lt_trans h1 h2)
    · exact .inl (by rw [← e2]; exact h1)
  · rcases h2 with h2 | ⟨e2, h2⟩
    · exact .inl (by rw [e1]; exact h2)
    · refine .inr ⟨e1.trans e2, ?_⟩
      rcases h1 with h1 | ⟨f1, h1⟩
      · rcases h2 with h2 | ⟨f2, _⟩
        · exact .inl (List.lt_trans h1 h2)
        · exact .inl (by rw [← f2]; exact h1)
      · rcases h2 with h2 | ⟨f2, h2⟩
        · exact .inl (by rw [f1]; exact h2)
        · exact .inr ⟨f1.trans f2, by omega⟩
theorem bef_total {a b : Smp} (h : ¬ Bef a b) : Bef b a ∨ a.pod.data.toList = b.pod.data.toList ∧ a.met.data.toList = b.met.data.toList ∧ a.tick = b.tick := by
  unfold Bef at h ⊢
  by_cases h1 : b.pod.data.toList < a.pod.data.toList
  · exact .inl (.inl h1)
  · have e1 : a.pod.data.toList = b.pod.data.toList := List.le_antisymm (List.not_lt.1 h1) (List.not_lt.1 fun g => h (.inl g))
    by_cases h2 : b.met.data.toList < a.met.data.toList
    · exact .inl (.inr ⟨e1.symm, .inl h2⟩)
    · have e2 : a.met.data.toList = b.met.data.toList := List.le_antisymm (List.not_lt.1 h2) (List.not_lt.1 fun g => h (.inr ⟨e1, .inl g⟩))
      by_cases h3 : b.tick < a.tick
      · exact .inl (.inr ⟨e1.symm, .inr ⟨e2.symm, h3⟩⟩)
      · have h4 : ¬ a.tick < b.tick := fun g => h (.inr ⟨e1, .inr ⟨e2, g⟩⟩)
        exact .inr ⟨e1, e2, by omega⟩
theorem bef_same {a b c : Smp} (e : a.pod.data.toList = b.pod.data.toList ∧ a.met.data.toList = b.met.data.toList ∧ a.tick = b.tick) : (Bef a c ↔ Bef b c) ∧ (Bef c a ↔ Bef c b) := by
  unfold Bef
  rw [e.1, e.2.1, e.2.2]
  exact ⟨Iff.rfl, Iff.rfl⟩
theorem bef_ntrans {a b c : Smp} (h1 : ¬ Bef a b) (h2 : ¬ Bef b c) : ¬ Bef a c := fun h => by
  rcases bef_total h1 with g | e
  · exact h2 (bef_trans g h)
  · exact h2 ((bef_same e).1.1 h)

variable (xs : List Smp)
theorem ltX_iff (i j : Nat) : ltX xs i j = true ↔ Bef (xs.getD i default) (xs.getD j default) := by
  unfold ltX cfX
  rw [decide_eq_true_eq, cfS_lt]
theorem ltX_no (i j : Nat) : ltX xs i j = false ↔ ¬ Bef (xs.getD i default) (xs.getD j default) := by
  rw [← ltX_iff, Bool.not_eq_true]
theorem TX_iff (i j : Nat) : TX xs i j = true ↔ Bef (xs.getD i default) (xs.getD j default) ∨ ¬ Bef (xs.getD j default) (xs.getD i default) ∧ i < j := by
  unfold TX
  rw [Bool.or_eq_true, Bool.and_eq_true, ltX_iff, Bool.not_eq_true', ltX_no, decide_eq_true_eq]
theorem swoT : SWO (TX xs) where
  irrefl x := by
    rw [← Bool.not_eq_true, TX_iff]
    rintro (h | ⟨_, h⟩)
    · exact bef_irrefl _ h
    · omega
  trans x y z h1 h2 := by
    rw [TX_iff] at *
    rcases h1 with h1 | ⟨n1, h1⟩
    · rcases h2 with h2 | ⟨n2, h2⟩
      · exact .inl (bef_trans h1 h2)
      · refine .inl ?_
        rcases bef_total n2 with g | e
        · exact bef_trans h1 g
        · exact (bef_same ⟨e.1.symm, e.2.1.symm, e.2.2.symm⟩).2.1 h1
    · rcases h2 with h2 | ⟨n2, h2⟩
      · refine .inl ?_
        rcases bef_total n1 with g | e
        · exact bef_trans g h2
        · exact (bef_same e).1.1 h2
      · exact .inr ⟨bef_ntrans n2 n1, by omega⟩
  ntrans x y z h1 h2 := by
    rw [← Bool.not_eq_true, TX_iff] at *
    rintro (h | ⟨n, h⟩)
    · have a1 : ¬ Bef (xs.getD x default) (xs.getD y default) := fun g => h1 (.inl g)
      have a2 : ¬ Bef (xs.getD y default) (xs.getD z default) := fun g => h2 (.inl g)
      exact bef_ntrans a1 a2 h
    · have a1 : ¬ Bef (xs.getD x default) (xs.getD y default) := fun g => h1 (.inl g)
      have a2 : ¬ Bef (xs.getD y default) (xs.getD z default) := fun g => h2 (.inl g)
      have b1 : ¬ Bef (xs.getD y default) (xs.getD x default) := fun g => n (by
        rcases bef_total a2 with q | e
        · exact bef_trans q g
        · exact (bef_same e).1.1 g)
      have b2 : ¬ Bef (xs.getD z default) (xs.getD y default) := fun g => n (by
        rcases bef_total a1 with q | e
        · exact bef_trans g q
        · exact (bef_same e).2.2 g)
      have c1 : ¬ x < y := fun g => h1 (.inr ⟨b1, g⟩)
      have c2 : ¬ y < z := fun g => h2 (.inr ⟨b2, g⟩)
      omega
theorem TX_anti (x y : Nat) (h1 : TX xs x y = false) (h2 : TX xs y x = false) : x = y := by
  rw [← Bool.not_eq_true, TX_iff] at *
  have a1 : ¬ Bef (xs.getD x default) (xs.getD y default) := fun g => h1 (.inl g)
  have a2 : ¬ Bef (xs.getD y default) (xs.getD x default) := fun g => h2 (.inl g)
  have c1 : ¬ x < y := fun g => h1 (.inr ⟨a2, g⟩)
  have c2 : ¬ y < x := fun g => h2 (.inr ⟨a1, g⟩)
  omega
theorem agree (i j : Nat) (h : i < j) : ltX xs j i = TX xs j i := by
  unfold TX
  have : decide (j < i) = false := decide_eq_false (by omega)
  rw [this, Bool.and_false, Bool.or_false]

/-- The places of origin in sorted order, equals in the order of origin. -/
def ordX (n : Nat) : List Nat := (Array.range n).toList.mergeSort fun i j => !TX xs j i
/-- The samples sorted. -/
def sortS : List Smp := (ordX xs xs.length).map fun i => xs.getD i default
theorem sorted_ord {d : Array Nat} (hP : PermIn 0 xs.length (Array.range xs.length) d) (hS : SortedIn (TX xs) 0 xs.length d) : d.toList = ordX xs xs.length := by
  have := sorted_unique_holds (swoT xs) (TX_anti xs) (Array.range xs.length) d (by simpa using hP) (by simpa using hS)
  exact this
end Go.Proofs.Ytahhemgmlmhbjaa.SortP
