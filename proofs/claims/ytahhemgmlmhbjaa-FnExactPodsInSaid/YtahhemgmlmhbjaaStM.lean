/- Plain mathematics of a stable sort: blocks sorted by insertion, merged by rotations ('SymMerge'); no program in this text. Two comparisons: 'lt' is the program's, 'T' breaks its ties by the place of origin; where they agree the result is sorted by T. -/
import Derived.Sort.LotA
namespace Go.Proofs.Ytahhemgmlmhbjaa.StM
open Go.Sort
set_option linter.unusedVariables false
section
variable {α : Type} [Inhabited α]

/-- From where the place p of the rotated row is read: the blocks [s, m) and [m, e) change places. -/
def rof (s m e p : Nat) : Nat := if p < s then p else if p < s + (e - m) then p + (m - s) else if p < e then p - (e - m) else p
/-- .. of the row in which [a, a+n) and [b, b+n) are exchanged. -/
def swf (a b n p : Nat) : Nat := if a ≤ p ∧ p < a + n then p + (b - a) else if b ≤ p ∧ p < b + n then p - (b - a) else p
def mapIx (d : Array α) (f : Nat → Nat) : Array α := Array.ofFn (n := d.size) fun p => d[f p]!

theorem size_mapIx (d : Array α) (f : Nat → Nat) : (mapIx d f).size = d.size := by simp [mapIx]
theorem get_mapIx (d : Array α) (f : Nat → Nat) (p : Nat) (h : p < d.size) : (mapIx d f)[p]! = d[f p]! := by
  rw [getElem!_pos (mapIx d f) p (by rw [size_mapIx]; exact h)]
  simp [mapIx]
theorem ext_get {d d' : Array α} (h : d.size = d'.size) (hg : ∀ p, p < d.size → d[p]! = d'[p]!) : d = d' := by
  apply Array.ext h
  intro i h1 h2
  have := hg i h1
  rwa [getElem!_pos d i h1, getElem!_pos d' i h2] at this
theorem mapIx_id (d : Array α) (f : Nat → Nat) (h : ∀ p, p < d.size → f p = p) : mapIx d f = d :=
  ext_get (size_mapIx d f) fun p hp => by rw [size_mapIx] at hp; rw [get_mapIx d f p hp, h p hp]
theorem mapIx_comp (d : Array α) (f g h : Nat → Nat) (hg : ∀ p, p < d.size → g p < d.size) (he : ∀ p, p < d.size → f (g p) = h p) : mapIx (mapIx d f) g = mapIx d h :=
  ext_get (by rw [size_mapIx, size_mapIx, size_mapIx]) fun p hp => by
    rw [size_mapIx, size_mapIx] at hp
    rw [get_mapIx _ g p (by rw [size_mapIx]; exact hp), get_mapIx _ f _ (hg p hp), get_mapIx _ h p hp, he p hp]
theorem swp_mapIx (d : Array α) (f h : Nat → Nat) (i j : Nat) (hi : i < d.size) (hj : j < d.size) (hij : i ≠ j) (e1 : h i = f j) (e2 : h j = f i) (e3 : ∀ p, p < d.size → p ≠ i → p ≠ j → h p = f p) : swp (mapIx d f) i j = mapIx d h := by
  have s1 : (mapIx d f).size = d.size := size_mapIx d f
  refine ext_get (by rw [swp_size, s1, size_mapIx]) fun p hp => ?_
  rw [swp_size, s1] at hp
  rw [swp_get _ (by rw [s1]; exact hi) (by rw [s1]; exact hj), get_mapIx d h p hp]
  by_cases h1 : p = j
  · subst h1; rw [if_pos rfl, get_mapIx d f i hi, e2]
  · by_cases h2 : p = i
    · subst h2; rw [if_neg h1, if_pos rfl, get_mapIx d f j hj, e1]
    · rw [if_neg h1, if_neg h2, get_mapIx d f p hp, e3 p hp h2 h1]

/-! The exchange of two ranges. -/
theorem swf_zero (d : Array α) (a b : Nat) : mapIx d (swf a b 0) = d := mapIx_id d _ fun p _ => by unfold swf; (repeat' split) <;> omega
theorem swf_step (d : Array α) (a b k n : Nat) (hk : k < n) (h1 : a + n ≤ b) (h2 : b + n ≤ d.size) : swp (mapIx d (swf a b k)) (a + k) (b + k) = mapIx d (swf a b (k + 1)) := by
  refine swp_mapIx d _ _ _ _ (by omega) (by omega) (by omega) ?_ ?_ ?_
  · unfold swf; (repeat' split) <;> omega
  · unfold swf; (repeat' split) <;> omega
  · intro p _ _ _; unfold swf; (repeat' split) <;> omega
theorem swf_permIn (d : Array α) (lo hi a b n : Nat) (hlo : lo ≤ a) (h1 : a + n ≤ b) (h2 : b + n ≤ hi) (h3 : hi ≤ d.size) : PermIn lo hi d (mapIx d (swf a b n)) := by
  induction n with
  | zero => rw [swf_zero]; exact permIn_refl _ _ _
  | succ n ih =>
    rw [← swf_step d a b n (n + 1) (by omega) h1 (by omega)]
    exact permIn_trans _ _ _ _ _ (ih (by omega) (by omega)) (swp_permIn _ _ _ _ _ (by omega) (by omega) (by omega) (by omega) (by rw [size_mapIx]; exact h3))

/-! The rotation by exchanges. -/
theorem rot_big (d dk : Array α) (a m b i j : Nat) (hij : j < i) (hi : i ≤ m) (hj : m + j ≤ dk.size) (h : mapIx dk (rof (m - i) m (m + j)) = mapIx d (rof a m b)) :
    mapIx (mapIx dk (swf (m - i) m j)) (rof (m - (i - j)) m (m + j)) = mapIx d (rof a m b) := by
  rw [← h]
  refine mapIx_comp _ _ _ _ (fun p hp => ?_) (fun p hp => ?_)
  · unfold rof; (repeat' split) <;> omega
  · unfold rof swf; (repeat' split) <;> omega
theorem rot_small (d dk : Array α) (a m b i j : Nat) (hij : i < j) (hi : i ≤ m) (hj : m + j ≤ dk.size) (h : mapIx dk (rof (m - i) m (m + j)) = mapIx d (rof a m b)) :
    mapIx (mapIx dk (swf (m - i) (m + j - i) i)) (rof (m - i) m (m + (j - i))) = mapIx d (rof a m b) := by
  rw [← h]
  refine mapIx_comp _ _ _ _ (fun p hp => ?_) (fun p hp => ?_)
  · unfold rof; (repeat' split) <;> omega
  · unfold rof swf; (repeat' split) <;> omega
theorem rot_end (d dk : Array α) (a m b i : Nat) (hi : i ≤ m) (hj : m + i ≤ dk.size) (h : mapIx dk (rof (m - i) m (m + i)) = mapIx d (rof a m b)) :
    mapIx dk (swf (m - i) m i) = mapIx d (rof a m b) := by
  rw [← h]
  refine ext_get (by rw [size_mapIx, size_mapIx]) fun p hp => ?_
  rw [size_mapIx] at hp
  rw [get_mapIx _ _ _ hp, get_mapIx _ _ _ hp]
  congr 1
  unfold rof swf; (repeat' split) <;> omega

/-! One element on its way. -/
theorem up_zero (d : Array α) (a : Nat) : mapIx d (rof a (a + 1) (a + 1)) = d := mapIx_id d _ fun p _ => by unfold rof; (repeat' split) <;> omega
theorem up_step (d : Array α) (a k : Nat) (hk : a ≤ k) (h2 : k + 1 < d.size) : swp (mapIx d (rof a (a + 1) (k + 1))) k (k + 1) = mapIx d (rof a (a + 1) (k + 2)) := by
  refine swp_mapIx d _ _ _ _ (by omega) (by omega) (by omega) ?_ ?_ ?_
  · unfold rof; (repeat' split) <;> omega
  · unfold rof; (repeat' split) <;> omega
  · intro p _ _ _; unfold rof; (repeat' split) <;> omega
theorem up_permIn (d : Array α) (lo hi a k : Nat) (hlo : lo ≤ a) (hk : a ≤ k) (h1 : k + 1 ≤ hi) (h2 : hi ≤ d.size) : PermIn lo hi d (mapIx d (rof a (a + 1) (k + 1))) := by
  induction k with
  | zero => obtain rfl : a = 0 := by omega
            rw [up_zero]; exact permIn_refl _ _ _
  | succ k ih =>
    by_cases h : a = k + 1
    · subst h; rw [up_zero]; exact permIn_refl _ _ _
    · rw [← up_step d a k (by omega) (by omega)]
      exact permIn_trans _ _ _ _ _ (ih (by omega) (by omega)) (swp_permIn _ _ _ _ _ (by omega) (by omega) (by omega) (by omega) (by rw [size_mapIx]; exact h2))
theorem down_zero (d : Array α) (m : Nat) : mapIx d (rof m m (m + 1)) = d := mapIx_id d _ fun p _ => by unfold rof; (repeat' split) <;> omega
theorem down_step (d : Array α) (m k : Nat) (h0 : 0 < k) (hk : k ≤ m) (h2 : m < d.size) : swp (mapIx d (rof k m (m + 1))) k (k - 1) = mapIx d (rof (k - 1) m (m + 1)) := by
  refine swp_mapIx d _ _ _ _ (by omega) (by omega) (by omega) ?_ ?_ ?_
  · unfold rof; (repeat' split) <;> omega
  · unfold rof; (repeat' split) <;> omega
  · intro p _ _ _; unfold rof; (repeat' split) <;> omega
theorem down_permIn (d : Array α) (lo hi m : Nat) (h1 : m + 1 ≤ hi) (h2 : hi ≤ d.size) : ∀ j k, k + j = m → lo ≤ k → PermIn lo hi d (mapIx d (rof k m (m + 1)))
  | 0, k, hk, hlo => by
    obtain rfl : k = m := by omega
    rw [down_zero]; exact permIn_refl _ _ _
  | j + 1, k, hk, hlo => by
    have := down_step d m (k + 1) (by omega) (by omega) (by omega)
    rw [show k + 1 - 1 = k by omega] at this
    rw [← this]
    exact permIn_trans _ _ _ _ _ (down_permIn d lo hi m h1 h2 j (k + 1) (by omega) (by omega)) (swp_permIn _ _ _ _ _ (by omega) (by omega) (by omega) (by omega) (by rw [size_mapIx]; exact h2))

/-! The merge. -/
variable {lt T : α → α → Bool}

/-- Between the left part and the right part the two comparisons agree. -/
def Ahd (lt T : α → α → Bool) (a m b : Nat) (d : Array α) : Prop := ∀ i j, a ≤ i → i < m → m ≤ j → j < b → lt d[j]! d[i]! = T d[j]! d[i]!

theorem le_of (hT : SWO T) {a b : Nat} {d : Array α} (h : SortedIn T a b d) (i j : Nat) (hi : a ≤ i) (hij : i ≤ j) (hj : j < b) : T d[j]! d[i]! = false := by
  by_cases e : i = j
  · subst e; exact hT.irrefl _
  · exact h i j hi (by omega) hj
omit [Inhabited α] in
theorem lt_le (hT : SWO T) {x y z : α} (h1 : T x y = true) (h2 : T z y = false) : T x z = true := by
  cases h : T x z with
  | true => rfl
  | false => rw [hT.ntrans x z y h h2] at h1; cases h1
omit [Inhabited α] in
theorem le_lt (hT : SWO T) {x y z : α} (h1 : T y x = false) (h2 : T y z = true) : T x z = true := by
  cases h : T x z with
  | true => rfl
  | false => rw [hT.ntrans y x z h1 h] at h2; cases h2

theorem rof_a {a m e p : Nat} (h : p < a) : rof a m e p = p := by unfold rof; rw [if_pos h]
theorem rof_b {a m e p : Nat} (h1 : a ≤ p) (h2 : p < a + (e - m)) : rof a m e p = p + (m - a) := by unfold rof; rw [if_neg (by omega), if_pos h2]
theorem rof_c {a m e p : Nat} (h1 : a ≤ m) (h2 : a + (e - m) ≤ p) (h3 : p < e) : rof a m e p = p - (e - m) := by unfold rof; rw [if_neg (by omega), if_neg (by omega), if_pos h3]
theorem rof_d {a m e p : Nat} (h1 : a ≤ m) (h2 : m ≤ e) (h3 : e ≤ p) : rof a m e p = p := by unfold rof; rw [if_neg (by omega), if_neg (by omega), if_neg (by omega)]

structure Cross (T : α → α → Bool) (a m b s e : Nat) (d : Array α) : Prop where
  has : a ≤ s
  hsm : s ≤ m
  hme : m ≤ e
  heb : e ≤ b
  hb : b ≤ d.size
  x1 : ∀ i j, s ≤ i → i < m → m ≤ j → j < e → T d[i]! d[j]! = false
  x2 : ∀ i j, a ≤ i → i < s → e ≤ j → j < b → T d[j]! d[i]! = false

theorem left_sorted (hT : SWO T) {a m b s e : Nat} {d : Array α} (c : Cross T a m b s e d) (h1 : SortedIn T a m d) (h2 : SortedIn T m b d) (hx : ∀ i j, a ≤ i → i < s → m ≤ j → j < e → T d[j]! d[i]! = false) : SortedIn T a (s + (e - m)) (mapIx d (rof s m e)) := by
  have := c.has; have := c.hsm; have := c.hme; have := c.heb; have := c.hb
  intro p q hp hpq hq
  rw [get_mapIx _ _ p (by omega), get_mapIx _ _ q (by omega)]
  by_cases a1 : p < s
  · rw [rof_a a1]
    by_cases a2 : q < s
    · rw [rof_a a2]; exact h1 p q hp hpq (by omega)
    · rw [rof_b (by omega) (by omega)]; exact hx p _ hp a1 (by omega) (by omega)
  · rw [rof_b (p := p) (by omega) (by omega), rof_b (p := q) (by omega) (by omega)]
    exact h2 _ _ (by omega) (by omega) (by omega)
theorem right_sorted (hT : SWO T) {a m b s e : Nat} {d : Array α} (c : Cross T a m b s e d) (h1 : SortedIn T a m d) (h2 : SortedIn T m b d) (hx : ∀ i j, s ≤ i → i < m → e ≤ j → j < b → T d[j]! d[i]! = false) : SortedIn T (s + (e - m)) b (mapIx d (rof s m e)) := by
  have := c.has; have := c.hsm; have := c.hme; have := c.heb; have := c.hb
  intro p q hp hpq hq
  rw [get_mapIx _ _ p (by omega), get_mapIx _ _ q (by omega)]
  by_cases a1 : q < e
  · rw [rof_c (p := p) (by omega) (by omega) (by omega), rof_c (p := q) (by omega) (by omega) (by omega)]
    exact h1 _ _ (by omega) (by omega) (by omega)
  · rw [rof_d (p := q) (by omega) (by omega) (by omega)]
    by_cases a2 : p < e
    · rw [rof_c (p := p) (by omega) (by omega) (by omega)]
      exact hx _ _ (by omega) (by omega) (by omega) (by omega)
    · rw [rof_d (p := p) (by omega) (by omega) (by omega)]
      exact h2 _ _ (by omega) (by omega) (by omega)
theorem parts_cross (hT : SWO T) {a m b s e : Nat} {d : Array α} (c : Cross T a m b s e d) (h1 : SortedIn T a m d) (h2 : SortedIn T m b d) (p q : Nat) (hp : a ≤ p) (hp2 : p < s + (e - m)) (hq : s + (e - m) ≤ q) (hq2 : q < b) : T (mapIx d (rof s m e))[q]! (mapIx d (rof s m e))[p]! = false := by
  have := c.has; have := c.hsm; have := c.hme; have := c.heb; have := c.hb
  rw [get_mapIx _ _ p (by omega), get_mapIx _ _ q (by omega)]
  by_cases a1 : p < s
  · rw [rof_a a1]
    by_cases a2 : q < e
    · rw [rof_c (p := q) (by omega) (by omega) (by omega)]
      exact h1 _ _ hp (by omega) (by omega)
    · rw [rof_d (p := q) (by omega) (by omega) (by omega)]
      exact c.x2 _ _ hp a1 (by omega) hq2
  · rw [rof_b (p := p) (by omega) (by omega)]
    by_cases a2 : q < e
    · rw [rof_c (p := q) (by omega) (by omega) (by omega)]
      exact c.x1 _ _ (by omega) (by omega) (by omega) (by omega)
    · rw [rof_d (p := q) (by omega) (by omega) (by omega)]
      exact h2 _ _ (by omega) (by omega) hq2
theorem merged (hT : SWO T) {a b k : Nat} {d1 d2 d3 : Array α} (hak : a ≤ k) (hkb : k ≤ b) (hb : b ≤ d1.size) (hc : ∀ p q, a ≤ p → p < k → k ≤ q → q < b → T d1[q]! d1[p]! = false)
    (p2 : PermIn a k d1 d2) (s2 : SortedIn T a k d2) (p3 : PermIn k b d2 d3) (s3 : SortedIn T k b d3) : PermIn a b d1 d3 ∧ SortedIn T a b d3 := by
  have z2 : d2.size = d1.size := p2.1
  refine ⟨permIn_trans _ _ _ _ _ (permIn_mono _ _ _ _ _ _ (Nat.le_refl _) hkb hb p2) (permIn_mono _ _ _ _ _ _ hak (Nat.le_refl _) (by omega) p3), ?_⟩
  have c2 : ∀ p q, a ≤ p → p < k → k ≤ q → q < b → T d2[q]! d2[p]! = false := fun p q hp hp2 hq hq2 => by
    rw [p2.2.1 q (Or.inr hq)]
    exact permIn_all d1 d2 a k (fun x => T d1[q]! x = false) (by omega) p2 (fun i h1 h2 => hc i q h1 h2 hq hq2) p hp hp2
  intro p q hp hpq hq
  by_cases h1 : q < k
  · rw [p3.2.1 p (Or.inl (by omega)), p3.2.1 q (Or.inl h1)]
    exact s2 p q hp hpq h1
  · by_cases h2 : p < k
    · rw [p3.2.1 p (Or.inl h2)]
      exact permIn_all d2 d3 k b (fun x => T x d2[p]! = false) (by omega) p3 (fun i h3 h4 => c2 p i hp h2 h3 h4) q (by omega) hq
    · exact s3 p q (by omega) hpq hq

/-! The three searches. -/
theorem one_left (hT : SWO T) {a b i : Nat} {d : Array α} (h2 : SortedIn T (a + 1) b d) (hi : a + 1 ≤ i) (hib : i ≤ b) (hb : b ≤ d.size)
    (hl : ∀ q, a + 1 ≤ q → q < i → T d[q]! d[a]! = true) (hr : ∀ q, i ≤ q → q < b → T d[q]! d[a]! = false) : SortedIn T a b (mapIx d (rof a (a + 1) i)) := by
  have h1 : SortedIn T a (a + 1) d := fun p q _ _ _ => by omega
  have c : Cross T a (a + 1) b a i d := ⟨Nat.le_refl _, by omega, hi, hib, hb, fun p q hp hp2 hq hq2 => (by obtain rfl : p = a := (by omega); exact hT.asymmA (hl q hq hq2)), fun p q _ _ _ _ => by omega⟩
  exact (merged hT (k := a + (i - (a + 1))) (by omega) (by omega) (by rw [size_mapIx]; exact hb) (fun p q => parts_cross hT c h1 h2 p q)
    (permIn_refl _ _ _) (left_sorted hT c h1 h2 (fun p q _ _ _ _ => by omega)) (permIn_refl _ _ _) (right_sorted hT c h1 h2 (fun p q hp hp2 hq hq2 => (by obtain rfl : p = a := (by omega); exact hr q hq hq2)))).2
theorem one_right (hT : SWO T) {a m i : Nat} {d : Array α} (h1 : SortedIn T a m d) (hai : a ≤ i) (him : i ≤ m) (hb : m + 1 ≤ d.size)
    (hl : ∀ q, a ≤ q → q < i → T d[m]! d[q]! = false) (hr : ∀ q, i ≤ q → q < m → T d[m]! d[q]! = true) : SortedIn T a (m + 1) (mapIx d (rof i m (m + 1))) := by
  have h2 : SortedIn T m (m + 1) d := fun p q _ _ _ => by omega
  have c : Cross T a m (m + 1) i (m + 1) d := ⟨hai, him, by omega, Nat.le_refl _, hb, fun p q hp hp2 hq hq2 => (by obtain rfl : q = m := (by omega); exact hT.asymmA (hr p hp hp2)), fun p q _ _ _ _ => by omega⟩
  exact (merged hT (k := i + (m + 1 - m)) (by omega) (by omega) (by rw [size_mapIx]; exact hb) (fun p q => parts_cross hT c h1 h2 p q)
    (permIn_refl _ _ _) (left_sorted hT c h1 h2 (fun p q hp hp2 hq hq2 => (by obtain rfl : q = m := (by omega); exact hl p hp hp2))) (permIn_refl _ _ _) (right_sorted hT c h1 h2 (fun p q _ _ _ _ => by omega))).2
/-- What the search of the middle finds. -/
theorem found (hT : SWO T) {a m b s n : Nat} {d : Array α} (h1 : SortedIn T a m d) (h2 : SortedIn T m b d) (hb : b ≤ d.size) (ham : a < m) (hmb : m < b) (hn : n = (a + b) / 2 + m)
    (s1 : a ≤ s) (s2 : s ≤ m) (s3 : m ≤ n - s) (s4 : n - s ≤ b) (s5 : s ≤ (a + b) / 2) (hlo : a < s → n - s < b → T d[n - s]! d[s - 1]! = false) (hhi : s < m → m < n - s → T d[n - 1 - s]! d[s]! = true) : Cross T a m b s (n - s) d := by
  refine ⟨s1, s2, s3, s4, hb, fun i j hi hi2 hj hj2 => ?_, fun i j hi hi2 hj hj2 => ?_⟩
  · have hx := hhi (by omega) (by omega)
    have e1 : T d[n - 1 - s]! d[j]! = false := le_of hT h2 j (n - 1 - s) (by omega) (by omega) (by omega)
    have e2 : T d[i]! d[s]! = false := le_of hT h1 s i s1 hi hi2
    exact hT.asymmA (lt_le hT (le_lt hT (x := d[j]!) (y := d[n - 1 - s]!) (z := d[s]!) e1 hx) e2)
  · have hx := hlo (by omega) (by omega)
    have e1 : T d[s - 1]! d[i]! = false := le_of hT h1 i (s - 1) hi (by omega) (by omega)
    have e2 : T d[j]! d[n - s]! = false := le_of hT h2 (n - s) j (by omega) hj hj2
    exact hT.ntrans _ _ _ (hT.ntrans _ _ _ e2 hx) e1

/-! What the recursion is told. -/
theorem ahd_left {a m b s e : Nat} {d : Array α} (c : Cross T a m b s e d) (h : Ahd lt T a m b d) : Ahd lt T a s (s + (e - m)) (mapIx d (rof s m e)) := by
  have := c.has; have := c.hsm; have := c.hme; have := c.heb; have := c.hb
  intro i j hi hi2 hj hj2
  rw [get_mapIx _ _ i (by omega), get_mapIx _ _ j (by omega), rof_a hi2, rof_b hj hj2]
  exact h _ _ hi (by omega) (by omega) (by omega)
theorem ahd_right {a m b s e : Nat} {d d2 : Array α} (c : Cross T a m b s e d) (h : Ahd lt T a m b d) (p2 : PermIn a (s + (e - m)) (mapIx d (rof s m e)) d2) : Ahd lt T (s + (e - m)) e b d2 := by
  have := c.has; have := c.hsm; have := c.hme; have := c.heb; have := c.hb
  intro i j hi hi2 hj hj2
  rw [p2.2.1 i (Or.inr hi), p2.2.1 j (Or.inr (by omega))]
  rw [get_mapIx _ _ i (by omega), get_mapIx _ _ j (by omega), rof_c (by omega) hi hi2, rof_d (by omega) (by omega) hj]
  exact h _ _ (by omega) (by omega) (by omega) hj2
theorem sorted_ls {a m b s e : Nat} {d : Array α} (c : Cross T a m b s e d) (h1 : SortedIn T a m d) : SortedIn T a s (mapIx d (rof s m e)) := by
  have := c.has; have := c.hsm; have := c.hme; have := c.heb; have := c.hb
  intro i j hi hij hj
  rw [get_mapIx _ _ i (by omega), get_mapIx _ _ j (by omega), rof_a (by omega), rof_a (by omega)]
  exact h1 _ _ hi hij (by omega)
theorem sorted_lm {a m b s e : Nat} {d : Array α} (c : Cross T a m b s e d) (h2 : SortedIn T m b d) : SortedIn T s (s + (e - m)) (mapIx d (rof s m e)) := by
  have := c.has; have := c.hsm; have := c.hme; have := c.heb; have := c.hb
  intro i j hi hij hj
  rw [get_mapIx _ _ i (by omega), get_mapIx _ _ j (by omega), rof_b (p := i) (by omega) (by omega), rof_b (p := j) (by omega) (by omega)]
  exact h2 _ _ (by omega) (by omega) (by omega)
theorem sorted_rm {a m b s e : Nat} {d d2 : Array α} (c : Cross T a m b s e d) (h1 : SortedIn T a m d) (p2 : PermIn a (s + (e - m)) (mapIx d (rof s m e)) d2) : SortedIn T (s + (e - m)) e d2 := by
  have := c.has; have := c.hsm; have := c.hme; have := c.heb; have := c.hb
  intro i j hi hij hj
  rw [p2.2.1 i (Or.inr hi), p2.2.1 j (Or.inr (by omega)), get_mapIx _ _ i (by omega), get_mapIx _ _ j (by omega), rof_c (p := i) (by omega) (by omega) (by omega), rof_c (p := j) (by omega) (by omega) (by omega)]
  exact h1 _ _ (by omega) (by omega) (by omega)
theorem sorted_rb {a m b s e : Nat} {d d2 : Array α} (c : Cross T a m b s e d) (h2 : SortedIn T m b d) (p2 : PermIn a (s + (e - m)) (mapIx d (rof s m e)) d2) : SortedIn T e b d2 := by
  have := c.has; have := c.hsm; have := c.hme; have := c.heb; have := c.hb
  intro i j hi hij hj
  rw [p2.2.1 i (Or.inr (by omega)), p2.2.1 j (Or.inr (by omega)), get_mapIx _ _ i (by omega), get_mapIx _ _ j (by omega), rof_d (p := i) (by omega) (by omega) (by omega), rof_d (p := j) (by omega) (by omega) (by omega)]
  exact h2 _ _ (by omega) (by omega) (by omega)

/-! Insertion by lt is insertion by T, where a later one is compared with earlier ones. -/
theorem inner_eq (a : Nat) : ∀ (j : Nat) (d : Array α), j < d.size → (∀ p, a ≤ p → p < j → lt d[j]! d[p]! = T d[j]! d[p]!) → insInner lt a j d = insInner T a j d
  | 0, d, _, _ => by simp [insInner]
  | j + 1, d, hj, h => by
    unfold insInner
    by_cases ha : j + 1 > a
    · have e := h j (by omega) (by omega)
      rw [e]
      split
      · refine inner_eq a j _ (by rw [swp_size]; omega) fun p hp hpj => ?_
        have g := swp_get d hj (show j < d.size by omega)
        rw [g, g, if_pos rfl, if_neg (by omega), if_neg (by omega)]
        exact h p hp (by omega)
      · rfl
    · have e : (decide (j + 1 > a)) = false := decide_eq_false ha
      rw [e]; simp
theorem inner_permIn (a b : Nat) : ∀ (j : Nat) (d : Array α), a ≤ j → j < b → b ≤ d.size → PermIn a b d (insInner T a j d)
  | 0, d, _, _, _ => by unfold insInner; exact permIn_refl _ _ _
  | j + 1, d, haj, hjb, hb => by
    unfold insInner
    split
    · rename_i hc
      simp only [Bool.and_eq_true, decide_eq_true_eq] at hc
      exact permIn_trans _ _ _ _ _ (swp_permIn d a b (j + 1) j haj hjb (by omega) (by omega) hb) (inner_permIn a b j _ (by omega) (by omega) (by rw [swp_size]; exact hb))
    · exact permIn_refl _ _ _
theorem outer_eq (a b : Nat) : ∀ (n i : Nat) (d : Array α), b - i = n → a < i → b ≤ d.size → (∀ p q, a ≤ p → p < q → i ≤ q → q < b → lt d[q]! d[p]! = T d[q]! d[p]!) → insOuter lt a b i d = insOuter T a b i d
  | 0, i, d, hn, _, _, _ => by
    have u1 : insOuter lt a b i d = d := by rw [insOuter, if_neg (by omega)]
    have u2 : insOuter T a b i d = d := by rw [insOuter, if_neg (by omega)]
    rw [u1, u2]
  | n + 1, i, d, hn, hai, hb, h => by
    have u1 : insOuter lt a b i d = insOuter lt a b (i + 1) (insInner lt a i d) := by rw [insOuter, if_pos (by omega)]
    have u2 : insOuter T a b i d = insOuter T a b (i + 1) (insInner T a i d) := by rw [insOuter, if_pos (by omega)]
    rw [u1, u2, inner_eq (lt := lt) (T := T) a i d (by omega) (fun p h1 h2 => h p i h1 h2 (Nat.le_refl _) (by omega))]
    have hp := inner_permIn (T := T) a (i + 1) i d (by omega) (by omega) (by omega)
    refine outer_eq a b n (i + 1) _ (by omega) (by omega) (by rw [hp.1]; exact hb) fun p q h1 h2 h3 h4 => ?_
    rw [hp.2.1 q (Or.inr h3)]
    by_cases h5 : p < i + 1
    · exact permIn_all d _ a (i + 1) (fun x => lt d[q]! x = T d[q]! x) (by omega) hp (fun k h6 h7 => h k q h6 (by omega) (by omega) h4) p h1 h5
    · rw [hp.2.1 p (Or.inr (by omega))]
      exact h p q h1 h2 (by omega) h4
theorem insertion_eq (a b : Nat) (d : Array α) (hb : b ≤ d.size) (h : ∀ p q, a ≤ p → p < q → q < b → lt d[q]! d[p]! = T d[q]! d[p]!) : insertionSort lt d a b = insertionSort T d a b := by
  unfold insertionSort
  exact outer_eq a b _ (a + 1) d rfl (by omega) hb fun p q h1 h2 _ h4 => h p q h1 h2 h4
end

/-! The blocks: the elements are the places of origin. -/
section
variable {lt T : Nat → Nat → Bool}
def Org (bs : Nat) (d : Array Nat) : Prop := ∀ p, p < d.size → d[p]! / bs = p / bs
def Srt (T : Nat → Nat → Bool) (bs c : Nat) (d : Array Nat) : Prop := ∀ a, a % bs = 0 → a < c → SortedIn T a (min (a + bs) d.size) d

theorem org_perm {bs a b : Nat} {d d' : Array Nat} (h : Org bs d) (ha : a % bs = 0) (hb0 : 0 < bs) (hab : b ≤ a + bs) (hb : b ≤ d.size) (hp : PermIn a b d d') : Org bs d' := by
  intro p hpz
  rw [hp.1] at hpz
  by_cases h1 : p < a
  · rw [hp.2.1 p (Or.inl h1)]; exact h p hpz
  · by_cases h2 : b ≤ p
    · rw [hp.2.1 p (Or.inr h2)]; exact h p hpz
    · have key : ∀ i, a ≤ i → i < b → i / bs = a / bs := fun i h3 h4 => by
        obtain ⟨q, rfl⟩ : ∃ q, a = bs * q := ⟨a / bs, by have := Nat.div_add_mod a bs; omega⟩
        rw [Nat.mul_div_cancel_left _ hb0]
        exact Nat.div_eq_of_lt_le (by rw [Nat.mul_comm]; exact h3) (by rw [Nat.mul_comm, Nat.mul_add]; omega)
      rw [key p (by omega) (by omega)]
      exact permIn_all d d' a b (fun x => x / bs = a / bs) hb hp (fun i h3 h4 => by rw [h i (by omega), key i h3 h4]) p (by omega) (by omega)
theorem org_double {bs : Nat} {d : Array Nat} (h : Org bs d) : Org (2 * bs) d := by
  intro p hp
  rw [Nat.mul_comm, ← Nat.div_div_eq_div_mul, ← Nat.div_div_eq_div_mul, h p hp]
theorem org_ahd {bs a m b : Nat} {d : Array Nat} (h : Org bs d) (hb0 : 0 < bs) (hm : m % bs = 0) (hb : b ≤ d.size) (hT : ∀ i j, i < j → lt j i = T j i) : Ahd lt T a m b d := by
  intro i j hi hi2 hj hj2
  refine hT _ _ ?_
  have e1 := h i (by omega)
  have e2 := h j (by omega)
  have e3 : i / bs < j / bs := by
    have h1 : i / bs < m / bs := Nat.div_lt_of_lt_mul (by have := Nat.div_add_mod m bs; omega)
    have h2 : m / bs ≤ j / bs := Nat.div_le_div_right hj
    omega
  rw [← e1, ← e2] at e3
  exact Nat.lt_of_not_le fun hle => by have := Nat.div_le_div_right (c := bs) hle; omega
end
end Go.Proofs.Ytahhemgmlmhbjaa.StM
