/- Plain mathematics of ParseMilli: a scan of a text, and what it makes of a text that MilliText gives. -/
import Derived.Test.YtimpajhgplkpmabDoorMilli
import Derived.Lib.IndexMore
import Derived.Lib.Index
import Derived.Lib.IndexBytes
import Derived.Lib.Strings
namespace Go.Proofs.YtimpajhgplkpmabDoor.MilliP
open Go
open Go.Proofs.YtimpajhgplkpmabDoor.Milli

/-- One letter: how many there were, the digits so far as a number, where the point stood (or -1). -/
def stepP (st : Option (Nat × Nat × Int)) (c : UInt8) : Option (Nat × Nat × Int) :=
  match st with
  | none => none
  | some (i, x, d) =>
    if c.toNat = 45 ∧ i = 0 then some (i + 1, x, d) else if c.toNat = 46 ∧ d < 0 then some (i + 1, x, (i : Int)) else if 48 ≤ c.toNat ∧ c.toNat ≤ 57 then some (i + 1, 10 * x + (c.toNat - 48), d) else none
def scan (l : List UInt8) : Option (Nat × Nat × Int) := l.foldl stepP (some (0, 0, -1))
theorem scan_snoc (l : List UInt8) (c : UInt8) : scan (l ++ [c]) = stepP (scan l) c := by unfold scan; rw [List.foldl_append]; rfl
theorem step_none (l : List UInt8) : l.foldl stepP none = none := by
  induction l with
  | nil => rfl
  | cons c l ih => rw [List.foldl_cons]; exact ih
theorem scan_none {l : List UInt8} {k : Nat} (h : scan (l.take k) = none) : scan l = none := by
  have : scan l = (l.drop k).foldl stepP (scan (l.take k)) := by unfold scan; rw [← List.foldl_append, List.take_append_drop]
  rw [this, h]
  exact step_none _
theorem step_ways (i x : Nat) (d : Int) (c : UInt8) :
    (c.toNat = 45 ∧ i = 0 ∧ stepP (some (i, x, d)) c = some (i + 1, x, d)) ∨
    (¬ (c.toNat = 45 ∧ i = 0) ∧ c.toNat = 46 ∧ d < 0 ∧ stepP (some (i, x, d)) c = some (i + 1, x, (i : Int))) ∨
    (48 ≤ c.toNat ∧ c.toNat ≤ 57 ∧ stepP (some (i, x, d)) c = some (i + 1, 10 * x + (c.toNat - 48), d)) ∨
    (¬ (c.toNat = 45 ∧ i = 0) ∧ ¬ (c.toNat = 46 ∧ d < 0) ∧ ¬ (48 ≤ c.toNat ∧ c.toNat ≤ 57) ∧ stepP (some (i, x, d)) c = none) := by
  by_cases h1 : c.toNat = 45 ∧ i = 0
  · exact .inl ⟨h1.1, h1.2, by simp only [stepP, if_pos h1]⟩
  · by_cases h2 : c.toNat = 46 ∧ d < 0
    · exact .inr (.inl ⟨h1, h2.1, h2.2, by simp only [stepP, if_neg h1, if_pos h2]⟩)
    · by_cases h3 : 48 ≤ c.toNat ∧ c.toNat ≤ 57
      · exact .inr (.inr (.inl ⟨h3.1, h3.2, by simp only [stepP, if_neg h1, if_neg h2, if_pos h3]⟩))
      · exact .inr (.inr (.inr ⟨h1, h2, h3, by simp only [stepP, if_neg h1, if_neg h2, if_neg h3]⟩))
theorem scan_bd (l : List UInt8) : ∀ {i x : Nat} {d : Int}, scan l = some (i, x, d) → i = l.length ∧ (d = -1 ∨ (0 ≤ d ∧ d < l.length)) ∧ x < 10 ^ l.length := by
  suffices h : ∀ (n : Nat) (l : List UInt8), l.length = n → ∀ (i x : Nat) (d : Int), scan l = some (i, x, d) → i = l.length ∧ (d = -1 ∨ (0 ≤ d ∧ d < l.length)) ∧ x < 10 ^ l.length from fun {i x d} hs => h l.length l rfl i x d hs
  intro n
  induction n with
  | zero =>
    intro l hl i x d h
    obtain rfl := List.length_eq_zero_iff.1 hl
    simp [scan] at h
    obtain ⟨rfl, rfl, rfl⟩ := h
    exact ⟨rfl, .inl rfl, by simp⟩
  | succ n ih =>
    intro l hl i x d h
    obtain ⟨m, c, rfl⟩ : ∃ m c, l = m ++ [c] := ⟨l.dropLast, l.getLast (by intro e; simp [e] at hl), (List.dropLast_concat_getLast _).symm⟩
    have hm : m.length = n := by simpa using hl
    rw [scan_snoc] at h
    cases hs : scan m with
    | none => rw [hs] at h; simp [stepP] at h
    | some st =>
      obtain ⟨i0, x0, d0⟩ := st
      obtain ⟨h1, h2, h3⟩ := ih m hm i0 x0 d0 hs
      rw [hs] at h
      have hp : 10 ^ (m ++ [c]).length = 10 ^ m.length * 10 := by simp [Nat.pow_succ]
      have hq : (m ++ [c]).length = m.length + 1 := by simp
      rcases step_ways i0 x0 d0 c with ⟨_, _, e⟩ | ⟨_, _, _, e⟩ | ⟨g1, g2, e⟩ | ⟨_, _, _, e⟩
      · rw [e] at h; simp at h; obtain ⟨rfl, rfl, rfl⟩ := h; omega
      · rw [e] at h; simp at h; obtain ⟨rfl, rfl, rfl⟩ := h; omega
      · rw [e] at h; simp at h; obtain ⟨rfl, rfl, rfl⟩ := h; omega
      · rw [e] at h; simp at h

/-- The number that a scanned text would be, in thousandths. -/
def fin (l : List UInt8) : Int :=
  match scan l with
  | none => 0
  | some (_, x, d) => (if l.head? = some 45 then -1 else 1) * ((x * 10 ^ (3 - (if d < 0 then 0 else l.length - d.toNat - 1)) : Nat) : Int)
/-- Is the text what MilliText gives for a value? -/
def pmB (l : List UInt8) : Bool := decide (l ≠ [] ∧ milli (fin l) = l)
/-- What ParseMilli answers. -/
def pmV (l : List UInt8) : Int := if pmB l then fin l else 0
theorem pm_yes {l : List UInt8} (h1 : l ≠ []) (h2 : milli (fin l) = l) : pmB l = true ∧ pmV l = fin l := by
  have : pmB l = true := by unfold pmB; simp [h1, h2]
  exact ⟨this, by unfold pmV; rw [this]; rfl⟩
theorem pm_no {l : List UInt8} (h : ¬ (l ≠ [] ∧ milli (fin l) = l)) : pmB l = false ∧ pmV l = 0 := by
  have : pmB l = false := by unfold pmB; exact decide_eq_false h
  exact ⟨this, by unfold pmV; rw [this]; rfl⟩

/-! ### the text of a value -/
theorem fold_digits (m : List UInt8) : ∀ (i x : Nat) (d : Int), (∀ c ∈ m, isDig c) → m.foldl stepP (some (i, x, d)) = some (i + m.length, foldD x m, d) := by
  induction m with
  | nil => intro i x d _; rfl
  | cons c m ih =>
    intro i x d h
    have hc : isDig c := h c (by simp)
    unfold isDig at hc
    rw [List.foldl_cons]
    rcases step_ways i x d c with ⟨h1, _, _⟩ | ⟨_, h1, _, _⟩ | ⟨_, _, e⟩ | ⟨_, _, h1, _⟩
    · omega
    · omega
    · rw [e, ih _ _ _ (fun c hc => h c (by simp [hc])), foldD_cons, List.length_cons]
      congr 2
      omega
    · exact absurd hc h1
/-- What the text of a value looks like: a sign, digits, and a point with one to three digits behind it, or none. -/
theorem milli_form {v : Int} (hv : isVal v = true) : ∃ s D T : List UInt8, milli v = s ++ (D ++ T) ∧ (v < 0 ∧ s = [45] ∨ ¬ v < 0 ∧ s = []) ∧ (∀ c ∈ D, isDig c) ∧ D ≠ [] ∧ D.length ≤ 7 ∧ v.natAbs ≤ 1000000000 ∧
    (T = [] ∧ foldD 0 D * 1000 = v.natAbs ∧ D ++ [48, 48, 48] = Lib.decDigits (v.natAbs / 1000) ++ three (v.natAbs % 1000) ∨
     ∃ F, T = 46 :: F ∧ F ≠ [] ∧ F.length ≤ 3 ∧ (∀ c ∈ F, isDig c) ∧ foldD (foldD 0 D) F * 10 ^ (3 - F.length) = v.natAbs ∧ D ++ (F ++ [48, 48, 48]).take 3 = Lib.decDigits (v.natAbs / 1000) ++ three (v.natAbs % 1000)) := by
  have hb : -1000000000 ≤ v ∧ v ≤ 1000000000 := by unfold isVal at hv; simpa using hv
  have hms : milli v = (if v < 0 then [45] else []) ++ mPos v.natAbs := by
    unfold milli
    rw [if_pos hv]
    by_cases hn : v < 0
    · rw [if_pos hn, if_pos hn]; rfl
    · rw [if_neg hn, if_neg hn, List.nil_append]
      congr 1
      omega
  obtain ⟨d1, d2, d3⟩ := dec_digits (v.natAbs / 1000)
  have dl := dec_length_le (v.natAbs / 1000) 6 (by omega)
  refine ⟨if v < 0 then [45] else [], Lib.decDigits (v.natAbs / 1000), if v.natAbs % 1000 = 0 then [] else 46 :: frac (v.natAbs % 1000), hms, ?_, d1, d3, dl, by omega, ?_⟩
  · by_cases hn : v < 0
    · exact .inl ⟨hn, by rw [if_pos hn]⟩
    · exact .inr ⟨hn, by rw [if_neg hn]⟩
  · by_cases h0 : v.natAbs % 1000 = 0
    · refine .inl ⟨by rw [if_pos h0], by rw [d2]; omega, ?_⟩
      rw [h0]
      rw [(three_fin ⟨0, by omega⟩).2.2]
    · obtain ⟨f1, f2, f3, f4, f5⟩ := frac_fin ⟨v.natAbs % 1000, by omega⟩ h0
      simp only at f1 f2 f3 f4 f5
      refine .inr ⟨frac (v.natAbs % 1000), by rw [if_neg h0], f2, f1, f3, ?_, by rw [f5]⟩
      rw [d2, foldD_acc, Nat.add_mul, f4, Nat.mul_assoc, ← Nat.pow_add]
      have : (frac (v.natAbs % 1000)).length + (3 - (frac (v.natAbs % 1000)).length) = 3 := by omega
      rw [this]
      omega

theorem scan_milli {v : Int} (hv : isVal v = true) : ∃ (x : Nat) (d : Int), scan (milli v) = some ((milli v).length, x, d) ∧ (milli v).length ≤ 12 ∧ milli v ≠ [] ∧ ((milli v).head? = some 45 ↔ v < 0) ∧
    (d = -1 ∧ x * 1000 = v.natAbs ∨ 0 ≤ d ∧ 1 ≤ (milli v).length - d.toNat - 1 ∧ (milli v).length - d.toNat - 1 ≤ 3 ∧ x * 10 ^ (3 - ((milli v).length - d.toNat - 1)) = v.natAbs) := by
  obtain ⟨s, D, T, hm, hs, hD, hD0, hDl, hv9, hT⟩ := milli_form hv
  have hhead : (milli v).head? = some 45 ↔ v < 0 := by
    rw [hm]
    rcases hs with ⟨hn, rfl⟩ | ⟨hn, rfl⟩
    · simp [hn]
    · cases D with
      | nil => exact absurd rfl hD0
      | cons c D =>
        have := hD c (by simp)
        unfold isDig at this
        simp only [List.nil_append, List.cons_append, List.head?_cons, Option.some.injEq, hn, iff_false]
        rintro rfl
        simp at this
  have hne : milli v ≠ [] := by rw [hm]; simp [hD0]
  have hsl : s.length ≤ 1 := by rcases hs with ⟨_, rfl⟩ | ⟨_, rfl⟩ <;> simp
  have hs1 : scan s = some (s.length, 0, -1) := by
    rcases hs with ⟨_, rfl⟩ | ⟨_, rfl⟩
    · unfold scan
      rw [List.foldl_cons, List.foldl_nil]
      rcases step_ways 0 0 (-1) 45 with ⟨_, _, e⟩ | ⟨h, _⟩ | ⟨h, _⟩ | ⟨h, _⟩
      · exact e
      · simp at h
      · simp at h
      · simp at h
    · rfl
  have hs2 : scan (s ++ D) = some (s.length + D.length, foldD 0 D, -1) := by
    have : scan (s ++ D) = D.foldl stepP (scan s) := by unfold scan; rw [List.foldl_append]
    rw [this, hs1, fold_digits D _ _ _ hD]
  rcases hT with ⟨rfl, hx, _⟩ | ⟨F, rfl, hF0, hFl, hF, hx, _⟩
  · rw [List.append_nil] at hm
    refine ⟨foldD 0 D, -1, by rw [hm, hs2, List.length_append], by rw [hm, List.length_append]; omega, hne, hhead, .inl ⟨rfl, hx⟩⟩
  · have hs3 : scan (s ++ (D ++ 46 :: F)) = some (s.length + D.length + 1 + F.length, foldD (foldD 0 D) F, ((s.length + D.length : Nat) : Int)) := by
      have : scan (s ++ (D ++ 46 :: F)) = F.foldl stepP (stepP (scan (s ++ D)) 46) := by unfold scan; rw [← List.append_assoc, List.foldl_append, List.foldl_cons]
      rw [this, hs2]
      rcases step_ways (s.length + D.length) (foldD 0 D) (-1) 46 with ⟨h, _⟩ | ⟨_, _, _, e⟩ | ⟨h, _⟩ | ⟨_, h, _⟩
      · simp at h
      · rw [e, fold_digits F _ _ _ hF]
      · simp at h
      · simp at h
    have hlen : (s ++ (D ++ 46 :: F)).length = s.length + D.length + 1 + F.length := by simp; omega
    have hF1 : 1 ≤ F.length := by cases F with
      | nil => exact absurd rfl hF0
      | cons c F => simp
    have hb : s.length + D.length + 1 + F.length - ((s.length + D.length : Nat) : Int).toNat - 1 = F.length := by omega
    refine ⟨foldD (foldD 0 D) F, ((s.length + D.length : Nat) : Int), by rw [hm, hs3, hlen], by rw [hm, hlen]; omega, hne, hhead, .inr ⟨by omega, ?_, ?_, ?_⟩⟩
    · rw [hm, hlen, hb]; exact hF1
    · rw [hm, hlen, hb]; exact hFl
    · rw [hm, hlen, hb]; exact hx

theorem fin_milli {v : Int} (hv : isVal v = true) : fin (milli v) = v := by
  obtain ⟨x, d, h1, _, _, h4, h5⟩ := scan_milli hv
  unfold fin
  rw [h1]
  simp only
  have hs : (if (milli v).head? = some 45 then (-1 : Int) else 1) = if v < 0 then -1 else 1 := by
    by_cases hn : v < 0
    · rw [if_pos (h4.2 hn), if_pos hn]
    · rw [if_neg (fun h => hn (h4.1 h)), if_neg hn]
  rw [hs]
  rcases h5 with ⟨rfl, h5⟩ | ⟨h6, _, _, h5⟩
  · have e : x * 10 ^ (3 - (if (-1 : Int) < 0 then 0 else (milli v).length - (-1 : Int).toNat - 1)) = v.natAbs := by
      rw [if_pos (by omega)]
      exact h5
    rw [e]
    split <;> omega
  · have e : x * 10 ^ (3 - (if d < 0 then 0 else (milli v).length - d.toNat - 1)) = v.natAbs := by
      rw [if_neg (by omega)]
      exact h5
    rw [e]
    split <;> omega
theorem isVal_of {l : List UInt8} {v : Int} (h : milli v = l) (hl : l ≠ []) : isVal v = true := by
  cases g : isVal v with
  | true => rfl
  | false => unfold milli at h; rw [g] at h; exact absurd h.symm hl
/-- A text that is some value's: ParseMilli gives that value. -/
theorem pm_of {l : List UInt8} {v : Int} (h : milli v = l) (hl : l ≠ []) : pmB l = true ∧ pmV l = v := by
  have hv := isVal_of h hl
  have hf : fin l = v := by rw [← h]; exact fin_milli hv
  obtain ⟨h1, h2⟩ := pm_yes (l := l) hl (by rw [hf]; exact h)
  exact ⟨h1, by rw [h2, hf]⟩
theorem pm_none {l : List UInt8} (h : ∀ v, isVal v = true → milli v ≠ l) : pmB l = false ∧ pmV l = 0 :=
  pm_no fun ⟨h1, h2⟩ => h (fin l) (isVal_of h2 h1) h2
theorem milli_zero : milli 0 = [48] := by
  unfold milli isVal mPos
  rw [if_pos (by decide), if_neg (by decide), if_pos (by decide), Lib.decDigits, dif_pos (by decide)]
  decide

/-! ### what strings.CutPrefix and strings.Cut make of a text of a value -/
theorem cut_prefix {s m : List UInt8} {v : Int} (hs : v < 0 ∧ s = [45] ∨ ¬ v < 0 ∧ s = []) (hm : m.head? ≠ some 45) : Lib.trimPrefix (s ++ m) [45] = m ∧ Lib.hasPrefix (s ++ m) [45] = decide (v < 0) := by
  rcases hs with ⟨hn, rfl⟩ | ⟨hn, rfl⟩
  · simp [Lib.trimPrefix, Lib.hasPrefix, hn]
  · have : Lib.hasPrefix ([] ++ m) [45] = false := by
      unfold Lib.hasPrefix
      cases m with
      | nil => rfl
      | cons c m =>
        have : ¬ 45 = c := fun e => hm (by rw [e]; rfl)
        simp [List.isPrefixOf, this]
    unfold Lib.trimPrefix
    rw [this]
    simp [hn]
theorem index_first (D F : List UInt8) (hD : ∀ c ∈ D, isDig c) : Lib.index (D ++ 46 :: F) [46] = D.length := by
  induction D with
  | nil => simp [Lib.index]
  | cons c D ih =>
    have hc := hD c (by simp)
    unfold isDig at hc
    have h46 : ¬ 46 = c := by rintro rfl; simp at hc
    have := ih (fun c hc => hD c (by simp [hc]))
    rw [List.cons_append, Lib.index]
    simp only [List.isPrefixOf, Bool.and_true, beq_iff_eq, h46, if_false]
    rw [this, if_neg (by omega)]
    simp
theorem index_no (D : List UInt8) (hD : ∀ c ∈ D, isDig c) : Lib.index D [46] = -1 := by
  induction D with
  | nil => rfl
  | cons c D ih =>
    have hc := hD c (by simp)
    unfold isDig at hc
    have h46 : ¬ 46 = c := by rintro rfl; simp at hc
    have := ih (fun c hc => hD c (by simp [hc]))
    rw [Lib.index]
    simp only [List.isPrefixOf, Bool.and_true, beq_iff_eq, h46, if_false]
    rw [this, if_pos (by simp)]
theorem cut_point (D F : List UInt8) (hD : ∀ c ∈ D, isDig c) : Lib.cut (D ++ 46 :: F) [46] = (D, F, true) := by
  unfold Lib.cut
  rw [index_first D F hD, if_pos (by omega)]
  simp
theorem cut_none (D : List UInt8) (hD : ∀ c ∈ D, isDig c) : Lib.cut D [46] = (D, [], false) := by
  unfold Lib.cut
  rw [index_no D hD, if_neg (by omega)]

/-- The digits that ParseMilli hands to ParseUint, for the text of a value. -/
theorem parts_of {v : Int} (hv : isVal v = true) :
    Lib.hasPrefix (milli v) [45] = decide (v < 0) ∧ Lib.parseUintB 32 ((Lib.cut (Lib.trimPrefix (milli v) [45]) [46]).1 ++ ((Lib.cut (Lib.trimPrefix (milli v) [45]) [46]).2.1 ++ [48, 48, 48]).take 3) = .ok v.natAbs := by
  obtain ⟨s, D, T, hm, hs, hD, hD0, hDl, hv9, hT⟩ := milli_form hv
  have hh : (D ++ T).head? ≠ some 45 := by
    cases D with
    | nil => exact absurd rfl hD0
    | cons c D =>
      have := hD c (by simp)
      unfold isDig at this
      simp only [List.cons_append, List.head?_cons, ne_eq, Option.some.injEq]
      rintro rfl
      simp at this
  obtain ⟨p1, p2⟩ := cut_prefix (m := D ++ T) hs hh
  rw [hm, p1, p2]
  refine ⟨rfl, ?_⟩
  have hall := all_digits v.natAbs
  have hfold := fold_all v.natAbs
  rcases hT with ⟨rfl, _, he⟩ | ⟨F, rfl, _, _, _, _, he⟩
  · rw [List.append_nil, cut_none D hD]
    have e : ([] ++ [48, 48, 48] : List UInt8).take 3 = [48, 48, 48] := rfl
    rw [e, he, parseB_ok _ (by rw [← he]; simp) hall (by rw [hfold]; omega), hfold]
  · rw [cut_point D F hD, he, parseB_ok _ (by rw [← he]; simp [hD0]) hall (by rw [hfold]; omega), hfold]

/-- What is handed to ParseUint. -/
def handed (l : List UInt8) : List UInt8 := (Lib.cut (Lib.trimPrefix l [45]) [46]).1 ++ ((Lib.cut (Lib.trimPrefix l [45]) [46]).2.1 ++ [48, 48, 48]).take 3
theorem handed_nil : handed [] = [48, 48, 48] := by decide
theorem pm_result (l : List UInt8) (u : Nat) (hu : Lib.parseUintB 32 (handed l) = .ok u) (x : Int) (hx : x = if Lib.hasPrefix l [45] then -(u : Int) else u) :
    (milli x = l ∧ pmB l = true ∧ pmV l = x) ∨ (milli x ≠ l ∧ pmB l = false ∧ pmV l = 0) := by
  by_cases h : milli x = l
  · by_cases hl : l = []
    · subst hl
      rw [handed_nil] at hu
      have e1 : Lib.parseUintB 32 [48, 48, 48] = .ok 0 := by decide
      rw [e1] at hu
      obtain rfl : 0 = u := by injection hu
      have e2 : Lib.hasPrefix [] [45] = false := rfl
      rw [e2] at hx
      simp at hx
      rw [hx, milli_zero] at h
      simp at h
    · exact .inl ⟨h, pm_of h hl⟩
  · refine .inr ⟨h, pm_none fun v hv e => ?_⟩
    obtain ⟨p1, p2⟩ := parts_of hv
    rw [e] at p1 p2
    unfold handed at hu
    rw [p2] at hu
    obtain rfl : v.natAbs = u := by injection hu
    rw [p1] at hx
    have : x = v := by rw [hx]; by_cases hn : v < 0 <;> simp [hn] <;> omega
    exact h (by rw [this]; exact e)
theorem pm_bad (l : List UInt8) (h : ∀ u, Lib.parseUintB 32 (handed l) ≠ .ok u) : pmB l = false ∧ pmV l = 0 :=
  pm_none fun v hv e => by
    obtain ⟨_, p2⟩ := parts_of hv
    rw [e] at p2
    exact h _ p2

theorem pm_far {l : List UInt8} {i x : Nat} {d : Int} (h : scan l = some (i, x, d)) (hd : 0 ≤ d) (hb : 3 < l.length - d.toNat - 1) : pmB l = false ∧ pmV l = 0 :=
  pm_none fun v hv e => by
    obtain ⟨x', d', h1, _, _, _, h5⟩ := scan_milli hv
    rw [e] at h1 h5
    rw [h] at h1
    injection h1 with h1
    injection h1 with _ h1
    injection h1 with _ h1
    subst h1
    omega
theorem pm_stop {l : List UInt8} (h : scan l = none) : pmB l = false ∧ pmV l = 0 :=
  pm_none fun v hv e => by
    obtain ⟨x', d', h1, _⟩ := scan_milli hv
    rw [e, h] at h1
    cases h1
theorem fin_of {l : List UInt8} {i x : Nat} {d : Int} (h : scan l = some (i, x, d)) (b : Nat) (hb : b = if d < 0 then 0 else l.length - d.toNat - 1) :
    fin l = (if l.head? = some 45 then -1 else 1) * ((x * 10 ^ (3 - b) : Nat) : Int) := by
  unfold fin
  rw [h, hb]
end Go.Proofs.YtimpajhgplkpmabDoor.MilliP
