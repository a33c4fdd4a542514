/- The model's SortSamples: insertion of each sample behind those that it doesn't precede. -/
import Derived.Test.YtahhemgmlmhbjaaSortP
import Derived.Lib.SmallJoins
namespace Go.Proofs.Ytahhemgmlmhbjaa.SortD
open Go.RowKit Go.Sort
open Go.Proofs.Ytahhemgmlmhbjaa.C1
open Go.Proofs.Ytahhemgmlmhbjaa.C2
open Go.Proofs.Ytahhemgmlmhbjaa.Smps
open Go.Proofs.Ytahhemgmlmhbjaa.StM
open Go.Proofs.Ytahhemgmlmhbjaa.Cmp
open Go.Proofs.Ytahhemgmlmhbjaa.SortM
open Go.Proofs.Ytahhemgmlmhbjaa.SortP
set_option linter.unusedVariables false

/-! ### Texts byte by byte. -/
theorem lt_at : ∀ (k : Nat) (x y : List UInt8) (hx : k < x.length) (hy : k < y.length), x.take k = y.take k → x[k] ≠ y[k] → (x < y ↔ x[k] < y[k])
  | 0, a :: x, b :: y, _, _, _, h => by
    simp only [List.getElem_cons_zero] at h ⊢
    rw [List.cons_lt_cons_iff]
    exact ⟨fun g => by rcases g with g | ⟨g, _⟩; exact g; exact absurd g h, fun g => .inl g⟩
  | k + 1, a :: x, b :: y, hx, hy, h1, h2 => by
    simp only [List.take_succ_cons, List.cons.injEq] at h1
    simp only [List.getElem_cons_succ] at h2 ⊢
    rw [List.cons_lt_cons_iff, ← lt_at k x y (by simpa using hx) (by simpa using hy) h1.2 h2]
    exact ⟨fun g => by
      rcases g with g | ⟨_, g⟩
      · rw [h1.1] at g; exact absurd g (UInt8.lt_irrefl b)
      · exact g, fun g => .inr ⟨h1.1, g⟩⟩
theorem lt_end : ∀ (k : Nat) (x y : List UInt8), k ≤ x.length → k ≤ y.length → x.take k = y.take k → (k = x.length ∨ k = y.length) → (x < y ↔ x.length < y.length)
  | 0, [], [], _, _, _, _ => by simp
  | 0, [], b :: y, _, _, _, _ => by simp
  | 0, a :: x, [], _, _, _, _ => by simp
  | 0, a :: x, b :: y, _, _, _, h => by simp at h
  | k + 1, a :: x, b :: y, hx, hy, h1, h2 => by
    simp only [List.take_succ_cons, List.cons.injEq] at h1
    rw [List.cons_lt_cons_iff]
    have ih := lt_end k x y (by simpa using hx) (by simpa using hy) h1.2 (by simpa using h2)
    simp only [List.length_cons, Nat.add_lt_add_iff_right, ← ih]
    exact ⟨fun g => by
      rcases g with g | ⟨_, g⟩
      · rw [h1.1] at g; exact absurd g (UInt8.lt_irrefl b)
      · exact g, fun g => .inr ⟨h1.1, g⟩⟩

def lessV (a b : ByteArray) : Bool := decide (a.data.toList < b.data.toList)
theorem get_list (s : ByteArray) (k : Nat) (h : k < s.size) : s.data.toList[k]'(by simpa using h) = s[k] := by simp [ByteArray.getElem_eq_getElem_data]
theorem take_next {a b : ByteArray} {k : Nat} (ha : k < a.size) (hb : k < b.size) (h : a.data.toList.take k = b.data.toList.take k) (he : a[k] = b[k]) : a.data.toList.take (k + 1) = b.data.toList.take (k + 1) := by
  rw [List.take_succ_eq_append_getElem (by simpa using ha), List.take_succ_eq_append_getElem (by simpa using hb), h, get_list a k ha, get_list b k hb, he]

theorem drew3 (w : World) (q a b : Nat) : ∃ q', ((w.drewN q).drewN a).drewN b = w.drewN q' := ⟨q + (a + b), by rw [World.drewN_drewN, World.drewN_drewN]⟩
theorem less_at {a b : ByteArray} {k : Nat} (h1 : k < a.size) (h2 : k < b.size) (hT : a.data.toList.take k = b.data.toList.take k) (h3 : ¬ a[k] = b[k]) : (a.data.toList < b.data.toList) ↔ (a[k].toNat < b[k].toNat) := by
  have hl := lt_at k a.data.toList b.data.toList (by simpa using h1) (by simpa using h2) hT (by rw [get_list a k h1, get_list b k h2]; exact h3)
  rw [get_list a k h1, get_list b k h2] at hl
  rw [hl, UInt8.lt_iff_toNat_lt]
theorem spec_less (a b : ByteArray) (ha : a.size ≤ 9223372036854775807) (hb : b.size ≤ 9223372036854775807) (w : World) :
    Calls Try.prog 44 #[.string a, .string b] w fun e w' => e = .returned (.bool (lessV a b)) ∧ ∃ q, w' = w.drewN q := by
  have hla : a.data.toList.length = a.size := by simp
  have hlb : b.data.toList.length = b.size := by simp
  have HLA := Lib.hid hla
  have HLB := Lib.hid hlb
  clear hla hlb
  go_enter Try.func44, Try.ntmps44
  go_wp2
  go_loopw [5] (fun i wr => ∃ k : Nat, i = .int .i64 k ∧ k ≤ a.size ∧ k ≤ b.size ∧ Hid (a.data.toList.take k = b.data.toList.take k) ∧ ∃ q, wr = w.drewN q) (fun i _ => a.size - (intOf i).toNat)
  case atStart => exact ⟨0, rfl, Nat.zero_le _, Nat.zero_le _, by show _ = _; simp, 0, rfl⟩
  case round =>
    obtain ⟨k, rfl, hka, hkb, HT, q, rfl⟩ := hrel
    by_cases h1 : k < a.size
    · by_cases h2 : k < b.size
      · by_cases h3 : a[k] = b[k]
        · have hne : ((a[k].toNat : Int) != (b[k].toNat : Int)) = false := by rw [h3]; simp
          have HN : Hid _ := take_next h1 h2 HT.out h3
          clear HT h3
          go_wp2_with fail
          go_quiet (fail)
          go_wp2
          go_roundw
          case rel => exact ⟨k + 1, by go_num, by omega, by omega, HN, q + nq, rfl⟩
          case measure => simp [intOf]; omega
        · have hn : ¬ a[k].toNat = b[k].toNat := fun g => h3 (UInt8.toNat_inj.1 g)
          have hne : ((a[k].toNat : Int) != (b[k].toNat : Int)) = true := by simp; omega
          have hl2 := less_at h1 h2 HT.out h3
          have HV : Hid (decide ((a[k].toNat : Int) < (b[k].toNat : Int)) = lessV a b) := by
            show _ = _
            unfold lessV
            rw [decide_eq_decide, hl2]
            omega
          clear hl2 HT h3
          go_wp2_with fail
          go_quiet (fail)
          go_wp2_with fail
          go_quiet (fail)
          go_wp2
          go_ret
          exact ⟨ret1B (by rw [← HV.out]; simp), drew3 _ _ _ _⟩
      · have HV : Hid (decide ((a.size : Int) < (b.size : Int)) = lessV a b) := by
          show _ = _
          have := lt_end k a.data.toList b.data.toList (by rw [HLA.out]; exact hka) (by rw [HLB.out]; exact hkb) HT.out (.inr (by rw [HLB.out]; omega))
          unfold lessV
          rw [decide_eq_decide, this, HLA.out, HLB.out]
          omega
        go_wp2
        go_ret
        exact ⟨ret1B (by rw [← HV.out]; simp), q, rfl⟩
    · have HV : Hid (decide ((a.size : Int) < (b.size : Int)) = lessV a b) := by
        show _ = _
        have := lt_end k a.data.toList b.data.toList (by rw [HLA.out]; exact hka) (by rw [HLB.out]; exact hkb) HT.out (.inl (by rw [HLA.out]; omega))
        unfold lessV
        rw [decide_eq_decide, this, HLA.out, HLB.out]
        omega
      go_wp2
      go_ret
      exact ⟨ret1B (by rw [← HV.out]; simp), q, rfl⟩

theorem spec_ahead (a b : Smp) (ha : a.wf) (hb : b.wf) (w : World) :
    Calls Try.prog 34 #[smpV a, smpV b] w fun e w' => e = .returned (.bool (decide (cfS a b < 0))) ∧ ∃ q os', w' = grow (w.drewN q) os' := by
  obtain ⟨p1, m1, -, -⟩ := ha
  obtain ⟨p2, m2, -, -⟩ := hb
  unfold maxLen at p1 m1 p2 m2
  unfold smpV
  by_cases e1 : a.pod.data.toList = b.pod.data.toList
  · have t1 : (!(a.pod.toList == b.pod.toList)) = false := by rw [ByteArray.toList_eq, ByteArray.toList_eq, e1]; simp
    have t1' : (a.pod.toList == b.pod.toList) = true := by rw [ByteArray.toList_eq, ByteArray.toList_eq, e1]; simp
    by_cases e2 : a.met.data.toList = b.met.data.toList
    · have t2' : (a.met.toList == b.met.toList) = true := by rw [ByteArray.toList_eq, ByteArray.toList_eq, e2]; simp
      have HV : Hid (decide (a.tick < b.tick) = decide (cfS a b < 0)) := by
        show _ = _
        rw [decide_eq_decide, cfS_lt]
        exact ⟨fun h => .inr ⟨e1, .inr ⟨e2, h⟩⟩, fun h => by
          rcases h with h | ⟨_, h | ⟨_, h⟩⟩
          · rw [e1] at h; exact absurd h (List.lt_irrefl _)
          · rw [e2] at h; exact absurd h (List.lt_irrefl _)
          · exact h⟩
      clear e1 e2
      go_enter Try.func34, Try.ntmps34
      go_wp2
      go_ret
      exact ⟨ret1B HV.out, 0, _, grown2 _ _ _⟩
    · have t2' : (a.met.toList == b.met.toList) = false := by rw [ByteArray.toList_eq, ByteArray.toList_eq, beq_eq_false_iff_ne]; exact e2
      have HV : Hid (lessV a.met b.met = decide (cfS a b < 0)) := by
        show _ = _
        unfold lessV
        rw [decide_eq_decide, cfS_lt]
        exact ⟨fun h => .inr ⟨e1, .inl h⟩, fun h => by
          rcases h with h | ⟨_, h | ⟨h, _⟩⟩
          · rw [e1] at h; exact absurd h (List.lt_irrefl _)
          · exact h
          · exact absurd h e2⟩
      clear e1 e2
      go_enter Try.func34, Try.ntmps34
      go_wp2_with (go_at_call 44; refine (spec_less _ _ (by omega) (by omega) _).mono ?_; rintro e w1 ⟨rfl, q, rfl⟩)
      go_ret
      exact ⟨ret1B HV.out, q, _, by rw [grown2]; rfl⟩
  · have t1' : (a.pod.toList == b.pod.toList) = false := by rw [ByteArray.toList_eq, ByteArray.toList_eq, beq_eq_false_iff_ne]; exact e1
    have HV : Hid (lessV a.pod b.pod = decide (cfS a b < 0)) := by
      show _ = _
      unfold lessV
      rw [decide_eq_decide, cfS_lt]
      exact ⟨fun h => .inl h, fun h => by
        rcases h with h | ⟨h, _⟩
        · exact h
        · exact absurd h e1⟩
    clear e1
    go_enter Try.func34, Try.ntmps34
    go_wp2_with (go_at_call 44; refine (spec_less _ _ (by omega) (by omega) _).mono ?_; rintro e w1 ⟨rfl, q, rfl⟩)
    go_ret
    exact ⟨ret1B HV.out, q, _, by rw [grown2]; rfl⟩

/-! ### The insertion, in plain mathematics. -/
section
variable {α : Type}
def stepI (lt : α → α → Bool) (x : α) (st : List α × Bool) (y : α) : List α × Bool := if !st.2 && lt x y then (st.1 ++ [x] ++ [y], true) else (st.1 ++ [y], st.2)
def insR (lt : α → α → Bool) (x : α) : List α → List α
  | [] => [x]
  | y :: r => if lt x y then x :: y :: r else y :: insR lt x r
theorem fold_put (lt : α → α → Bool) (x : α) : ∀ (r acc : List α), r.foldl (stepI lt x) (acc, true) = (acc ++ r, true)
  | [], acc => by simp
  | y :: r, acc => by
    rw [List.foldl_cons, show stepI lt x (acc, true) y = (acc ++ [y], true) from by simp [stepI], fold_put lt x r]
    simp
theorem fold_ins (lt : α → α → Bool) (x : α) : ∀ (r acc : List α), (let st := r.foldl (stepI lt x) (acc, false); if st.2 then st.1 else st.1 ++ [x]) = acc ++ insR lt x r
  | [], acc => by simp [insR]
  | y :: r, acc => by
    rw [List.foldl_cons]
    by_cases h : lt x y = true
    · rw [show stepI lt x (acc, false) y = (acc ++ [x] ++ [y], true) from by simp [stepI, h], fold_put lt x r]
      simp [insR, h]
    · have h' : lt x y = false := by simpa using h
      rw [show stepI lt x (acc, false) y = (acc ++ [y], false) from by simp [stepI, h'], fold_ins lt x r]
      simp [insR, h']
theorem fold_len (lt : α → α → Bool) (x : α) : ∀ (r : List α) (st : List α × Bool), (r.foldl (stepI lt x) st).1.length ≤ st.1.length + r.length + 1
  | [], st => by simp
  | y :: r, (acc, true) => by rw [fold_put]; simp
  | y :: r, (acc, false) => by
    rw [List.foldl_cons]
    by_cases h : lt x y = true
    · rw [show stepI lt x (acc, false) y = (acc ++ [x] ++ [y], true) from by simp [stepI, h], fold_put lt x r]
      simp; omega
    · have h' : lt x y = false := by simpa using h
      rw [show stepI lt x (acc, false) y = (acc ++ [y], false) from by simp [stepI, h']]
      have := fold_len lt x r (acc ++ [y], false)
      simp at this ⊢
      omega
theorem ins_len (lt : α → α → Bool) (x : α) : ∀ r : List α, (insR lt x r).length = r.length + 1
  | [] => rfl
  | y :: r => by
    unfold insR
    split
    · rfl
    · simp [ins_len lt x r]
theorem ins_perm (lt : α → α → Bool) (x : α) : ∀ r : List α, (insR lt x r).Perm (x :: r)
  | [] => List.Perm.refl _
  | y :: r => by
    unfold insR
    split
    · exact List.Perm.refl _
    · exact ((ins_perm lt x r).cons y).trans (List.Perm.swap x y r)
theorem ins_map {β : Type} (f : α → β) (lt : α → α → Bool) (lt' : β → β → Bool) (x : α) : ∀ (r : List α), (∀ y ∈ r, lt x y = lt' (f x) (f y)) → (insR lt x r).map f = insR lt' (f x) (r.map f)
  | [], _ => rfl
  | y :: r, h => by
    have h1 := h y (by simp)
    simp only [insR, List.map_cons]
    rw [← h1]
    split
    · rfl
    · rw [List.map_cons, ins_map f lt lt' x r fun z hz => h z (by simp [hz])]
end
/-- Sorted: no later one comes before an earlier one. -/
def Asc (T : Nat → Nat → Bool) (l : List Nat) : Prop := l.Pairwise fun i j => T j i = false
theorem ins_asc {T : Nat → Nat → Bool} (hT : SWO T) (x : Nat) : ∀ r : List Nat, Asc T r → Asc T (insR T x r)
  | [], _ => by unfold insR Asc; simp
  | y :: r, h => by
    unfold Asc at h ⊢
    rw [List.pairwise_cons] at h
    unfold insR
    split
    · rename_i hxy
      rw [List.pairwise_cons, List.pairwise_cons]
      refine ⟨fun z hz => ?_, h.1, h.2⟩
      rcases List.mem_cons.1 hz with rfl | hz
      · exact hT.asymmA hxy
      · exact hT.asymmA (lt_le hT hxy (h.1 z hz))
    · rename_i hxy
      rw [List.pairwise_cons]
      refine ⟨fun z hz => ?_, ins_asc hT x r h.2⟩
      rcases List.mem_cons.1 ((ins_perm T x r).mem_iff.1 hz) with rfl | hz
      · simpa using hxy
      · exact h.1 z hz

variable (xs : List Smp)
def ltS (a b : Smp) : Bool := decide (cfS a b < 0)
/-- The model's list behind k insertions, and the places of origin in it. -/
def specS : Nat → List Smp
  | 0 => []
  | k + 1 => insR ltS (xs.getD k default) (specS k)
def specI : Nat → List Nat
  | 0 => []
  | k + 1 => insR (TX xs) k (specI k)
theorem specI_perm : ∀ k, (specI xs k).Perm (List.range k)
  | 0 => List.Perm.refl _
  | k + 1 => by
    unfold specI
    rw [List.range_succ]
    exact (ins_perm _ _ _).trans (((specI_perm k).cons k).trans (List.perm_append_comm (l₁ := [k]) (l₂ := List.range k)))
theorem specI_asc : ∀ k, Asc (TX xs) (specI xs k)
  | 0 => List.Pairwise.nil
  | k + 1 => ins_asc (swoT xs) k _ (specI_asc k)
theorem specS_eq : ∀ k, specS xs k = (specI xs k).map fun i => xs.getD i default
  | 0 => rfl
  | k + 1 => by
    unfold specS specI
    rw [specS_eq k, ins_map (fun i => xs.getD i default) (TX xs) ltS k (specI xs k) fun y hy => by
      have hyk : y < k := by simpa using (specI_perm xs k).mem_iff.1 hy
      rw [← agree xs y k hyk]; rfl]
theorem specS_len : ∀ k, (specS xs k).length = k
  | 0 => rfl
  | k + 1 => by unfold specS; rw [ins_len, specS_len k]
theorem permIn_of {l : List Nat} {n : Nat} (h : l.Perm (List.range n)) : PermIn 0 n (Array.range n) l.toArray := by
  have hl : l.length = n := by rw [h.length_eq]; simp
  refine ⟨by simp [hl], fun i hi => ?_, ?_⟩
  · rw [getElem!_neg _ i (by simp; omega), getElem!_neg _ i (by simp; omega)]
  · have e1 : (l.toArray.extract 0 n).toList = l := by simp [← hl]
    have e2 : ((Array.range n).extract 0 n).toList = List.range n := by simp
    rw [e1, e2]; exact h
theorem sortedIn_of {T : Nat → Nat → Bool} {l : List Nat} {n : Nat} (h : Asc T l) (hl : l.length = n) : SortedIn T 0 n l.toArray := by
  intro i j _ hij hj
  have := List.pairwise_iff_getElem.1 h i j (by omega) (by omega) hij
  rw [getElem!_pos l.toArray i (by simp; omega), getElem!_pos l.toArray j (by simp; omega)]
  simpa using this
/-- The model sorts as sortS says. -/
theorem specS_sort : specS xs xs.length = sortS xs := by
  rw [specS_eq]
  unfold sortS
  rw [← sorted_ord xs (permIn_of (specI_perm xs xs.length)) (sortedIn_of (specI_asc xs xs.length) (by rw [(specI_perm xs xs.length).length_eq]; simp))]
end Go.Proofs.Ytahhemgmlmhbjaa.SortD
