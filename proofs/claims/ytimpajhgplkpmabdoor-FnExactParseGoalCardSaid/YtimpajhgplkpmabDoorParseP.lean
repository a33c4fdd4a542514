/- ParseSample, plain mathematics: the line of a valid sample comes apart into its four words, and only it does. -/
import Derived.Test.YtimpajhgplkpmabDoorRead
import Derived.Test.YtimpajhgplkpmabDoorMilliP
namespace Go.Proofs.YtimpajhgplkpmabDoor.ParseP
open Go.RowKit
open Go.Proofs.YtimpajhgplkpmabDoor.C2
open Go.Proofs.YtimpajhgplkpmabDoor.Milli
open Go.Proofs.YtimpajhgplkpmabDoor.MilliP
open Go.Proofs.YtimpajhgplkpmabDoor.Line
open Go.Proofs.YtimpajhgplkpmabDoor.Split
open Go.Proofs.YtimpajhgplkpmabDoor.Read
set_option linter.unusedVariables false

theorem spl_word {c : UInt8} {l pre p r : List UInt8} {out : List (List UInt8)} (hl : l = pre ++ (p ++ c :: r)) (hs : spl c l pre.length = (out, pre.length)) (hp : c ∉ p) : spl c l (pre ++ (p ++ [c])).length = (out ++ [p], (pre ++ (p ++ [c])).length) := by
  have hj : spl c l (pre.length + p.length) = spl c l pre.length := by
    refine spl_jump _ (by rw [hl]; simp) fun j h1 h2 e => ?_
    rw [hl, List.getElem?_append_right h1, List.getElem?_append_left (by omega)] at e
    exact hp (List.mem_of_getElem? e)
  have hc : l[pre.length + p.length]? = some c := by
    rw [hl, List.getElem?_append_right (by omega), List.getElem?_append_right (by omega), show pre.length + p.length - pre.length - p.length = 0 by omega]
    rfl
  have hlen : (pre ++ (p ++ [c])).length = pre.length + p.length + 1 := by simp; omega
  rw [hlen, spl_yes (.inr hc), hj, hs]
  simp only
  rw [show pre.length + p.length - pre.length = p.length by omega, hl, List.drop_left, List.take_left]
theorem parts_last {c : UInt8} {l pre p : List UInt8} {out : List (List UInt8)} (hl : l = pre ++ p) (hs : spl c l pre.length = (out, pre.length)) (hp : c ∉ p) : parts c l = out ++ [p] := by
  have hlen : l.length = pre.length + p.length := by rw [hl]; simp
  have hj : spl c l (pre.length + p.length) = spl c l pre.length := by
    refine spl_jump _ (by omega) fun j h1 h2 e => ?_
    rw [hl, List.getElem?_append_right h1] at e
    exact hp (List.mem_of_getElem? e)
  rw [cut_last, hlen, hj, hs]
  simp only
  rw [show pre.length + p.length - pre.length = p.length by omega, hl, List.drop_left, List.take_length]
theorem parts_four {c : UInt8} {a b d e : List UInt8} (ha : c ∉ a) (hb : c ∉ b) (hd : c ∉ d) (he : c ∉ e) : parts c (a ++ c :: (b ++ c :: (d ++ c :: e))) = [a, b, d, e] := by
  obtain ⟨l, hl⟩ : ∃ l, a ++ c :: (b ++ c :: (d ++ c :: e)) = l := ⟨_, rfl⟩
  rw [hl]
  have s0 : spl c l ([] : List UInt8).length = ([], ([] : List UInt8).length) := rfl
  have s1 := spl_word (pre := []) (p := a) (r := b ++ c :: (d ++ c :: e)) (by rw [← hl]; rfl) s0 ha
  have s2 := spl_word (pre := [] ++ (a ++ [c])) (p := b) (r := d ++ c :: e) (by rw [← hl]; simp) s1 hb
  have s3 := spl_word (pre := [] ++ (a ++ [c]) ++ (b ++ [c])) (p := d) (r := e) (by rw [← hl]; simp) s2 hd
  have s4 := parts_last (p := e) (by rw [← hl]; simp) s3 he
  rw [s4]; rfl
/-- The parts, each with the separator behind it. -/
def joinT (c : UInt8) (ls : List (List UInt8)) : List UInt8 := ls.flatMap fun p => p ++ [c]
theorem spl_join (c : UInt8) (l : List UInt8) : ∀ i, i ≤ l.length → joinT c (spl c l i).1 = l.take (spl c l i).2
  | 0, _ => by simp [spl, joinT]
  | i + 1, h => by
    have ih := spl_join c l i (by omega)
    have hle := (spl_le c l i).1
    by_cases hc : l[i]? = some c
    · rw [spl_yes (.inr hc)]
      simp only
      unfold joinT at ih ⊢
      rw [List.flatMap_append, ih]
      simp only [List.flatMap_cons, List.flatMap_nil, List.append_nil]
      have hi : i < l.length := by omega
      have hci : l[i] = c := by
        rw [List.getElem?_eq_getElem hi] at hc
        cases hc; rfl
      rw [List.take_succ_eq_append_getElem hi, hci, ← List.append_assoc]
      congr 1
      obtain ⟨a, ha⟩ : ∃ a, (spl c l i).2 = a := ⟨_, rfl⟩
      rw [ha] at hle ⊢
      rw [← List.take_add, show a + (i - a) = i by omega]
    · rw [spl_no (by omega) hc]
      exact ih
theorem parts_join (c : UInt8) (l : List UInt8) {a b d e : List UInt8} (h : parts c l = [a, b, d, e]) : l = a ++ c :: (b ++ c :: (d ++ c :: e)) := by
  rw [cut_last] at h
  have hj := spl_join c l l.length (Nat.le_refl _)
  have hle := (spl_le c l l.length).1
  obtain ⟨o, ho⟩ : ∃ o, (spl c l l.length).1 = o := ⟨_, rfl⟩
  obtain ⟨k, hk⟩ : ∃ k, (spl c l l.length).2 = k := ⟨_, rfl⟩
  rw [ho, hk] at h hj
  rw [hk] at hle
  have h2 : o = [a, b, d] ∧ (l.drop k).take (l.length - k) = e := by
    have : o ++ [(l.drop k).take (l.length - k)] = [a, b, d] ++ [e] := by rw [h]; rfl
    have := List.append_inj' this rfl
    exact ⟨this.1, by simpa using this.2⟩
  obtain ⟨rfl, h3⟩ := h2
  rw [List.take_of_length_le (by simp)] at h3
  have h4 : l = l.take k ++ l.drop k := (List.take_append_drop k l).symm
  rw [← hj, h3] at h4
  rw [h4]
  simp [joinT]
theorem dig_no {l : List UInt8} (h : ∀ c ∈ l, isDig c) : (32 : UInt8) ∉ l := fun hm => by
  have := h 32 hm
  unfold isDig at this
  simp at this
theorem name_no {l : List UInt8} (h : nameV l = true) : (32 : UInt8) ∉ l := fun hm => by
  unfold nameV at h
  rw [Bool.and_eq_true] at h
  have := List.all_eq_true.1 h.2 32 hm
  revert this
  decide

theorem milli_no {v : Int} (h : isVal v = true) : (32 : UInt8) ∉ milli v := by
  obtain ⟨s, D, T, e, hs, hD, _, _, _, hT⟩ := milli_form h
  rw [e]
  intro hm
  rw [List.mem_append, List.mem_append] at hm
  rcases hm with hm | hm | hm
  · rcases hs with ⟨_, rfl⟩ | ⟨_, rfl⟩
    · simp at hm
    · simp at hm
  · exact dig_no hD hm
  · rcases hT with ⟨rfl, _⟩ | ⟨F, rfl, _, _, hF, _⟩
    · simp at hm
    · rcases List.mem_cons.1 hm with hm | hm
      · simp at hm
      · exact dig_no hF hm
theorem val_of {v : Int} (h : sizeV v = true) : isVal v = true := by
  have := size_of h
  unfold isVal
  simp
  omega
theorem line_parts {s : Smp} (h : okV s = true) : parts 32 (lineL s) = [s.pod.data.toList, s.met.data.toList, milli s.val, Lib.itoa s.tick] := by
  obtain ⟨h1, h2, h3, h4⟩ := ok_parts h
  obtain ⟨t1, t2⟩ := size_of h4
  unfold lineL
  exact parts_four (name_no h1) (name_no h2) (milli_no (val_of h3)) (dig_no (itoa_tick t1 t2).1)
theorem milli_ne {v : Int} (h : isVal v = true) : milli v ≠ [] := by
  obtain ⟨_, _, _, _, h, _⟩ := scan_milli h
  exact h
theorem words_eq {s : Smp} (h : okV s = true) {a b d e : List UInt8} (hl : parts 32 (lineL s) = [a, b, d, e]) : s.pod = mk a ∧ s.met = mk b ∧ pmB d = true ∧ pmV d = s.val ∧ Lib.itoa s.tick = e ∧ 0 ≤ s.tick ∧ s.tick ≤ 1000000000 := by
  obtain ⟨h1, h2, h3, h4⟩ := ok_parts h
  rw [line_parts h] at hl
  simp only [List.cons.injEq, and_true] at hl
  obtain ⟨e1, e2, e3, e4⟩ := hl
  obtain ⟨g1, g2⟩ := pm_of e3 (by rw [← e3]; exact milli_ne (val_of h3))
  obtain ⟨t1, t2⟩ := size_of h4
  exact ⟨by rw [← e1]; rfl, by rw [← e2]; rfl, g1, g2, e4, t1, t2⟩
theorem tick_inj {x y : Int} (hx0 : 0 ≤ x) (hx1 : x ≤ 1000000000) (hy0 : 0 ≤ y) (hy1 : y ≤ 1000000000) (e : Lib.itoa x = Lib.itoa y) : x = y := by
  have h1 := itoa_inj_tick hx0 hx1 e
  have h2 := itoa_inj_tick hy0 hy1 rfl
  omega
theorem smp_ext {s t : Smp} (h1 : s.pod = t.pod) (h2 : s.met = t.met) (h3 : s.val = t.val) (h4 : s.tick = t.tick) : s = t := by
  cases s; cases t
  simp only at h1 h2 h3 h4
  rw [h1, h2, h3, h4]
theorem line_inj {s t : Smp} (hs : okV s = true) (ht : okV t = true) (e : lineL s = lineL t) : s = t := by
  have hp := line_parts ht
  rw [← e] at hp
  obtain ⟨e1, e2, _, e3, e4, t1, t2⟩ := words_eq hs hp
  have hq := line_parts ht
  obtain ⟨f1, f2, _, f3, f4, u1, u2⟩ := words_eq ht hq
  have e5 := tick_inj t1 t2 u1 u2 e4
  exact smp_ext (e1.trans f1.symm) (e2.trans f2.symm) (e3.symm.trans f3) e5
/-- What ParseSample says of the line l. -/
structure Picks (l : List UInt8) (s : Smp) (ok : Bool) : Prop where
  yes : ok = true → okV s = true ∧ lineL s = l
  no : ok = false → s = ⟨⟨#[]⟩, ⟨#[]⟩, 0, 0⟩ ∧ ∀ t, okV t = true → lineL t ≠ l
theorem picks_one {l : List UInt8} {s t : Smp} {a b : Bool} (h : Picks l s a) (k : Picks l t b) : s = t ∧ a = b := by
  cases a <;> cases b
  · exact ⟨(h.no rfl).1.trans (k.no rfl).1.symm, rfl⟩
  · obtain ⟨k1, k2⟩ := k.yes rfl
    exact absurd k2 ((h.no rfl).2 t k1)
  · obtain ⟨k1, k2⟩ := h.yes rfl
    exact absurd k2 ((k.no rfl).2 s k1)
  · obtain ⟨h1, h2⟩ := h.yes rfl
    obtain ⟨k1, k2⟩ := k.yes rfl
    exact ⟨line_inj h1 k1 (h2.trans k2.symm), rfl⟩
def Never (l : List UInt8) : Prop := ∀ t, okV t = true → lineL t ≠ l
theorem picks_no {l : List UInt8} (h : Never l) : Picks l ⟨⟨#[]⟩, ⟨#[]⟩, 0, 0⟩ false := ⟨fun e => by simp at e, fun _ => ⟨rfl, h⟩⟩
theorem picks_yes {l : List UInt8} {s : Smp} (h : okV s = true) (e : lineL s = l) : Picks l s true := ⟨fun _ => ⟨h, e⟩, fun e => by simp at e⟩
theorem never_four {l : List UInt8} (h : (parts 32 l).length ≠ 4) : Never l := fun t ht e => by
  rw [← e, line_parts ht] at h
  exact h rfl
theorem never_long {l : List UInt8} (h : 60 < l.length) : Never l := fun t ht e => by
  obtain ⟨h1, h2, h3, h4⟩ := ok_parts ht
  have l1 := name_len h1
  have l2 := name_len h2
  obtain ⟨_, _, _, l3, _⟩ := scan_milli (val_of h3)
  obtain ⟨t1, t2⟩ := size_of h4
  have l4 := (itoa_tick t1 t2).2.2.2
  rw [← e] at h
  unfold lineL at h
  simp only [List.length_append, List.length_cons] at h
  omega
theorem never_pm {l a b d e : List UInt8} (hp : parts 32 l = [a, b, d, e]) (h : pmB d = false) : Never l := fun t ht el => by
  subst el
  have := (words_eq ht hp).2.2.1
  rw [h] at this
  cases this
theorem never_read {l a b d e : List UInt8} (hp : parts 32 l = [a, b, d, e]) {x : Int} (h : Reads e x false) : Never l := fun t ht el => by
  subst el
  obtain ⟨_, _, _, _, e4, t1, t2⟩ := words_eq ht hp
  have := (h.all t.tick t1 t2 e4).2
  cases this
theorem never_ok {l a b d e : List UInt8} (hp : parts 32 l = [a, b, d, e]) {x : Int} {bx : Bool} (h : Reads e x bx) (ho : okV ⟨mk a, mk b, pmV d, x⟩ = false) : Never l := fun t ht el => by
  subst el
  obtain ⟨e1, e2, _, e3, e4, t1, t2⟩ := words_eq ht hp
  have hx := (h.all t.tick t1 t2 e4).1
  have : t = ⟨mk a, mk b, pmV d, x⟩ := by
    cases t
    simp only at *
    rw [e1, e2, e3, hx]
  rw [← this, ht] at ho
  cases ho
theorem pm_back {d : List UInt8} (h : pmB d = true) : milli (pmV d) = d := by
  have h2 : d ≠ [] ∧ milli (fin d) = d := by unfold pmB at h; simpa using h
  unfold pmV
  rw [if_pos h]
  exact h2.2
theorem line_of {l a b d e : List UInt8} (hp : parts 32 l = [a, b, d, e]) (hd : pmB d = true) {x : Int} (he : Lib.itoa x = e) : lineL ⟨mk a, mk b, pmV d, x⟩ = l := by
  rw [parts_join 32 l hp]
  unfold lineL
  simp only
  rw [pm_back hd, he]
  rfl

theorem fold_ge : ∀ (l : List UInt8) (x : Nat), x ≤ foldD x l
  | [], x => Nat.le_refl _
  | c :: l, x => by rw [foldD_cons]; exact Nat.le_trans (by omega) (fold_ge l _)
theorem parse10 : ∀ (l : List UInt8) (x : Nat), (∀ c ∈ l, isDig c) → foldD x l < 1844674407370955162 → Lib.parseUint10 x l = .ok (foldD x l)
  | [], x, _, _ => rfl
  | c :: l, x, hd, h => by
    have hc := hd c (by simp)
    unfold isDig at hc
    rw [foldD_cons] at h
    have h2 := fold_ge l (10 * x + (c.toNat - 48))
    rw [Lib.parseUint10, if_pos hc, if_neg (by omega), if_neg (by omega), foldD_cons, Nat.mul_comm x 10]
    exact parse10 l _ (fun d h => hd d (List.mem_cons_of_mem _ h)) h
theorem atoi_tick {v : Int} (h0 : 0 ≤ v) (h1 : v ≤ 1000000000) : Lib.atoiAll (Lib.itoa v) = .ok v := by
  obtain ⟨d1, d2, d3, _⟩ := itoa_tick h0 h1
  obtain ⟨l, hl⟩ : ∃ l, Lib.itoa v = l := ⟨_, rfl⟩
  rw [hl] at d1 d2 d3 ⊢
  cases l with
  | nil => simp at d3
  | cons c r =>
    have hc := d1 c (by simp)
    unfold isDig at hc
    have hp : Lib.parseMag (c :: r) = .ok v.toNat := by
      unfold Lib.parseMag
      rw [if_neg (by simp), parse10 _ _ d1 (by omega), d2]
    unfold Lib.atoiAll
    simp only
    rw [if_neg (by omega), hp]
    simp only
    rw [if_neg (by omega), if_neg (by omega), if_neg (by omega)]
    congr 1
    omega
theorem atoi_range {l : List UInt8} {v : Int} (h : Lib.atoiAll l = .ok v) : -9223372036854775808 ≤ v ∧ v ≤ 9223372036854775807 := by
  unfold Lib.atoiAll at h
  split at h
  · cases h
  · simp only at h
    split at h
    · cases h
    · cases h
    · split at h
      · cases h
      · split at h
        · cases h
        · injection h with h
          split at h <;> omega
theorem parts_nil : parts 32 [] = [[]] := by decide
theorem never_atoi {l a b d e : List UInt8} (hp : parts 32 l = [a, b, d, e]) (h : ∀ y, Lib.atoiAll e ≠ .ok y) : Never l := fun t ht el => by
  subst el
  obtain ⟨_, _, _, _, e4, t1, t2⟩ := words_eq ht hp
  exact h t.tick (by rw [← e4]; exact atoi_tick t1 t2)
theorem picks_line {l a b d e : List UInt8} (hp : parts 32 l = [a, b, d, e]) {y : Int} (h : lineV ⟨mk a, mk b, pmV d, y⟩ = l) : Picks l ⟨mk a, mk b, pmV d, y⟩ true := by
  cases ho : okV ⟨mk a, mk b, pmV d, y⟩
  · unfold lineV at h
    rw [ho] at h
    subst h
    have := hp.symm.trans parts_nil
    cases this
  · unfold lineV at h
    rw [if_pos ho] at h
    exact picks_yes ho h
theorem never_line {l a b d e : List UInt8} (hp : parts 32 l = [a, b, d, e]) {y : Int} (hy : Lib.atoiAll e = .ok y) (h : lineV ⟨mk a, mk b, pmV d, y⟩ ≠ l) : Never l := fun t ht el => by
  subst el
  obtain ⟨e1, e2, _, e3, e4, t1, t2⟩ := words_eq ht hp
  rw [← e4, atoi_tick t1 t2] at hy
  injection hy with hy
  apply h
  rw [show (⟨mk a, mk b, pmV d, y⟩ : Smp) = t from smp_ext e1.symm e2.symm e3 hy.symm]
  unfold lineV
  rw [if_pos ht]
end Go.Proofs.YtimpajhgplkpmabDoor.ParseP
