/- PutSample of chapter 3, the model's side: where a key belongs in a store. -/
import Derived.Test.YtimpajhgplkpmaaPutD
namespace Go.Proofs.Ytimpajhgplkpmaa.PutM
open Go.RowKit Go.Sort Go.BigFrame
open Go.Proofs.Ytimpajhgplkpmaa.C1 Go.Proofs.Ytimpajhgplkpmaa.C2 Go.Proofs.Ytimpajhgplkpmaa.Ser Go.Proofs.Ytimpajhgplkpmaa.Ser2 Go.Proofs.Ytimpajhgplkpmaa.Key Go.Proofs.Ytimpajhgplkpmaa.Sto Go.Proofs.Ytimpajhgplkpmaa.Find Go.Proofs.Ytimpajhgplkpmaa.PutD
set_option linter.unusedVariables false
theorem key_tri (p m p2 m2 : ByteArray) : keyLt p m p2 m2 ∨ (p = p2 ∧ m = m2) ∨ keyLt p2 m2 p m := by
  have ext : ∀ a b : ByteArray, a.data.toList = b.data.toList → a = b := fun a b h => by
    cases a; cases b; congr 1; exact Array.toList_inj.1 h
  rcases Std.lt_trichotomy p.data.toList p2.data.toList with h | h | h
  · exact .inl (.inl h)
  · rcases Std.lt_trichotomy m.data.toList m2.data.toList with g | g | g
    · exact .inl (.inr ⟨h, g⟩)
    · exact .inr (.inl ⟨ext _ _ h, ext _ _ g⟩)
    · exact .inr (.inr (.inr ⟨h.symm, g⟩))
  · exact .inr (.inr (.inl h))
theorem place_match {xs : List Ser} (hs : Store xs) {p m : ByteArray} {i : Nat} (hi : i < xs.length) (h : matches_ p m xs[i] = true) : Find.Place xs p m i ∧ kc xs[i].pod xs[i].met p m = 0 := by
  obtain ⟨e1, e2⟩ := (matches_iff _ _ _).1 h
  refine ⟨⟨Nat.le_of_lt hi, fun j hj hlt => ?_, fun j hj hle hk => ?_⟩, (kc_zero _ _ _ _).2 ⟨e1, e2⟩⟩
  · have := ahead_le hs i j hi hlt
    unfold Ahead at this
    rw [e1, e2] at this
    exact this
  · rcases Nat.eq_or_lt_of_le hle with rfl | hlt
    · rw [e1, e2] at hk
      exact key_irr _ _ hk
    · have := ahead_le hs j i hj hlt
      unfold Ahead at this
      rw [e1, e2] at this
      exact key_irr _ _ (key_trans this hk)
theorem not_found {xs : List Ser} {p m : ByteArray} (h : xs.find? (matches_ p m) = none) (j : Nat) (hj : j < xs.length) : matches_ p m xs[j] = false := by
  have := List.find?_eq_none.1 h xs[j] (List.getElem_mem hj)
  simpa using this
theorem none_kc {xs : List Ser} {p m : ByteArray} (h : xs.find? (matches_ p m) = none) (i : Nat) : ¬ ∃ hi : i < xs.length, kc xs[i].pod xs[i].met p m = 0 := by
  rintro ⟨hi, hk⟩
  have h1 := not_found h i hi
  rw [(matches_iff _ _ _).2 ((kc_zero _ _ _ _).1 hk)] at h1
  cases h1
theorem before_no {xs : List Ser} {p m : ByteArray} (h : xs.find? (matches_ p m) = none) (j : Nat) (hj : j < xs.length) (hn : ¬ keyLt p m xs[j].pod xs[j].met) : keyLt xs[j].pod xs[j].met p m := by
  rcases key_tri xs[j].pod xs[j].met p m with k | ⟨k1, k2⟩ | k
  · exact k
  · have h1 := not_found h j hj
    rw [(matches_iff _ _ _).2 ⟨k1, k2⟩] at h1
    cases h1
  · exact absurd k hn
theorem place_at {xs : List Ser} (hs : Store xs) {p m : ByteArray} (h : xs.find? (matches_ p m) = none) (k : Nat) (hk : k < xs.length) (hP : ∀ (j : Nat) (hj : j < xs.length), j < k → ¬ keyLt p m xs[j].pod xs[j].met) (hl : keyLt p m xs[k].pod xs[k].met) : Find.Place xs p m k := by
  refine ⟨Nat.le_of_lt hk, fun j hj hlt => before_no h j hj (hP j hj hlt), fun j hj hle hc => ?_⟩
  rcases Nat.eq_or_lt_of_le hle with rfl | hlt
  · exact key_irr _ _ (key_trans hl hc)
  · have := ahead_le hs j k hj hlt
    unfold Ahead at this
    exact key_irr _ _ (key_trans (key_trans hl this) hc)
theorem place_end {xs : List Ser} {p m : ByteArray} (h : xs.find? (matches_ p m) = none) (hP : ∀ (j : Nat) (hj : j < xs.length), ¬ keyLt p m xs[j].pod xs[j].met) : Find.Place xs p m xs.length :=
  ⟨Nat.le_refl _, fun j hj _ => before_no h j hj (hP j hj), fun j hj hle _ => by omega⟩
theorem place_ex {xs : List Ser} (hs : Store xs) {p m : ByteArray} (h : xs.find? (matches_ p m) = none) : ∃ i, Find.Place xs p m i := by
  have key : ∀ n, n ≤ xs.length → (∀ (j : Nat) (hj : j < xs.length), j < n → ¬ keyLt p m xs[j].pod xs[j].met) ∨ ∃ i, Find.Place xs p m i := by
    intro n
    induction n with
    | zero => exact fun _ => .inl fun j hj hlt => by omega
    | succ n ih =>
      intro hn
      rcases ih (by omega) with hP | hP
      · by_cases hl : keyLt p m xs[n].pod xs[n].met
        · exact .inr ⟨n, place_at hs h n (by omega) hP hl⟩
        · refine .inl fun j hj hlt => ?_
          by_cases e : j = n
          · subst e; exact hl
          · exact hP j hj (by omega)
      · exact .inr hP
  rcases key xs.length (Nat.le_refl _) with hP | hP
  · exact ⟨_, place_end h fun j hj => hP j hj hj⟩
  · exact hP
/-- The rows so far while the new list is built: one stands in it, or not yet. -/
def Mid (xs : List Ser) (p m : ByteArray) (ms : List Sv) (one : Sv) (k : Nat) (bo : Bool) (rs : List Sv) : Prop :=
  (bo = false ∧ rs = ms.take k ∧ ∀ (j : Nat) (hj : j < xs.length), j < k → ¬ keyLt p m xs[j].pod xs[j].met) ∨
  (bo = true ∧ ∃ k0, k0 < k ∧ k0 < xs.length ∧ Find.Place xs p m k0 ∧ rs = ms.take k0 ++ one :: (ms.take k).drop k0)
theorem mid_start (xs : List Ser) (p m : ByteArray) (ms : List Sv) (one : Sv) : Mid xs p m ms one 0 false [] := .inl ⟨rfl, by simp, fun j hj h => by omega⟩
theorem mid_no {xs : List Ser} {p m : ByteArray} {ms : List Sv} {one : Sv} {k : Nat} {rs : List Sv} (h : Mid xs p m ms one k false rs) (hk : k < ms.length) (hx : k < xs.length) (hn : ¬ keyLt p m xs[k].pod xs[k].met) : Mid xs p m ms one (k + 1) false (rs ++ [ms[k]]) := by
  rcases h with ⟨_, h1, h2⟩ | ⟨h, _⟩
  · refine .inl ⟨rfl, by rw [List.take_succ_eq_append_getElem hk, h1], fun j hj hlt => ?_⟩
    by_cases e : j = k
    · subst e; exact hn
    · exact h2 j hj (by omega)
  · cases h
theorem mid_put {xs : List Ser} {p m : ByteArray} {ms : List Sv} {one : Sv} {k : Nat} {rs : List Sv} (hs : Store xs) (hf : xs.find? (matches_ p m) = none) (h : Mid xs p m ms one k false rs) (hk : k < ms.length) (hx : k < xs.length) (hl : keyLt p m xs[k].pod xs[k].met) : Mid xs p m ms one (k + 1) true ((rs ++ [one]) ++ [ms[k]]) := by
  rcases h with ⟨_, h1, h2⟩ | ⟨h, _⟩
  · refine .inr ⟨rfl, k, by omega, hx, place_at hs hf k hx h2 hl, ?_⟩
    have e : (ms.take (k + 1)).drop k = [ms[k]] := by
      rw [List.take_succ_eq_append_getElem hk, List.drop_append_of_le_length (by simp; omega), List.drop_eq_nil_of_le (by simp; omega), List.nil_append]
    rw [e, h1]
    simp
  · cases h
theorem mid_on {xs : List Ser} {p m : ByteArray} {ms : List Sv} {one : Sv} {k : Nat} {rs : List Sv} (h : Mid xs p m ms one k true rs) (hk : k < ms.length) : Mid xs p m ms one (k + 1) true (rs ++ [ms[k]]) := by
  rcases h with ⟨h, _⟩ | ⟨_, k0, h1, h2, h3, h4⟩
  · cases h
  · refine .inr ⟨rfl, k0, by omega, h2, h3, ?_⟩
    have e : (ms.take (k + 1)).drop k0 = (ms.take k).drop k0 ++ [ms[k]] := by
      rw [List.take_succ_eq_append_getElem hk, List.drop_append_of_le_length (by simp; omega)]
    rw [e, h4]
    simp
theorem mid_len {xs : List Ser} {p m : ByteArray} {ms : List Sv} {one : Sv} {k : Nat} {bo : Bool} {rs : List Sv} (h : Mid xs p m ms one k bo rs) : rs.length ≤ k + 1 := by
  rcases h with ⟨_, h, _⟩ | ⟨_, k0, h1, _, _, h⟩
  · rw [h]; simp; omega
  · rw [h]; simp; omega
theorem mid_mem {xs : List Ser} {p m : ByteArray} {ms : List Sv} {one : Sv} {k : Nat} {bo : Bool} {rs : List Sv} (h : Mid xs p m ms one k bo rs) : ∀ l ∈ rs, l ∈ ms ∨ l = one := by
  intro l hl
  rcases h with ⟨_, h, _⟩ | ⟨_, k0, h1, _, _, h⟩
  · rw [h] at hl; exact .inl (List.mem_of_mem_take hl)
  · rw [h] at hl
    rcases List.mem_append.1 hl with hl | hl
    · exact .inl (List.mem_of_mem_take hl)
    · rcases List.mem_cons.1 hl with hl | hl
      · exact .inr hl
      · exact .inl (List.mem_of_mem_take (List.mem_of_mem_drop hl))
theorem mid_pos {xs : List Ser} {p m : ByteArray} {ms : List Sv} {one : Sv} {k : Nat} {rs : List Sv} (h : Mid xs p m ms one k true rs) : 0 < rs.length := by
  rcases h with ⟨h, _⟩ | ⟨_, k0, _, _, _, h⟩
  · cases h
  · rw [h]; simp; omega
theorem mid_end_yes {xs : List Ser} {s : Smp} {ms : List Sv} {one : Sv} {rs : List Sv} (h1 : storeV xs = true) (h2 : okV s = true) (hf : xs.find? (matches_ s.pod s.met) = none) (hl : xs.length ≠ 24) (hms : ms.map Sv.s = xs) (ho : one.s = serOf s) (h : Mid xs s.pod s.met ms one ms.length true rs) : PutIs xs s (rs.map Sv.s) 0 := by
  rcases h with ⟨h, _⟩ | ⟨_, k0, _, _, h3, h4⟩
  · cases h
  · have e : rs.map Sv.s = xs.take k0 ++ serOf s :: xs.drop k0 := by
      rw [h4, List.take_of_length_le (Nat.le_refl _), List.map_append, List.map_cons, List.map_take, List.map_drop, hms, ho]
    rw [e]
    exact .new h1 h2 k0 h3 (none_kc hf k0) hl
theorem mid_end_no {xs : List Ser} {s : Smp} {ms : List Sv} {one : Sv} {rs : List Sv} (h1 : storeV xs = true) (h2 : okV s = true) (hf : xs.find? (matches_ s.pod s.met) = none) (hl : xs.length ≠ 24) (hms : ms.map Sv.s = xs) (ho : one.s = serOf s) (h : Mid xs s.pod s.met ms one ms.length false rs) : PutIs xs s ((rs ++ [one]).map Sv.s) 0 := by
  rcases h with ⟨_, h3, h4⟩ | ⟨h, _⟩
  · have hlen : ms.length = xs.length := by rw [← hms]; simp
    have hP := place_end hf (fun j hj => h4 j hj (by omega))
    have e : (rs ++ [one]).map Sv.s = xs.take xs.length ++ serOf s :: xs.drop xs.length := by
      rw [h3, List.take_of_length_le (Nat.le_refl _), List.map_append, List.map_cons, List.map_nil, hms, ho]
      simp
    rw [e]
    exact .new h1 h2 xs.length hP (none_kc hf _) hl
  · cases h
end Go.Proofs.Ytimpajhgplkpmaa.PutM
