/- CombineWants: both sides; slices.Max, slices.Contains at ints. -/
import Derived.Test.YtimpajhgplkpmaaWant
import Derived.Test.YtimpajhgplkpmaaC1L
import Derived.Test.YtimpajhgplkpmaaInts
namespace Go.Proofs.Ytimpajhgplkpmaa.Comb
open Go.RowKit
open Go.Proofs.Ytimpajhgplkpmaa.C1
open Go.Proofs.Ytimpajhgplkpmaa.Ints
open Go.Proofs.Ytimpajhgplkpmaa.C1L
open Go.Proofs.Ytimpajhgplkpmaa.Gl
open Go.Proofs.Ytimpajhgplkpmaa.Want
set_option linter.unusedVariables false

/-! ### Plain mathematics. -/
def wOk (x : Int) : Bool := inB x (-1) 1000
def wsOk (xs : List Int) : Bool := decide (1 ≤ xs.length ∧ xs.length ≤ 300) && xs.all wOk
def mxS (m x : Int) : Int := if m < x then x else m
def mxL (xs : List Int) : Int := xs.foldl mxS (-1)
def has (xs : List Int) (v : Int) : Bool := xs.any (· == v)
def combV (c : Int) (xs : List Int) : Int := if (inB c 0 1000 && wsOk xs) = true then (if mxL xs < 0 ∨ (has xs (-1) = true ∧ mxL xs < c) then c else mxL xs) else -1
theorem comb_no {c : Int} {xs : List Int} (h : inB c 0 1000 = false ∨ wsOk xs = false) : combV c xs = -1 := by
  unfold combV
  rw [if_neg]
  rcases h with h | h <;> rw [h] <;> simp
theorem comb_yes {c : Int} {xs : List Int} (h1 : inB c 0 1000 = true) (h2 : wsOk xs = true) : combV c xs = (if mxL xs < 0 ∨ (has xs (-1) = true ∧ mxL xs < c) then c else mxL xs) := by
  unfold combV
  rw [h1, h2]
  rfl
theorem ws_len {xs : List Int} (h : ¬ (1 ≤ xs.length ∧ xs.length ≤ 300)) : wsOk xs = false := by
  unfold wsOk
  rw [decide_eq_false h]
  rfl
theorem ws_no {xs : List Int} (k : Nat) (hk : k < xs.length) (h : wOk xs[k] = false) : wsOk xs = false := by
  unfold wsOk
  have : xs.all wOk = false := by
    rw [Bool.eq_false_iff]
    intro ha
    have := List.all_eq_true.1 ha _ (List.getElem_mem hk)
    rw [h] at this
    cases this
  rw [this, Bool.and_false]
theorem ws_yes {xs : List Int} (h0 : 1 ≤ xs.length ∧ xs.length ≤ 300) (h : ∀ k (hk : k < xs.length), wOk xs[k] = true) : wsOk xs = true := by
  unfold wsOk
  rw [decide_eq_true h0, Bool.true_and, List.all_eq_true]
  intro x hx
  obtain ⟨k, hk, rfl⟩ := List.getElem_of_mem hx
  exact h k hk
theorem ws_parts {xs : List Int} (h : wsOk xs = true) : (1 ≤ xs.length ∧ xs.length ≤ 300) ∧ ∀ k (hk : k < xs.length), -1 ≤ xs[k] ∧ xs[k] ≤ 1000 := by
  unfold wsOk at h
  rw [Bool.and_eq_true, decide_eq_true_eq, List.all_eq_true] at h
  refine ⟨h.1, fun k hk => ?_⟩
  have := h.2 _ (List.getElem_mem hk)
  unfold wOk at this
  exact in_iff.1 this
theorem mx_snoc (xs : List Int) (k : Nat) (h : k < xs.length) : mxL (xs.take (k + 1)) = mxS (mxL (xs.take k)) xs[k] := by
  unfold mxL
  rw [List.take_succ_eq_append_getElem h, List.foldl_append]
  rfl
theorem mx_low : ∀ (xs : List Int) (m : Int), -1 ≤ m → -1 ≤ xs.foldl mxS m
  | [], m, h => h
  | x :: r, m, h => by
    rw [List.foldl_cons]
    refine mx_low r _ ?_
    unfold mxS
    split <;> omega
theorem mx_high : ∀ (xs : List Int) (m : Int), m ≤ 1000 → (∀ x ∈ xs, x ≤ 1000) → xs.foldl mxS m ≤ 1000
  | [], m, h, _ => h
  | x :: r, m, h, hx => by
    rw [List.foldl_cons]
    refine mx_high r _ ?_ fun y hy => hx y (List.mem_cons_of_mem _ hy)
    unfold mxS
    have := hx x (List.mem_cons_self ..)
    split <;> omega
theorem mx_ge : ∀ (xs : List Int) (m : Int), m ≤ xs.foldl mxS m ∧ ∀ x ∈ xs, x ≤ xs.foldl mxS m
  | [], m => ⟨Int.le_refl _, fun x h => absurd h (by simp)⟩
  | x :: r, m => by
    rw [List.foldl_cons]
    obtain ⟨h1, h2⟩ := mx_ge r (mxS m x)
    have h3 : m ≤ mxS m x ∧ x ≤ mxS m x := by unfold mxS; split <;> omega
    refine ⟨by omega, fun y hy => ?_⟩
    rcases List.mem_cons.1 hy with rfl | hy
    · omega
    · exact h2 y hy
theorem has_no {xs : List Int} {v : Int} (h : ∀ k (hk : k < xs.length), ¬ xs[k] = v) : has xs v = false := by
  unfold has
  rw [Bool.eq_false_iff]
  intro ha
  obtain ⟨x, hx, e⟩ := List.any_eq_true.1 ha
  obtain ⟨k, hk, rfl⟩ := List.getElem_of_mem hx
  exact h k hk (by simpa using e)
theorem has_yes {xs : List Int} {v : Int} (k : Nat) (hk : k < xs.length) (h : xs[k] = v) : has xs v = true := by
  unfold has
  rw [List.any_eq_true]
  exact ⟨_, List.getElem_mem hk, by simpa using h⟩
theorem has_snoc (xs : List Int) (v : Int) (k : Nat) (h : k < xs.length) : has (xs.take (k + 1)) v = (has (xs.take k) v || xs[k] == v) := by
  unfold has
  rw [List.take_succ_eq_append_getElem h, List.any_append]
  simp
/-- Without an unknown one the greatest is no less than 0. -/
theorem mx_known {xs : List Int} (h : wsOk xs = true) (hn : has xs (-1) = false) : 0 ≤ mxL xs := by
  obtain ⟨⟨h1, -⟩, h2⟩ := ws_parts h
  have h3 := h2 0 (by omega)
  have h4 : ¬ xs[0] = -1 := fun e => by rw [has_yes 0 (by omega) e] at hn; cases hn
  have h5 := (mx_ge xs (-1)).2 _ (List.getElem_mem (show 0 < xs.length by omega))
  unfold mxL
  omega
/-! ### The program. -/
theorem wants_ok (xs : List Int) (a : Option Addr) (cap : Nat) (w : World) (h : Ints w a xs) (hm : xs.length ≤ 35184372088832) :
    Calls Try.prog 63 #[.slice a xs.length cap] w fun e w' => e = .returned (.bool (wsOk xs)) ∧ w = w' := by
  obtain ⟨b, off, hc⟩ := Ints.cells h
  by_cases hl : 1 ≤ xs.length ∧ xs.length ≤ 300
  · have hl0 : ((xs.length : Int) == 0) = false := by rw [beq_eq_false_iff_ne]; omega
    obtain ⟨l1, l2⟩ := id hl
    have HL := Lib.hid hl
    clear hl
    go_enter Try.func63, Try.ntmps63
    go_wp2
    go_loop [15] (fun i => ∃ k : Nat, k ≤ xs.length ∧ i = .int .i64 k ∧ Hid (∀ j (hj : j < xs.length), j < k → wOk xs[j] = true)) (fun i => xs.length - (intOf i).toNat)
    case atStart => exact ⟨0, Nat.zero_le _, rfl, fun j hj h => by omega⟩
    case round =>
      obtain ⟨k, hk, rfl, HA⟩ := hrel
      by_cases hlt : k < xs.length
      · obtain rfl := hc.1 (by omega)
        have hx := hc.2 k hlt
        have HC := Lib.hid hc
        clear hc
        by_cases e1 : xs[k] = -1
        · have eb : (xs[k] != -1) = false := by rw [e1]; rfl
          have hw : wOk xs[k] = true := by rw [e1]; rfl
          have HN : Hid (∀ j (hj : j < xs.length), j < k + 1 → wOk xs[j] = true) := fun j hj h => by
            by_cases e : j = k
            · subst e; exact hw
            · exact HA.out j hj (by omega)
          clear e1 hw HA
          go_wp2
          go_round
          case rel => exact ⟨k + 1, by omega, by go_num, HN⟩
          case measure => simp [intOf]; omega
        · have eb : (xs[k] != -1) = true := by simp [e1]
          cases hB : inB xs[k] 0 1000
          · have HN : Hid (wsOk xs = false) := ws_no k hlt (by unfold wOk; rw [in_not] at hB ⊢; omega)
            clear e1 HA
            go_wp2_with (go_at_call 53; refine (impl_count _ _).mono ?_; rintro e w' ⟨rfl, rfl⟩)
            go_ret
            exact ⟨ret1B HN.out.symm, rfl⟩
          · have hw : wOk xs[k] = true := by unfold wOk; rw [in_iff] at hB ⊢; omega
            have HN : Hid (∀ j (hj : j < xs.length), j < k + 1 → wOk xs[j] = true) := fun j hj h => by
              by_cases e : j = k
              · subst e; exact hw
              · exact HA.out j hj (by omega)
            clear e1 hw HA
            go_wp2_with (go_at_call 53; refine (impl_count _ _).mono ?_; rintro e w' ⟨rfl, rfl⟩)
            go_round
            case rel => exact ⟨k + 1, by omega, by go_num, HN⟩
            case measure => simp [intOf]; omega
      · have HN : Hid (wsOk xs = true) := ws_yes HL.out fun j hj => HA.out j hj (by omega)
        go_wp2
        go_ret
        exact ⟨ret1B HN.out.symm, rfl⟩
  · rw [ws_len hl]
    by_cases h0 : xs.length = 0
    · have hl0 : ((xs.length : Int) == 0) = true := by rw [beq_iff_eq]; omega
      clear h0 hl
      go_enter Try.func63, Try.ntmps63
      go_wp2
      go_ret
      exact ⟨rfl, rfl⟩
    · have hl0 : ((xs.length : Int) == 0) = false := by rw [beq_eq_false_iff_ne]; omega
      have hl3 : (300 : Int) < (xs.length : Int) := by omega
      clear h0 hl
      go_enter Try.func63, Try.ntmps63
      go_wp2
      go_ret
      exact ⟨rfl, rfl⟩
theorem max_of (xs : List Int) (a : Option Addr) (cap : Nat) (w : World) (h : Ints w a xs) (hok : wsOk xs = true) :
    Calls Try.prog 64 #[.slice a xs.length cap] w fun e w' => e = .returned (.int .i64 (mxL xs)) ∧ w = w' := by
  obtain ⟨b, off, hc⟩ := Ints.cells h
  obtain ⟨⟨l1, l2⟩, hall⟩ := ws_parts hok
  have HA := Lib.hid hall
  have hx0 := hc.2 0 (by omega)
  rw [Nat.add_zero] at hx0
  obtain rfl := hc.1 (by omega)
  have HS : Hid (xs[0] = mxL (xs.take 1)) := by
    show _ = _
    have := mx_snoc xs 0 (by omega)
    rw [Nat.zero_add] at this
    rw [this]
    have h0 := hall 0 (by omega)
    show _ = mxS (-1) _
    unfold mxS
    split <;> omega
  have hl0 : (0 : Int) < (xs.length : Int) := by omega
  obtain ⟨x0, hx⟩ : ∃ x0, xs[0] = x0 := ⟨_, rfl⟩
  rw [hx] at hx0 HS
  clear hall hok h hx
  go_enter Try.func64, Try.ntmps64
  go_wp2
  go_loop [3, 4] (fun m i => ∃ k : Nat, 1 ≤ k ∧ k ≤ xs.length ∧ i = .int .i64 k ∧ ∃ q : Int, Hid (q = mxL (xs.take k)) ∧ m = .int .i64 q) (fun _ i => xs.length - (intOf i).toNat)
  case atStart => exact ⟨1, Nat.le_refl _, l1, rfl, x0, HS, rfl⟩
  case round =>
    obtain ⟨k, hk1, hk, rfl, q, HQ, rfl⟩ := hrel
    by_cases hlt : k < xs.length
    · have hxk := hc.2 k hlt
      have HN : Hid (mxL (xs.take (k + 1)) = mxS q xs[k]) := by
        show _ = _
        rw [mx_snoc xs k hlt, ← HQ.out]
      have HC := Lib.hid hc
      clear hc
      unfold mxS at HN
      by_cases hq : q < xs[k]
      · rw [if_pos hq] at HN
        go_wp2
        all_goals
          go_round
          case rel => exact ⟨k + 1, by omega, by omega, by go_num, xs[k], HN.out.symm, by first | rfl | (congr 1; omega)⟩
          case measure => simp [intOf]; omega
      · rw [if_neg hq] at HN
        go_wp2
        all_goals
          go_round
          case rel => exact ⟨k + 1, by omega, by omega, by go_num, q, HN.out.symm, by first | rfl | (congr 1; omega)⟩
          case measure => simp [intOf]; omega
    · obtain rfl : k = xs.length := by omega
      have hqe := HQ.out
      rw [List.take_length] at hqe
      have HF := Lib.hid hqe
      clear hqe HQ
      go_wp2
      go_ret
      exact ⟨ret1I HF.out, rfl⟩
theorem index_of (xs : List Int) (a : Option Addr) (cap : Nat) (v : Int) (w : World) (h : Ints w a xs) (hm : xs.length ≤ 35184372088832) :
    Calls Try.prog 102 #[.slice a xs.length cap, .int .i64 v] w fun e w' => (∃ r : Int, e = .returned (.int .i64 r) ∧ (decide (0 ≤ r) = has xs v)) ∧ w = w' := by
  obtain ⟨b, off, hc⟩ := Ints.cells h
  go_enter Try.func102, Try.ntmps102
  go_wp2
  go_loop [8] (fun i => ∃ k : Nat, k ≤ xs.length ∧ i = .int .i64 k ∧ Hid (∀ j (hj : j < xs.length), j < k → ¬ xs[j] = v)) (fun i => xs.length - (intOf i).toNat)
  case atStart => exact ⟨0, Nat.zero_le _, rfl, fun j hj h => by omega⟩
  case round =>
    obtain ⟨k, hk, rfl, HA⟩ := hrel
    by_cases hlt : k < xs.length
    · obtain rfl := hc.1 (by omega)
      have hx := hc.2 k hlt
      have HC := Lib.hid hc
      clear hc
      by_cases e1 : xs[k] = v
      · have eb : (v == xs[k]) = true := by rw [e1]; simp
        have HN : Hid (decide (0 ≤ (k : Int)) = has xs v) := by
          show _ = _
          rw [has_yes k hlt e1, decide_eq_true (by omega)]
        clear e1 HA
        go_wp2
        go_ret
        exact ⟨⟨_, rfl, HN.out⟩, rfl⟩
      · have eb : (v == xs[k]) = false := by rw [beq_eq_false_iff_ne]; exact fun e => e1 e.symm
        have HN : Hid (∀ j (hj : j < xs.length), j < k + 1 → ¬ xs[j] = v) := fun j hj h => by
          by_cases e : j = k
          · subst e; exact e1
          · exact HA.out j hj (by omega)
        clear e1 HA
        go_wp2
        go_round
        case rel => exact ⟨k + 1, by omega, by go_num, HN⟩
        case measure => simp [intOf]; omega
    · have HN : Hid (decide (0 ≤ (-1 : Int)) = has xs v) := by
        show _ = _
        rw [has_no fun j hj => HA.out j hj (by omega)]
        rfl
      go_wp2
      go_ret
      exact ⟨⟨_, rfl, HN.out⟩, rfl⟩
theorem contains_of (xs : List Int) (a : Option Addr) (cap : Nat) (v : Int) (w : World) (h : Ints w a xs) (hm : xs.length ≤ 35184372088832) :
    Calls Try.prog 65 #[.slice a xs.length cap, .int .i64 v] w fun e w' => e = .returned (.bool (has xs v)) ∧ w = w' := by
  obtain ⟨bo, hbo⟩ : ∃ bo, has xs v = bo := ⟨_, rfl⟩
  have HI := Lib.hid (index_of xs a cap v w h hm)
  rw [hbo] at HI ⊢
  clear hbo h
  go_enter Try.func65, Try.ntmps65
  go_wp2_with fail
  refine HI.out.mono ?_
  rintro e w' ⟨⟨r, rfl, hr⟩, rfl⟩
  subst hr
  go_wp2
  go_ret
  exact ⟨rfl, rfl⟩
/-! ### CombineWants. -/
theorem impl_comb (c : Int) (xs : List Int) (a : Option Addr) (cap : Nat) (w : World) (h : Ints w a xs) (hm : xs.length ≤ 35184372088832) :
    Calls Try.prog 21 #[.int .i64 c, .slice a xs.length cap] w fun e w' => e = .returned (.int .i64 (combV c xs)) ∧ w = w' := by
  obtain ⟨v, hv⟩ : ∃ v, combV c xs = v := ⟨_, rfl⟩
  have HV := Lib.hid hv
  rw [hv]
  clear hv
  have hwo := wants_ok xs a cap w h hm
  by_cases hgood : inB c 0 1000 = true ∧ wsOk xs = true
  · obtain ⟨c1, c2⟩ := hgood
    rw [c2] at hwo
    have HWO := Lib.hid hwo
    have HMX := Lib.hid (max_of xs a cap w h c2)
    have HCO := Lib.hid (contains_of xs a cap (-1) w h hm)
    have HVV : Hid ((if mxL xs < 0 ∨ (has xs (-1) = true ∧ mxL xs < c) then c else mxL xs) = v) := (comb_yes c1 c2).symm.trans HV.out
    have HKN := Lib.hid (fun h => mx_known c2 h)
    obtain ⟨m1, m2⟩ := in_iff.1 c1
    generalize mxL xs = m at HMX HVV HKN
    generalize has xs (-1) = n at HCO HVV HKN
    clear HV hwo h c2
    go_enter Try.func21, Try.ntmps21
    go_wp2_with fail
    apply wp_scope_straight
    go_wp2_with (first | (go_at_call 53; refine (impl_count _ _).mono ?_; rintro e w' ⟨rfl, rfl⟩) | (go_at_call 63; refine HWO.out.mono ?_; rintro e w' ⟨rfl, rfl⟩) | (go_at_call 64; refine HMX.out.mono ?_; rintro e w' ⟨rfl, rfl⟩))
    refine HCO.out.mono ?_
    rintro e w' ⟨rfl, rfl⟩
    cases n
    · have h0 := HKN.out rfl
      obtain rfl : m = v := by
        rw [← HVV.out, if_neg]
        rintro (h | ⟨h, -⟩)
        · omega
        · cases h
      clear HVV HKN
      go_wp2
      go_step3
      go_wp2
      rw [Exit.noGoto_ret]
      go_ret
      exact ⟨rfl, rfl⟩
    · by_cases hmc : m < c
      · obtain rfl : c = v := by rw [← HVV.out, if_pos (.inr ⟨rfl, hmc⟩)]
        clear HVV HKN
        go_wp2
        all_goals
          go_step3
          go_wp2
          rw [Exit.noGoto_ret]
          go_ret
          exact ⟨ret1I (by omega), rfl⟩
      · have hv : m = v ∨ (m < 0 ∧ c = v) := by
          rw [← HVV.out]
          by_cases h0 : m < 0
          · rw [if_pos (.inl h0)]; exact .inr ⟨h0, rfl⟩
          · rw [if_neg]
            · exact .inl rfl
            · rintro (h | ⟨-, h⟩) <;> omega
        have HVE : Hid (m = v) := by
          show _ = _
          omega
        clear HVV HKN hv
        go_wp2
        all_goals
          go_step3
          go_wp2
          rw [Exit.noGoto_ret]
          go_ret
          exact ⟨ret1I (by first | omega | exact HVE.out | (rw [← HVE.out]; omega)), rfl⟩
  · obtain rfl : -1 = v := by
      rw [← HV.out]
      refine (comb_no ?_).symm
      cases h1 : inB c 0 1000
      · exact .inl rfl
      · cases h2 : wsOk xs
        · exact .inr rfl
        · exact absurd ⟨h1, h2⟩ hgood
    have HGD := Lib.hid hgood
    have HWO := Lib.hid hwo
    clear HV hgood hwo h
    go_enter Try.func21, Try.ntmps21
    go_wp2_with fail
    refine wp_scope_jumps 0 (fun act w' => w' = w ∧ ∃ y0 y6 y7 y8 y9 y10 y11 y12 y13 y14 y15 y16 y17 y18 y19 y20 y21 : Value, act = { tmps := #[y0, .slice a xs.length cap, undef, undef, .int .i64 0, .int .i64 (-1), y6, y7, y8, y9, y10, y11, y12, y13, y14, y15, y16, y17, y18, y19, y20, y21], defers := [] }) (fun _ _ => 0) rfl ?_ ?_
    · cases c1 : inB c 0 1000
      · go_wp2_with (go_at_call 53; refine (impl_count _ _).mono ?_; rintro e w' ⟨rfl, rfl⟩)
        go_step3
        exact ⟨rfl, rfl, _, _, _, _, _, _, _, _, _, _, _, _, _, _, _, _, _, rfl⟩
      · have c2 : wsOk xs = false := by
          cases h2 : wsOk xs
          · rfl
          · exact absurd ⟨c1, h2⟩ HGD.out
        rw [c2] at HWO
        go_wp2_with (first | (go_at_call 53; refine (impl_count _ _).mono ?_; rintro e w' ⟨rfl, rfl⟩) | (go_at_call 63; refine HWO.out.mono ?_; rintro e w' ⟨rfl, rfl⟩))
        go_step3
        exact ⟨rfl, rfl, _, _, _, _, _, _, _, _, _, _, _, _, _, _, _, _, _, rfl⟩
    · rintro act w1 ⟨rfl, y0, y6, y7, y8, y9, y10, y11, y12, y13, y14, y15, y16, y17, y18, y19, y20, y21, rfl⟩
      go_wp2
      refine jump_ret ?_
      go_ret
      exact ⟨rfl, rfl⟩
/-! ### The model. -/
theorem spec_comb (c : Int) (xs : List Int) (a : Option Addr) (cap : Nat) (w : World) (h : Ints w a xs) (hm : xs.length ≤ 35184372088832) :
    Calls Try.prog 22 #[.int .i64 c, .slice a xs.length cap] w fun e w' => e = .returned (.int .i64 (combV c xs)) ∧ w = w' := by
  obtain ⟨b, off, hc⟩ := Ints.cells h
  obtain ⟨v, hv⟩ : ∃ v, combV c xs = v := ⟨_, rfl⟩
  have HV := Lib.hid hv
  rw [hv]
  clear hv h
  cases c1 : inB c 0 1000
  · obtain rfl : -1 = v := by rw [← HV.out, comb_no (.inl c1)]
    clear HV
    go_enter Try.func22, Try.ntmps22
    go_wp2_with (go_at_call 56; refine (spec_count _ _).mono ?_; rintro e w' ⟨rfl, rfl⟩)
    go_ret
    exact ⟨rfl, rfl⟩
  · cases c2 : inB (xs.length : Int) 1 300
    · obtain rfl : -1 = v := by rw [← HV.out, comb_no (.inr (ws_len (by rw [in_not] at c2; omega)))]
      clear HV
      go_enter Try.func22, Try.ntmps22
      go_wp2_with (first | (go_at_call 56; refine (spec_count _ _).mono ?_; rintro e w' ⟨rfl, rfl⟩) | (go_at_call 66; refine (C1.spec_in _ _ _ _).mono ?_; rintro e w' ⟨rfl, rfl⟩))
      go_ret
      exact ⟨rfl, rfl⟩
    · obtain ⟨l1, l2⟩ := in_iff.1 c2
      have HC1 := Lib.hid c1
      have HL : Hid (1 ≤ xs.length ∧ xs.length ≤ 300) := ⟨by omega, by omega⟩
      go_enter Try.func22, Try.ntmps22
      go_wp2_with (first | (go_at_call 56; refine (spec_count _ _).mono ?_; rintro e w' ⟨rfl, rfl⟩) | (go_at_call 66; refine (C1.spec_in _ _ _ _).mono ?_; rintro e w' ⟨rfl, rfl⟩))
      go_loop [5, 6, 7] (fun m f i => ∃ k : Nat, k ≤ xs.length ∧ i = .int .i64 k ∧ ∃ (q : Int) (n : Bool), Hid (q = mxL (xs.take k)) ∧ Hid (n = has (xs.take k) (-1)) ∧ Hid (∀ j (hj : j < xs.length), j < k → wOk xs[j] = true) ∧ m = .int .i64 q ∧ f = .bool n) (fun _ _ i => xs.length - (intOf i).toNat)
      case atStart => exact ⟨0, Nat.zero_le _, rfl, -1, false, rfl, rfl, fun j hj h => by omega, rfl, rfl⟩
      case round =>
        obtain ⟨k, hk, rfl, q, n, HQ, HN, HA, rfl, rfl⟩ := hrel
        by_cases hlt : k < xs.length
        · obtain rfl := hc.1 (by omega)
          have hx := hc.2 k hlt
          have HC := Lib.hid hc
          clear hc
          cases hB : inB xs[k] (-1) 1000
          · obtain rfl : -1 = v := by rw [← HV.out, comb_no (.inr (ws_no k hlt hB))]
            clear HV HA HQ HN
            go_wp2_with (go_at_call 66; refine (C1.spec_in _ _ _ _).mono ?_; rintro e w' ⟨rfl, rfl⟩)
            go_ret
            exact ⟨rfl, rfl⟩
          · obtain ⟨x1, x2⟩ := in_iff.1 hB
            have HA2 : Hid (∀ j (hj : j < xs.length), j < k + 1 → wOk xs[j] = true) := fun j hj h => by
              by_cases e : j = k
              · subst e; exact hB
              · exact HA.out j hj (by omega)
            have HQ2 : Hid (mxL (xs.take (k + 1)) = mxS q xs[k]) := by
              show _ = _
              rw [mx_snoc xs k hlt, ← HQ.out]
            have HN2 : Hid (has (xs.take (k + 1)) (-1) = (n || xs[k] == -1)) := by
              show _ = _
              rw [has_snoc xs (-1) k hlt, ← HN.out]
            unfold mxS at HQ2
            clear HA HQ HN
            by_cases hq : q < xs[k]
            · rw [if_pos hq] at HQ2
              by_cases h0 : xs[k] < 0
              · rw [show (xs[k] == -1) = true by rw [beq_iff_eq]; omega, Bool.or_true] at HN2
                go_wp2_with (go_at_call 66; refine (C1.spec_in _ _ _ _).mono ?_; rintro e w' ⟨rfl, rfl⟩)
                go_round
                case rel => exact ⟨k + 1, by omega, by go_num, _, _, HQ2.out.symm, HN2.out.symm, HA2, rfl, rfl⟩
                case measure => simp [intOf]; omega
              · rw [show (xs[k] == -1) = false by rw [beq_eq_false_iff_ne]; omega, Bool.or_false] at HN2
                go_wp2_with (go_at_call 66; refine (C1.spec_in _ _ _ _).mono ?_; rintro e w' ⟨rfl, rfl⟩)
                go_round
                case rel => exact ⟨k + 1, by omega, by go_num, _, _, HQ2.out.symm, HN2.out.symm, HA2, rfl, rfl⟩
                case measure => simp [intOf]; omega
            · rw [if_neg hq] at HQ2
              by_cases h0 : xs[k] < 0
              · rw [show (xs[k] == -1) = true by rw [beq_iff_eq]; omega, Bool.or_true] at HN2
                go_wp2_with (go_at_call 66; refine (C1.spec_in _ _ _ _).mono ?_; rintro e w' ⟨rfl, rfl⟩)
                go_round
                case rel => exact ⟨k + 1, by omega, by go_num, _, _, HQ2.out.symm, HN2.out.symm, HA2, rfl, rfl⟩
                case measure => simp [intOf]; omega
              · rw [show (xs[k] == -1) = false by rw [beq_eq_false_iff_ne]; omega, Bool.or_false] at HN2
                go_wp2_with (go_at_call 66; refine (C1.spec_in _ _ _ _).mono ?_; rintro e w' ⟨rfl, rfl⟩)
                go_round
                case rel => exact ⟨k + 1, by omega, by go_num, _, _, HQ2.out.symm, HN2.out.symm, HA2, rfl, rfl⟩
                case measure => simp [intOf]; omega
        · obtain rfl : k = xs.length := by omega
          have hqe := HQ.out
          have hne := HN.out
          rw [List.take_length] at hqe hne
          have hws := ws_yes HL.out fun j hj => HA.out j hj hj
          have hV := (comb_yes HC1.out hws).symm.trans HV.out
          rw [← hqe, ← hne] at hV
          have HVV := Lib.hid hV
          clear hqe hne hws hV HV HQ HN HA
          by_cases h0 : q < 0
          · obtain rfl : c = v := by rw [← HVV.out, if_pos (.inl h0)]
            clear HVV
            go_wp2
            go_ret
            exact ⟨rfl, rfl⟩
          · cases n
            · obtain rfl : q = v := by
                rw [← HVV.out, if_neg]
                rintro (h | ⟨h, -⟩)
                · exact h0 h
                · cases h
              clear HVV
              go_wp2
              go_ret
              exact ⟨rfl, rfl⟩
            · by_cases hqc : q < c
              · obtain rfl : c = v := by rw [← HVV.out, if_pos (.inr ⟨rfl, hqc⟩)]
                clear HVV
                go_wp2
                go_ret
                exact ⟨rfl, rfl⟩
              · obtain rfl : q = v := by
                  rw [← HVV.out, if_neg]
                  rintro (h | ⟨-, h⟩)
                  · exact h0 h
                  · exact hqc h
                clear HVV
                go_wp2
                go_ret
                exact ⟨rfl, rfl⟩
end Go.Proofs.Ytimpajhgplkpmaa.Comb
