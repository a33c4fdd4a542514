/- Plain mathematics of the decimal texts of thousandths (MilliText, ParseMilli): no program in this text. -/
import Derived.Lib.ItoaNum
import Derived.Lib.TrimByte
import Derived.Lib.ParseIntB
namespace Go.Proofs.YtgmdfkmmbcpikaaDoor.Milli
open Go

/-- A string with these bytes. -/
def mk (l : List UInt8) : ByteArray := ⟨l.toArray⟩
theorem mk_list (l : List UInt8) : (mk l).data.toList = l := by simp [mk]
theorem mk_of (s : ByteArray) : mk s.data.toList = s := rfl
theorem mk_size (l : List UInt8) : (mk l).size = l.length := by simp [mk, ByteArray.size]
theorem mk_append (l m : List UInt8) : mk l ++ mk m = mk (l ++ m) := by
  apply ByteArray.ext
  simp [mk]
theorem mk_inj {l m : List UInt8} (h : mk l = mk m) : l = m := by rw [← mk_list l, h, mk_list]

def dig (d : Nat) : UInt8 := UInt8.ofNat (48 + d)
/-- The digits behind the point, of r thousandths (1 to 999), without the zeros at the end. -/
def frac (r : Nat) : List UInt8 := Lib.trimRightB [dig (r / 100), dig (r % 100 / 10), dig (r % 10)] 48
def three (r : Nat) : List UInt8 := [dig (r / 100), dig (r % 100 / 10), dig (r % 10)]
def mPos (u : Nat) : List UInt8 := Lib.decDigits (u / 1000) ++ (if u % 1000 = 0 then [] else 46 :: frac (u % 1000))
def isVal (v : Int) : Bool := decide (-1000000000 ≤ v ∧ v ≤ 1000000000)
/-- MilliText. -/
def milli (v : Int) : List UInt8 := if isVal v then (if v < 0 then 45 :: mPos v.natAbs else mPos v.toNat) else []

/-! ### digits -/
def isDig (c : UInt8) : Prop := 48 ≤ c.toNat ∧ c.toNat ≤ 57
def foldD (x : Nat) (l : List UInt8) : Nat := l.foldl (fun a c => 10 * a + (c.toNat - 48)) x
theorem foldD_append (x : Nat) (l m : List UInt8) : foldD x (l ++ m) = foldD (foldD x l) m := by unfold foldD; rw [List.foldl_append]
theorem foldD_nil (x : Nat) : foldD x [] = x := rfl
theorem foldD_cons (x : Nat) (c : UInt8) (l : List UInt8) : foldD x (c :: l) = foldD (10 * x + (c.toNat - 48)) l := by unfold foldD; rw [List.foldl_cons]
theorem dig_toNat (d : Nat) (h : d < 10) : (dig d).toNat = 48 + d := by
  unfold dig
  rw [UInt8.toNat_ofNat']
  exact Nat.mod_eq_of_lt (Nat.lt_of_lt_of_le (Nat.add_lt_add_left h 48) (by decide))
theorem dig_is (d : Nat) (h : d < 10) : isDig (dig d) := by unfold isDig; rw [dig_toNat d h]; omega

theorem dec_digits (u : Nat) : (∀ c ∈ Lib.decDigits u, isDig c) ∧ foldD 0 (Lib.decDigits u) = u ∧ Lib.decDigits u ≠ [] := by
  induction u using Nat.strongRecOn with
  | _ u ih =>
    by_cases h : u < 10
    · rw [Lib.decDigits, dif_pos h]
      refine ⟨fun c hc => ?_, ?_, by simp⟩
      · rw [List.mem_singleton.1 hc]; exact dig_is u h
      · have := dig_toNat u h
        simp only [foldD, List.foldl]
        unfold dig at this
        omega
    · obtain ⟨h1, h2, h3⟩ := ih (u / 10) (by omega)
      rw [Lib.decDigits, dif_neg h]
      refine ⟨fun c hc => ?_, ?_, by simp⟩
      · rw [List.mem_append] at hc
        rcases hc with hc | hc
        · exact h1 c hc
        · rw [List.mem_singleton.1 hc]; exact dig_is (u % 10) (by omega)
      · rw [foldD_append, h2]
        have := dig_toNat (u % 10) (by omega)
        simp only [foldD, List.foldl]
        unfold dig at this
        omega
theorem dec_length_le (u k : Nat) (h : u < 10 ^ (k + 1)) : (Lib.decDigits u).length ≤ k + 1 := by
  rw [Lib.decDigits_length]
  induction k generalizing u with
  | zero => rw [Lib.nDigits_small (by simpa using h)]; exact Nat.le_refl _
  | succ k ih =>
    by_cases h1 : u < 10
    · rw [Lib.nDigits_small h1]; omega
    · rw [Lib.nDigits_big h1]
      have := ih (u / 10) (by rw [Nat.pow_succ] at h; omega)
      omega

instance (c : UInt8) : Decidable (isDig c) := by unfold isDig; infer_instance

theorem frac_fin : ∀ r : Fin 1000, r.val ≠ 0 → (frac r.val).length ≤ 3 ∧ frac r.val ≠ [] ∧ (∀ c ∈ frac r.val, isDig c) ∧ foldD 0 (frac r.val) * 10 ^ (3 - (frac r.val).length) = r.val ∧
    (frac r.val ++ [48, 48, 48]).take 3 = three r.val := by decide +kernel
theorem three_fin : ∀ r : Fin 1000, (∀ c ∈ three r.val, isDig c) ∧ foldD 0 (three r.val) = r.val ∧ (three 0 = [48, 48, 48]) := by decide +kernel

theorem foldD_acc (x : Nat) (l : List UInt8) : foldD x l = x * 10 ^ l.length + foldD 0 l := by
  induction l generalizing x with
  | nil => simp [foldD]
  | cons c l ih =>
    rw [foldD_cons, foldD_cons, ih, ih (10 * 0 + (c.toNat - 48))]
    rw [List.length_cons, Nat.pow_succ, Nat.add_mul, Nat.mul_comm 10 x, Nat.mul_assoc, Nat.mul_comm 10 (10 ^ l.length)]
    simp
    omega
/-- The thousandths that the digits in front of the point and the three behind it tell. -/
theorem fold_all (u : Nat) : foldD 0 (Lib.decDigits (u / 1000) ++ three (u % 1000)) = u := by
  rw [foldD_append, (dec_digits (u / 1000)).2.1, foldD_acc]
  have := (three_fin ⟨u % 1000, by omega⟩).2.1
  simp only at this
  rw [this]
  simp [three]
  omega
theorem all_digits (u : Nat) : ∀ c ∈ Lib.decDigits (u / 1000) ++ three (u % 1000), isDig c := by
  intro c hc
  rw [List.mem_append] at hc
  rcases hc with hc | hc
  · exact (dec_digits (u / 1000)).1 c hc
  · exact (three_fin ⟨u % 1000, by omega⟩).1 c hc

/-! ### ParseUint at base 10 of digits -/
theorem parseM_ok (M : Nat) (hM : M ≤ 4294967295) (l : List UInt8) : ∀ acc : Nat, (∀ c ∈ l, isDig c) → foldD acc l ≤ M → Lib.parseUintM M acc l = .ok (foldD acc l) := by
  induction l with
  | nil => intro acc _ _; rfl
  | cons c l ih =>
    intro acc hd hle
    have hc : isDig c := hd c (by simp)
    have hmono : ∀ (l : List UInt8) (x : Nat), x ≤ foldD x l := by
      intro l
      induction l with
      | nil => intro x; exact Nat.le_refl _
      | cons c l ih => intro x; rw [foldD_cons]; exact Nat.le_trans (by omega) (ih _)
    have h1 := hmono l (10 * acc + (c.toNat - 48))
    rw [foldD_cons] at hle
    unfold isDig at hc
    rw [Lib.parseUintM, if_pos hc, if_neg (by omega), if_neg (by omega), foldD_cons]
    have e : acc * 10 + (c.toNat - 48) = 10 * acc + (c.toNat - 48) := by omega
    rw [e]
    exact ih _ (fun c hc => hd c (by simp [hc])) hle
theorem parseB_ok (l : List UInt8) (hne : l ≠ []) (hd : ∀ c ∈ l, isDig c) (hle : foldD 0 l ≤ 4294967295) : Lib.parseUintB 32 l = .ok (foldD 0 l) := by
  unfold Lib.parseUintB
  rw [if_neg hne]
  exact parseM_ok _ (by decide) l 0 hd (by simpa using hle)

end Go.Proofs.YtgmdfkmmbcpikaaDoor.Milli
