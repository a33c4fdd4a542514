/- Plain mathematics of the decimal texts of thousandths (MilliText, ParseMilli): no program in this text. -/
import Derived.Lib.ItoaNum
import Derived.Lib.TrimByte
import Derived.Lib.ParseIntB
import Derived.Test.YtgmdfkmmbcpikaaGreatDoorC1
import Derived.Laws.BytesArg
import Derived.Below
import Derived.Test.YtgmdfkmmbcpikaaGreatDoorShelf
import Derived.Lib.SmallJoins
import Derived.Lib.AppendIntMem
import Derived.ChangeAgain
import Derived.Test.YtgmdfkmmbcpikaaGreatDoorC2
import Derived.Deep.QuietTactic
namespace Go.Proofs.YtgmdfkmmbcpikaaGreatDoor.Milli
open Go

/-- A string with these bytes. -/
def mk (l : List UInt8) : ByteArray := ⟨l.toArray⟩
theorem mk_list (l : List UInt8) : (mk l).data.toList = l := by simp [mk]
theorem mk_of (s : ByteArray) : mk s.data.toList = s := rfl
theorem mk_size (l : List UInt8) : (mk l).size = l.length := by simp [mk, ByteArray.size]
theorem mk_append (l m : List UInt8) : mk l ++ mk m = mk (l ++ m) := by
  apply ByteArray.ext
  simp [mk]
theorem mk_inj {l m : List UInt8} (h : mk l = mk m) : l = m := by rw [← mk_list l, h, mk_list]

def dig (d : Nat) : UInt8 := UInt8.ofNat (48 + d)
/-- The digits behind the point, of r thousandths (1 to 999), without the zeros at the end. -/
def frac (r : Nat) : List UInt8 := Lib.trimRightB [dig (r / 100), dig (r % 100 / 10), dig (r % 10)] 48
def three (r : Nat) : List UInt8 := [dig (r / 100), dig (r % 100 / 10), dig (r % 10)]
def mPos (u : Nat) : List UInt8 := Lib.decDigits (u / 1000) ++ (if u % 1000 = 0 then [] else 46 :: frac (u % 1000))
def isVal (v : Int) : Bool := decide (-1000000000 ≤ v ∧ v ≤ 1000000000)
/-- MilliText. -/
def milli (v : Int) : List UInt8 := if isVal v then (if v < 0 then 45 :: mPos v.natAbs else mPos v.toNat) else []

/-! ### digits -/
def isDig (c : UInt8) : Prop := 48 ≤ c.toNat ∧ c.toNat ≤ 57
def foldD (x : Nat) (l : List UInt8) : Nat := l.foldl (fun a c => 10 * a + (c.toNat - 48)) x
theorem foldD_append (x : Nat) (l m : List UInt8) : foldD x (l ++ m) = foldD (foldD x l) m := by unfold foldD; rw [List.foldl_append]
theorem foldD_nil (x : Nat) : foldD x [] = x := rfl
theorem foldD_cons (x : Nat) (c : UInt8) (l : List UInt8) : foldD x (c :: l) = foldD (10 * x + (c.toNat - 48)) l := by unfold foldD; rw [List.foldl_cons]
theorem dig_toNat (d : Nat) (h : d < 10) : (dig d).toNat = 48 + d := by
  unfold dig
  rw [UInt8.toNat_ofNat']
  exact Nat.mod_eq_of_lt (Nat.lt_of_lt_of_le (Nat.add_lt_add_left h 48) (by decide))
theorem dig_is (d : Nat) (h : d < 10) : isDig (dig d) := by unfold isDig; rw [dig_toNat d h]; omega

theorem dec_digits (u : Nat) : (∀ c ∈ Lib.decDigits u, isDig c) ∧ foldD 0 (Lib.decDigits u) = u ∧ Lib.decDigits u ≠ [] := by
  induction u using Nat.strongRecOn with
  | _ u ih =>
    by_cases h : u < 10
    · rw [Lib.decDigits, dif_pos h]
      refine ⟨fun c hc => ?_, ?_, by simp⟩
      · rw [List.mem_singleton.1 hc]; exact dig_is u h
      · have := dig_toNat u h
        simp only [foldD, List.foldl]
        unfold dig at this
        omega
    · obtain ⟨h1, h2, h3⟩ := ih (u / 10) (by omega)
      rw [Lib.decDigits, dif_neg h]
      refine ⟨fun c hc => ?_, ?_, by simp⟩
      · rw [List.mem_append] at hc
        rcases hc with hc | hc
        · exact h1 c hc
        · rw [List.mem_singleton.1 hc]; exact dig_is (u % 10) (by omega)
      · rw [foldD_append, h2]
        have := dig_toNat (u % 10) (by omega)
        simp only [foldD, List.foldl]
        unfold dig at this
        omega
theorem dec_length_le (u k : Nat) (h : u < 10 ^ (k + 1)) : (Lib.decDigits u).length ≤ k + 1 := by
  rw [Lib.decDigits_length]
  induction k generalizing u with
  | zero => rw [Lib.nDigits_small (by simpa using h)]; exact Nat.le_refl _
  | succ k ih =>
    by_cases h1 : u < 10
    · rw [Lib.nDigits_small h1]; omega
    · rw [Lib.nDigits_big h1]
      have := ih (u / 10) (by rw [Nat.pow_succ] at h; omega)
      omega

instance (c : UInt8) : Decidable (isDig c) := by unfold isDig; infer_instance

theorem frac_fin : ∀ r : Fin 1000, r.val ≠ 0 → (frac r.val).length ≤ 3 ∧ frac r.val ≠ [] ∧ (∀ c ∈ frac r.val, isDig c) ∧ foldD 0 (frac r.val) * 10 ^ (3 - (frac r.val).length) = r.val ∧
    (frac r.val ++ [48, 48, 48]).take 3 = three r.val := by decide +kernel
theorem three_fin : ∀ r : Fin 1000, (∀ c ∈ three r.val, isDig c) ∧ foldD 0 (three r.val) = r.val ∧ (three 0 = [48, 48, 48]) := by decide +kernel

theorem foldD_acc (x : Nat) (l : List UInt8) : foldD x l = x * 10 ^ l.length + foldD 0 l := by
  induction l generalizing x with
  | nil => simp [foldD]
  | cons c l ih =>
    rw [foldD_cons, foldD_cons, ih, ih (10 * 0 + (c.toNat - 48))]
    rw [List.length_cons, Nat.pow_succ, Nat.add_mul, Nat.mul_comm 10 x, Nat.mul_assoc, Nat.mul_comm 10 (10 ^ l.length)]
    simp
    omega
/-- The thousandths that the digits in front of the point and the three behind it tell. -/
theorem fold_all (u : Nat) : foldD 0 (Lib.decDigits (u / 1000) ++ three (u % 1000)) = u := by
  rw [foldD_append, (dec_digits (u / 1000)).2.1, foldD_acc]
  have := (three_fin ⟨u % 1000, by omega⟩).2.1
  simp only at this
  rw [this]
  simp [three]
  omega
theorem all_digits (u : Nat) : ∀ c ∈ Lib.decDigits (u / 1000) ++ three (u % 1000), isDig c := by
  intro c hc
  rw [List.mem_append] at hc
  rcases hc with hc | hc
  · exact (dec_digits (u / 1000)).1 c hc
  · exact (three_fin ⟨u % 1000, by omega⟩).1 c hc

/-! ### ParseUint at base 10 of digits -/
theorem parseM_ok (M : Nat) (hM : M ≤ 4294967295) (l : List UInt8) : ∀ acc : Nat, (∀ c ∈ l, isDig c) → foldD acc l ≤ M → Lib.parseUintM M acc l = .ok (foldD acc l) := by
  induction l with
  | nil => intro acc _ _; rfl
  | cons c l ih =>
    intro acc hd hle
    have hc : isDig c := hd c (by simp)
    have hmono : ∀ (l : List UInt8) (x : Nat), x ≤ foldD x l := by
      intro l
      induction l with
      | nil => intro x; exact Nat.le_refl _
      | cons c l ih => intro x; rw [foldD_cons]; exact Nat.le_trans (by omega) (ih _)
    have h1 := hmono l (10 * acc + (c.toNat - 48))
    rw [foldD_cons] at hle
    unfold isDig at hc
    rw [Lib.parseUintM, if_pos hc, if_neg (by omega), if_neg (by omega), foldD_cons]
    have e : acc * 10 + (c.toNat - 48) = 10 * acc + (c.toNat - 48) := by omega
    rw [e]
    exact ih _ (fun c hc => hd c (by simp [hc])) hle
theorem parseB_ok (l : List UInt8) (hne : l ≠ []) (hd : ∀ c ∈ l, isDig c) (hle : foldD 0 l ≤ 4294967295) : Lib.parseUintB 32 l = .ok (foldD 0 l) := by
  unfold Lib.parseUintB
  rw [if_neg hne]
  exact parseM_ok _ (by decide) l 0 hd (by simpa using hle)

end Go.Proofs.YtgmdfkmmbcpikaaGreatDoor.Milli

/- Contracts of the decimal texts: spec.l01Num, MilliText. -/
namespace Go.Proofs.YtgmdfkmmbcpikaaGreatDoor.Mt
open Go.RowKit
open Go.Proofs.YtgmdfkmmbcpikaaGreatDoor.C1 Go.Proofs.YtgmdfkmmbcpikaaGreatDoor.Milli

theorem ret1S {a b : ByteArray} (h : a = b) : Ending.returned (.string a) = .returned (.string b) := by rw [h]
theorem str_eq {a b : ByteArray} (h : a = b) : Value.string a = .string b := by rw [h]

/-- 'string([]byte{v})': the new row of one byte, read as a string. -/
theorem conv_one (w : World) (v : Int) :
    (convert 68 9 (.slice (some ⟨w.heap.size, 0, none⟩) 1 1)).run Tryz.prog (w.alloc (.cells #[.int .u8 v] 5)) = .ok (.string (mk [UInt8.ofNat v.toNat])) (w.alloc (.cells #[.int .u8 v] 5)) := by
  have := run_convert_bytes_arg (P := Tryz.prog) (w.alloc (.cells #[.int .u8 v] 5)) 68 5 Tryz.underlying68 Tryz.underlying5 w.heap.size 0 1 1 [v] rfl (fun i hi => by
    have : i = 0 := by omega
    subst this
    go_simp) 9 Tryz.underlying9
  exact this

/-- The digits still to come of n, in front of those that stand: none for 0. -/
def dd (n : Nat) : List UInt8 := if n = 0 then [] else Lib.decDigits n
theorem dd_step (n : Nat) (h : n ≠ 0) : dd n = dd (n / 10) ++ [UInt8.ofNat (48 + n % 10)] := by
  unfold dd
  rw [if_neg h, Lib.decDigits]
  by_cases h1 : n < 10
  · rw [dif_pos h1, if_pos (by omega), Nat.mod_eq_of_lt h1]; rfl
  · rw [dif_neg h1, if_neg (by omega)]

theorem dd_le (x : Int) (h1 : -9223372036854775808 ≤ x) (h2 : x ≤ 9223372036854775807) : (dd x.natAbs).length ≤ 19 := by
  unfold dd
  split
  · simp
  · exact dec_length_le _ 18 (Nat.lt_of_le_of_lt (by omega : x.natAbs ≤ 9223372036854775808) (by decide))
theorem itoa_of (x : Int) (h : x ≠ 0) : Lib.itoa x = (if x < 0 then [45] else []) ++ dd x.natAbs := by
  unfold Lib.itoa dd
  have : x.natAbs ≠ 0 := by omega
  rw [if_neg this]
  split
  · rfl
  · have : x.toNat = x.natAbs := by omega
    rw [this]; rfl

set_option maxRecDepth 100000 in
theorem spec_num (x : Int) (w : World) (h1 : -9223372036854775808 ≤ x) (h2 : x ≤ 9223372036854775807) :
    Calls Tryz.prog 35 #[.int .i64 x] w fun e w' => e = .returned (.string (mk (Lib.itoa x))) ∧ Below w.heap.size w w' := by
  by_cases hx : x = 0
  · subst hx
    go_enter Tryz.func35, Tryz.ntmps35
    go_wp2
    go_ret
    exact ⟨ret1S (by rw [Lib.itoa, if_neg (by omega), Int.toNat_zero, Lib.decDigits, dif_pos (by omega)]; rfl), Below.refl _ _⟩
  · have hit := Lib.hid (itoa_of x hx)
    have hms := mk_size
    have hdl := dd_le x h1 h2
    have HDL := Lib.hid hdl
    clear hdl
    by_cases hneg : x < 0
    all_goals
      go_enter Tryz.func35, Tryz.ntmps35
      go_wp2
      go_loopw [0, 3] (fun y o wr => ∃ (n : Int) (l : List UInt8), y = .int .i64 n ∧ o = .string (mk l) ∧ -9223372036854775808 ≤ n ∧ n ≤ 9223372036854775807 ∧ Hid (dd n.natAbs ++ l = dd x.natAbs) ∧ Below w.heap.size w wr) (fun y _ _ => (intOf y).natAbs)
      case atStart => exact ⟨x, [], rfl, rfl, h1, h2, by simp [Hid], Below.refl _ _⟩
      case round =>
        obtain ⟨n, l, rfl, rfl, hn1, hn2, hd, hb⟩ := hrel
        have hsz := hb.size
        have hl : l.length ≤ 19 := by
          have := congrArg List.length hd.out
          have := HDL.out
          simp at *
          omega
        have HB := Lib.hid hb
        clear hb
        by_cases h0 : n = 0
        · subst h0
          have hld : Hid (l = dd x.natAbs) := hd.out
          go_wp2
          go_ret
          exact ⟨ret1S (by rw [hit.out, ← hld.out]; first | (rw [if_pos hneg]; exact mk_append [45] l) | (rw [if_neg (by omega)]; rfl)), HB.out⟩
        · have hst := Lib.hid (dd_step n.natAbs (by omega))
          by_cases hp : 0 < n
          · have hcv := conv_one wr (48 + n % 10)
            go_wp2
            go_roundw
            case rel => exact ⟨n / 10, UInt8.ofNat (48 + n % 10).toNat :: l, rfl, str_eq (mk_append [_] l), by omega, by omega, by
                have e1 : (n / 10).natAbs = n.natAbs / 10 := by omega
                have e2 : (48 + n % 10).toNat = 48 + n.natAbs % 10 := by omega
                have := hd.out
                rw [hst.out, List.append_assoc] at this
                rw [e1, e2]
                exact this, HB.out.alloc hsz _⟩
            case measure => simp [intOf]; omega
          · obtain ⟨q, r, hq, hr, g1, g2, -, g4, -⟩ := div_parts n 10 (by omega)
            have hdm : n = 10 * q + r := by have := Int.tmod_add_mul_tdiv n 10; rw [hq, hr] at this; omega
            have HD := Lib.hid hdm
            clear hdm
            obtain ⟨g5, g6, g7⟩ := g4 (by omega)
            clear g4
            by_cases hr0 : r < 0
            · have hcv := conv_one wr (48 + -r)
              go_wp2
              go_roundw
              case rel => exact ⟨q, UInt8.ofNat (48 + -r).toNat :: l, rfl, str_eq (mk_append [_] l), by omega, by omega, by
                  have hdm := HD.out
                  have e1 : q.natAbs = n.natAbs / 10 := by omega
                  have e2 : (48 + -r).toNat = 48 + n.natAbs % 10 := by omega
                  have := hd.out
                  rw [hst.out, List.append_assoc] at this
                  rw [e1, e2]
                  exact this, HB.out.alloc hsz _⟩
              case measure => have := HD.out; simp [intOf]; omega
            · obtain rfl : r = 0 := by omega
              have hcv := conv_one wr 48
              go_wp2
              go_roundw
              case rel => exact ⟨q, UInt8.ofNat 48 :: l, rfl, str_eq (mk_append [_] l), by omega, by omega, by
                  have hdm := HD.out
                  have e1 : q.natAbs = n.natAbs / 10 := by omega
                  have e2 : 48 = 48 + n.natAbs % 10 := by omega
                  have := hd.out
                  rw [hst.out, List.append_assoc, ← e2] at this
                  rw [e1]
                  exact this, HB.out.alloc hsz _⟩
              case measure => have := HD.out; simp [intOf]; omega

/-! ### what the calls read of the library's variables -/
/-- The table of powers of ten stands, and the world has the program's shape. -/
structure Env (w : World) : Prop where
  tab : Lib.TabIs Tryz.prog w "internal/strconv.uint64pow10" .u64 Lib.pow10Tab
  shaped : w.ShapedOpen Tryz.prog
theorem gPow : Tryz.prog.globalNamed "internal/strconv.uint64pow10" = some 4 := by kernel_rfl
theorem Env.kept {w w' : World} (h : Env w) (hb : Below w.heap.size w w') : Env w' :=
  ⟨Joins.tab_stays gPow h.tab hb (Nat.le_refl _), h.shaped.keptBut (may := fun _ => False) (hb.frame _) (fun _ h => h.elim)⟩

/-! ### MilliText -/
theorem frac_take : ∀ r : Fin 1000, (¬ r.val % 10 = 0 → frac r.val = three r.val) ∧ (r.val % 10 = 0 → ¬ r.val % 100 / 10 = 0 → frac r.val = (three r.val).take 2) ∧
    (r.val % 10 = 0 → r.val % 100 / 10 = 0 → ¬ r.val = 0 → frac r.val = (three r.val).take 1) := by decide +kernel
theorem itoa_nat (u : Nat) : Lib.itoa (u : Int) = Lib.decDigits u := by
  unfold Lib.itoa
  rw [if_neg (by omega)]
  rfl
theorem mPos_whole {u : Nat} (h : u % 1000 = 0) : mPos u = Lib.decDigits (u / 1000) := by unfold mPos; rw [if_pos h, List.append_nil]
theorem mPos_frac {u : Nat} (h : ¬ u % 1000 = 0) : mPos u = Lib.decDigits (u / 1000) ++ 46 :: frac (u % 1000) := by unfold mPos; rw [if_neg h]
theorem frac_len (r : Nat) : (frac r).length ≤ 3 := by
  unfold frac Lib.trimRightB
  rw [List.length_reverse]
  have := (List.dropWhile_suffix (fun x => x == 48) (l := [dig (r / 100), dig (r % 100 / 10), dig (r % 10)].reverse)).length_le
  simpa using this
theorem mPos_len {u : Nat} (h : u ≤ 1000000000) : (mPos u).length ≤ 20 := by
  have h1 := dec_length_le (u / 1000) 6 (by omega)
  have h2 := frac_len (u % 1000)
  unfold mPos
  rw [List.length_append]
  split
  · simp; omega
  · simp; omega
theorem milli_neg {u : Nat} (h0 : 0 < u) (h1 : u ≤ 1000000000) : milli (-(u : Int)) = 45 :: mPos u := by
  unfold milli isVal
  rw [if_pos (by simp; omega), if_pos (by omega)]
  simp
theorem milli_pos {u : Nat} (h1 : u ≤ 1000000000) : milli (u : Int) = mPos u := by
  unfold milli isVal
  rw [if_pos (by simp; omega), if_neg (by omega)]
  simp
theorem milli_bad {v : Int} (h : v < -1000000000 ∨ 1000000000 < v) : milli v = [] := by
  unfold milli isVal
  rw [if_neg (by simp; omega)]

/-- The bytes that 'strconv.FormatInt(1000+rest, 10)' has behind its first. -/
theorem digits_rest : ∀ r : Fin 1000, Lib.itoa ((1000 + r.val : Nat) : Int) = 49 :: three r.val := by decide +kernel
theorem drop_one (c : UInt8) (l : List UInt8) : (mk (c :: l)).extract 1 (mk (c :: l)).size = mk l := by
  rw [mk_size]
  unfold mk
  rw [Lib.extract_mk]
  simp

theorem drop_one' (c : UInt8) (l : List UInt8) : (mk (c :: l)).extract 1 (l.length + 1) = mk l := by
  have := drop_one c l
  rw [mk_size] at this
  exact this
theorem point_mid (a b : List UInt8) : mk a ++ { data := #[46] } ++ mk b = mk (a ++ 46 :: b) := by
  have : ({ data := #[46] } : ByteArray) = mk [46] := rfl
  rw [this, mk_append, mk_append, List.append_assoc]
  rfl

/-! ### spec.MilliText -/
/-- 'string(digits[:k])' of a new row of three bytes. -/
theorem conv_three (w : World) (a b c : Int) (k : Nat) (hk : k ≤ 3) :
    (convert 68 9 (.slice (some ⟨w.heap.size, 0, none⟩) k 3)).run Tryz.prog (w.alloc (.cells #[.int .u8 a, .int .u8 b, .int .u8 c] 5)) =
      .ok (.string (mk (([a, b, c].take k).map fun n => UInt8.ofNat n.toNat))) (w.alloc (.cells #[.int .u8 a, .int .u8 b, .int .u8 c] 5)) := by
  have := run_convert_bytes_arg (P := Tryz.prog) (w.alloc (.cells #[.int .u8 a, .int .u8 b, .int .u8 c] 5)) 68 5 Tryz.underlying68 Tryz.underlying5 w.heap.size 0 k 3 ([a, b, c].take k) (by simp; omega) (fun i hi => by
    have : i = 0 ∨ i = 1 ∨ i = 2 := by omega
    rcases this with rfl | rfl | rfl
    · rw [List.getD_eq_getElem?_getD, List.getElem?_take, if_pos hi]; go_simp
    · rw [List.getD_eq_getElem?_getD, List.getElem?_take, if_pos hi]; go_simp
    · rw [List.getD_eq_getElem?_getD, List.getElem?_take, if_pos hi]; go_simp) 9 Tryz.underlying9
  exact this
theorem three_take (u k : Nat) : (([48 + (u : Int) % 1000 / 100, 48 + (u : Int) % 100 / 10, 48 + (u : Int) % 10].take k).map fun n => UInt8.ofNat n.toNat) = (three (u % 1000)).take k := by
  rw [List.map_take]
  congr 1
  have h1 : (48 + (u : Int) % 1000 / 100).toNat = 48 + u % 1000 / 100 := by omega
  have h2 : (48 + (u : Int) % 100 / 10).toNat = 48 + u % 1000 % 100 / 10 := by omega
  have h3 : (48 + (u : Int) % 10).toNat = 48 + u % 1000 % 10 := by omega
  simp only [List.map_cons, List.map_nil, h1, h2, h3]
  rfl

theorem point_sign (s a b : List UInt8) : mk s ++ mk a ++ { data := #[46] } ++ mk b = mk (s ++ (a ++ 46 :: b)) := by
  rw [mk_append, point_mid, List.append_assoc]

set_option maxRecDepth 100000 in
theorem spec_milli (v : Int) (w : World) :
    Calls Tryz.prog 116 #[.int .i64 v] w fun e w' => e = .returned (.string (mk (milli v))) ∧ Below w.heap.size w w' := by
  have hms := mk_size
  rcases in_ways v (-1000000000) 1000000000 with ⟨h1, h2, e⟩ | ⟨h, e⟩
  · have hu : ∃ (u : Nat) (s : List UInt8), u ≤ 1000000000 ∧ milli v = s ++ mPos u ∧ ((v < 0 ∧ v = -(u : Int) ∧ s = [45]) ∨ (¬ v < 0 ∧ v = (u : Int) ∧ s = [])) := by
      by_cases hn : v < 0
      · obtain ⟨u, rfl⟩ : ∃ u : Nat, v = -(u : Int) := ⟨v.natAbs, by omega⟩
        exact ⟨u, [45], by omega, milli_neg (by omega) (by omega), .inl ⟨hn, rfl, rfl⟩⟩
      · obtain ⟨u, rfl⟩ : ∃ u : Nat, v = (u : Int) := ⟨v.toNat, by omega⟩
        exact ⟨u, [], by omega, milli_pos (by omega), .inr ⟨hn, rfl, rfl⟩⟩
    obtain ⟨u, s, hu, hm, hs⟩ := hu
    have HM := Lib.hid hm
    clear hm
    have e1 : Lib.itoa ((u : Int) / 1000) = Lib.decDigits (u / 1000) := by
      have : (u : Int) / 1000 = ((u / 1000 : Nat) : Int) := by omega
      rw [this, itoa_nat]
    have HE := Lib.hid e1
    clear e1
    have hl := dec_length_le (u / 1000) 6 (by omega)
    rcases hs with ⟨hn, rfl, rfl⟩ | ⟨hn, rfl, rfl⟩
    all_goals
      by_cases h0 : u % 1000 = 0
      · have HP := Lib.hid (mPos_whole h0)
        have h0' : (u : Int) % 1000 = 0 := by omega
        clear h0
        go_enter Tryz.func116, Tryz.ntmps116
        go_wp2_with (first | (go_at_call 180; refine (spec_value _ _).mono ?_; rintro e w' ⟨rfl, rfl⟩) | (go_at_call 35; refine (spec_num _ _ (by omega) (by omega)).mono ?_; rw [HE.out]; rintro e w1 ⟨rfl, hb1⟩))
        go_ret
        exact ⟨ret1S (by rw [HM.out, HP.out]; exact mk_append _ _), hb1⟩
      · have HP := Lib.hid (mPos_frac h0)
        have h0' : ¬ (u : Int) % 1000 = 0 := by omega
        have HF := Lib.hid (frac_take ⟨u % 1000, by omega⟩)
        clear h0
        go_enter Tryz.func116, Tryz.ntmps116
        go_wp2_with (first | (go_at_call 180; refine (spec_value _ _).mono ?_; rintro e w' ⟨rfl, rfl⟩) | (go_at_call 35; refine (spec_num _ _ (by omega) (by omega)).mono ?_; rw [HE.out]; rintro e w1 ⟨rfl, hb1⟩))
        have HB := Lib.hid hb1
        clear hb1
        go_loop [5] (fun n => ∃ k : Nat, 1 ≤ k ∧ k ≤ 3 ∧ n = .int .i64 k ∧ Hid ((k ≤ 2 → u % 10 = 0) ∧ (k ≤ 1 → u % 100 / 10 = 0))) (fun n => (intOf n).toNat)
        case atStart => exact ⟨3, by omega, by omega, rfl, by simp [Hid]⟩
        case round =>
          obtain ⟨k, hk1, hk3, rfl, hz⟩ := hrel
          have hcv := conv_three w1 (48 + (u : Int) % 1000 / 100) (48 + (u : Int) % 100 / 10) (48 + (u : Int) % 10) k hk3
          rw [three_take] at hcv
          have hkl : ((three (u % 1000)).take k).length ≤ 3 := by simp [three]; omega
          have ends : ¬ (k = 3 ∧ u % 10 = 0) → ¬ (k = 2 ∧ u % 100 / 10 = 0) → Hid ((three (u % 1000)).take k = frac (u % 1000)) := by
            intro g1 g2
            have hf := HF.out
            have hz' := hz.out
            have : k = 3 ∨ k = 2 ∨ k = 1 := by omega
            rcases this with rfl | rfl | rfl
            · rw [Hid, hf.1 (by omega)]; rfl
            · rw [Hid, hf.2.1 (by omega) (by omega)]
            · rw [Hid, hf.2.2 (by omega) (by omega) (by omega)]
          have HEnds := Lib.hid ends
          clear ends
          have hcase : k = 3 ∨ k = 2 ∨ k = 1 := by omega
          rcases hcase with rfl | rfl | rfl
          · by_cases hq : (u : Int) % 10 ≤ 0
            · go_wp2
              go_round
              case rel => exact ⟨2, by omega, by omega, rfl, by simp [Hid]; omega⟩
              case measure => simp [intOf]
            · have HT := HEnds.out (by omega) (by omega)
              clear HEnds hz
              go_wp2
              go_ret
              exact ⟨ret1S (by rw [HM.out, HP.out, HT.out]; first | exact point_sign [45] _ _ | exact point_sign [] _ _), HB.out.alloc HB.out.size _⟩
          · by_cases hq : (u : Int) % 100 / 10 ≤ 0
            · go_wp2
              go_round
              case rel => exact ⟨1, by omega, by omega, rfl, by have := hz.out; simp [Hid]; omega⟩
              case measure => simp [intOf]
            · have HT := HEnds.out (by omega) (by omega)
              clear HEnds hz
              go_wp2
              go_ret
              exact ⟨ret1S (by rw [HM.out, HP.out, HT.out]; first | exact point_sign [45] _ _ | exact point_sign [] _ _), HB.out.alloc HB.out.size _⟩
          · have HT := HEnds.out (by omega) (by omega)
            have hq : ¬ (u : Int) % 1000 / 100 ≤ 0 := by have := hz.out; omega
            clear HEnds hz
            go_wp2
            go_ret
            exact ⟨ret1S (by rw [HM.out, HP.out, HT.out]; first | exact point_sign [45] _ _ | exact point_sign [] _ _), HB.out.alloc HB.out.size _⟩
  · rw [milli_bad h]
    clear h
    go_enter Tryz.func116, Tryz.ntmps116
    go_wp2_with (go_at_call 180; refine (spec_value _ _).mono ?_; rintro e w' ⟨rfl, rfl⟩)
    go_ret
    exact ⟨rfl, Below.refl _ _⟩
end Go.Proofs.YtgmdfkmmbcpikaaGreatDoor.Mt

/- SampleLine of chapter 2: the model's and the program's; both write lineV. -/
namespace Go.Proofs.YtgmdfkmmbcpikaaGreatDoor.Line
open Go.RowKit
open Go.Proofs.YtgmdfkmmbcpikaaGreatDoor.C1
open Go.Proofs.YtgmdfkmmbcpikaaGreatDoor.C2
open Go.Proofs.YtgmdfkmmbcpikaaGreatDoor.Milli
open Go.Proofs.YtgmdfkmmbcpikaaGreatDoor.Mt
set_option linter.unusedVariables false

/-- A world in which all that lies in w lies as it did. -/
structure Later (w : World) where
  u : World
  h : Below w.heap.size w u
instance (w : World) : Inhabited (Later w) := ⟨⟨w, Below.refl _ _⟩⟩
theorem region_later {P : Program} {id : Nat} {Q : Exit → Act → World → Prop} {a : Act} {w : World} {l : List Oper} (hm : P.follows .mixedOrders = true) (hB : Region.lexB .any l.toArray = true)
    (h : wpQuiet P l.toArray (fun w' => ∃ p : Later w, w' = p.u) (fun a' => ∀ w', (∃ p : Later w, w' = p.u) → Q .normal a' w') l a) : (Code.region id l.toArray true).wp P Q a w :=
  wp_region_quiet (C := fun w' => ∃ p : Later w, w' = p.u) hm hB ⟨⟨w.drew, (Below.refl _ _).drew⟩, rfl⟩ (by simpa using h)
theorem later_call {P : Program} {f : FuncId} {args : Array Value} {w : World} {v : Value} {p : Later w} (h : Calls P f args p.u fun e w' => e = .returned v ∧ Below p.u.heap.size p.u w') :
    Calls P f args p.u fun e w' => e = .returned v ∧ ∃ q : Later w, w' = q.u :=
  h.mono fun e w' ⟨he, hb⟩ => ⟨he, ⟨w', p.h.trans (hb.mono p.h.size)⟩, rfl⟩
theorem later_cell {w : World} {b j : Nat} {v : Value} (hb : b < w.heap.size) (h : w.cell? ⟨b, j, none⟩ = some v) (p : Later w) : p.u.cell? ⟨b, j, none⟩ = some v := by
  rw [p.h.cell (p := ⟨b, j, none⟩) hb]; exact h

def lineL (s : Smp) : List UInt8 := s.pod.data.toList ++ 32 :: (s.met.data.toList ++ 32 :: (milli s.val ++ 32 :: Lib.itoa s.tick))
/-- What SampleLine writes. -/
def lineV (s : Smp) : List UInt8 := if okV s then lineL s else []
theorem line_eq (p m : ByteArray) (a b : List UInt8) : p ++ { data := #[32] } ++ m ++ { data := #[32] } ++ mk a ++ { data := #[32] } ++ mk b = mk (p.data.toList ++ 32 :: (m.data.toList ++ 32 :: (a ++ 32 :: b))) := by
  have e : ({ data := #[32] } : ByteArray) = mk [32] := rfl
  rw [e, ← mk_of p, ← mk_of m, mk_append, mk_append, mk_append, mk_append, mk_append, mk_append]
  simp [mk_list]
theorem name_len {l : List UInt8} (h : nameV l = true) : 1 ≤ l.length ∧ l.length ≤ 12 := by
  unfold nameV at h
  simp only [Bool.and_eq_true, decide_eq_true_eq] at h
  exact h.1
theorem size_of {v : Int} (h : sizeV v = true) : 0 ≤ v ∧ v ≤ 1000000000 := by unfold sizeV at h; simpa using h
theorem ok_parts {s : Smp} (h : okV s = true) : nameV s.pod.data.toList = true ∧ nameV s.met.data.toList = true ∧ sizeV s.val = true ∧ sizeV s.tick = true := by
  unfold okV at h
  simp only [Bool.and_eq_true] at h
  exact ⟨h.1.1.1, h.1.1.2, h.1.2, h.2⟩
theorem milli_len {v : Int} (h : sizeV v = true) : (milli v).length ≤ 20 := by
  obtain ⟨h0, h1⟩ := size_of h
  obtain ⟨u, rfl⟩ : ∃ u : Nat, v = (u : Int) := ⟨v.toNat, by omega⟩
  rw [milli_pos (by omega)]
  exact mPos_len (by omega)
theorem itoa_zero : Lib.itoa 0 = [48] := by decide +kernel
theorem itoa_len {v : Int} (h : sizeV v = true) : (Lib.itoa v).length ≤ 20 := by
  obtain ⟨h0, h1⟩ := size_of h
  by_cases hv : v = 0
  · subst hv; simp [itoa_zero]
  · rw [itoa_of v hv, if_neg (by omega)]
    have := dd_le v (by omega) (by omega)
    simp; omega

theorem add_at (P : Program) (x y : ByteArray) (h : x.size + y.size ≤ 1000) : ∀ w, (Op.stringOp .add x y).run P w = .ok (.string (x ++ y)) w := fun w => run_string_add_sum w x y (by omega)
theorem itoa_int (n : Int) (h0 : -9223372036854775808 ≤ n) (h1 : n ≤ 9223372036854775807) (w : World) (he : Env w) :
    Calls Tryz.prog 43 #[.int .i64 n] w fun e w' => e = .returned (.string (mk (Lib.itoa n))) ∧ Below w.heap.size w w' :=
  (Tryz.strconv_Itoa n h0 h1 w he.tab).mono fun e w' ⟨e1, k, os, e2⟩ => by
    subst e2
    exact ⟨e1, Lib.below_grow w.heap.size w (Nat.le_refl _) k os⟩
end Go.Proofs.YtgmdfkmmbcpikaaGreatDoor.Line
