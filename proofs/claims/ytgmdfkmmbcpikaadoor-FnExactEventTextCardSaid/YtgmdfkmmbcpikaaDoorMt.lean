/- Contracts of the decimal texts: spec.l01Num, MilliText. -/
import Derived.Test.YtgmdfkmmbcpikaaDoorC1
import Derived.Test.YtgmdfkmmbcpikaaDoorMilli
import Derived.Laws.BytesArg
import Derived.Below
import Derived.Test.YtgmdfkmmbcpikaaDoorShelf
import Derived.Lib.SmallJoins
import Derived.Lib.AppendIntMem
import Derived.ChangeAgain
namespace Go.Proofs.YtgmdfkmmbcpikaaDoor.Mt
open Go.RowKit
open Go.Proofs.YtgmdfkmmbcpikaaDoor.C1 Go.Proofs.YtgmdfkmmbcpikaaDoor.Milli

theorem ret1S {a b : ByteArray} (h : a = b) : Ending.returned (.string a) = .returned (.string b) := by rw [h]
theorem str_eq {a b : ByteArray} (h : a = b) : Value.string a = .string b := by rw [h]

/-- 'string([]byte{v})': the new row of one byte, read as a string. -/
theorem conv_one (w : World) (v : Int) :
    (convert 52 9 (.slice (some ⟨w.heap.size, 0, none⟩) 1 1)).run Tryd.prog (w.alloc (.cells #[.int .u8 v] 5)) = .ok (.string (mk [UInt8.ofNat v.toNat])) (w.alloc (.cells #[.int .u8 v] 5)) := by
  have := run_convert_bytes_arg (P := Tryd.prog) (w.alloc (.cells #[.int .u8 v] 5)) 52 5 Tryd.underlying52 Tryd.underlying5 w.heap.size 0 1 1 [v] rfl (fun i hi => by
    have : i = 0 := by omega
    subst this
    go_simp) 9 Tryd.underlying9
  exact this

/-- The digits still to come of n, in front of those that stand: none for 0. -/
def dd (n : Nat) : List UInt8 := if n = 0 then [] else Lib.decDigits n
theorem dd_step (n : Nat) (h : n ≠ 0) : dd n = dd (n / 10) ++ [UInt8.ofNat (48 + n % 10)] := by
  unfold dd
  rw [if_neg h, Lib.decDigits]
  by_cases h1 : n < 10
  · rw [dif_pos h1, if_pos (by omega), Nat.mod_eq_of_lt h1]; rfl
  · rw [dif_neg h1, if_neg (by omega)]

theorem dd_le (x : Int) (h1 : -9223372036854775808 ≤ x) (h2 : x ≤ 9223372036854775807) : (dd x.natAbs).length ≤ 19 := by
  unfold dd
  split
  · simp
  · exact dec_length_le _ 18 (Nat.lt_of_le_of_lt (by omega : x.natAbs ≤ 9223372036854775808) (by decide))
theorem itoa_of (x : Int) (h : x ≠ 0) : Lib.itoa x = (if x < 0 then [45] else []) ++ dd x.natAbs := by
  unfold Lib.itoa dd
  have : x.natAbs ≠ 0 := by omega
  rw [if_neg this]
  split
  · rfl
  · have : x.toNat = x.natAbs := by omega
    rw [this]; rfl

set_option maxRecDepth 100000 in
theorem spec_num (x : Int) (w : World) (h1 : -9223372036854775808 ≤ x) (h2 : x ≤ 9223372036854775807) :
    Calls Tryd.prog 18 #[.int .i64 x] w fun e w' => e = .returned (.string (mk (Lib.itoa x))) ∧ Below w.heap.size w w' := by
  by_cases hx : x = 0
  · subst hx
    go_enter Tryd.func18, Tryd.ntmps18
    go_wp2
    go_ret
    exact ⟨ret1S (by rw [Lib.itoa, if_neg (by omega), Int.toNat_zero, Lib.decDigits, dif_pos (by omega)]; rfl), Below.refl _ _⟩
  · have hit := Lib.hid (itoa_of x hx)
    have hms := mk_size
    have hdl := dd_le x h1 h2
    have HDL := Lib.hid hdl
    clear hdl
    by_cases hneg : x < 0
    all_goals
      go_enter Tryd.func18, Tryd.ntmps18
      go_wp2
      go_loopw [0, 3] (fun y o wr => ∃ (n : Int) (l : List UInt8), y = .int .i64 n ∧ o = .string (mk l) ∧ -9223372036854775808 ≤ n ∧ n ≤ 9223372036854775807 ∧ Hid (dd n.natAbs ++ l = dd x.natAbs) ∧ Below w.heap.size w wr) (fun y _ _ => (intOf y).natAbs)
      case atStart => exact ⟨x, [], rfl, rfl, h1, h2, by simp [Hid], Below.refl _ _⟩
      case round =>
        obtain ⟨n, l, rfl, rfl, hn1, hn2, hd, hb⟩ := hrel
        have hsz := hb.size
        have hl : l.length ≤ 19 := by
          have := congrArg List.length hd.out
          have := HDL.out
          simp at *
          omega
        have HB := Lib.hid hb
        clear hb
        by_cases h0 : n = 0
        · subst h0
          have hld : Hid (l = dd x.natAbs) := hd.out
          go_wp2
          go_ret
          exact ⟨ret1S (by rw [hit.out, ← hld.out]; first | (rw [if_pos hneg]; exact mk_append [45] l) | (rw [if_neg (by omega)]; rfl)), HB.out⟩
        · have hst := Lib.hid (dd_step n.natAbs (by omega))
          by_cases hp : 0 < n
          · have hcv := conv_one wr (48 + n % 10)
            go_wp2
            go_roundw
            case rel => exact ⟨n / 10, UInt8.ofNat (48 + n % 10).toNat :: l, rfl, str_eq (mk_append [_] l), by omega, by omega, by
                have e1 : (n / 10).natAbs = n.natAbs / 10 := by omega
                have e2 : (48 + n % 10).toNat = 48 + n.natAbs % 10 := by omega
                have := hd.out
                rw [hst.out, List.append_assoc] at this
                rw [e1, e2]
                exact this, HB.out.alloc hsz _⟩
            case measure => simp [intOf]; omega
          · obtain ⟨q, r, hq, hr, g1, g2, -, g4, -⟩ := div_parts n 10 (by omega)
            have hdm : n = 10 * q + r := by have := Int.tmod_add_mul_tdiv n 10; rw [hq, hr] at this; omega
            have HD := Lib.hid hdm
            clear hdm
            obtain ⟨g5, g6, g7⟩ := g4 (by omega)
            clear g4
            by_cases hr0 : r < 0
            · have hcv := conv_one wr (48 + -r)
              go_wp2
              go_roundw
              case rel => exact ⟨q, UInt8.ofNat (48 + -r).toNat :: l, rfl, str_eq (mk_append [_] l), by omega, by omega, by
                  have hdm := HD.out
                  have e1 : q.natAbs = n.natAbs / 10 := by omega
                  have e2 : (48 + -r).toNat = 48 + n.natAbs % 10 := by omega
                  have := hd.out
                  rw [hst.out, List.append_assoc] at this
                  rw [e1, e2]
                  exact this, HB.out.alloc hsz _⟩
              case measure => have := HD.out; simp [intOf]; omega
            · obtain rfl : r = 0 := by omega
              have hcv := conv_one wr 48
              go_wp2
              go_roundw
              case rel => exact ⟨q, UInt8.ofNat 48 :: l, rfl, str_eq (mk_append [_] l), by omega, by omega, by
                  have hdm := HD.out
                  have e1 : q.natAbs = n.natAbs / 10 := by omega
                  have e2 : 48 = 48 + n.natAbs % 10 := by omega
                  have := hd.out
                  rw [hst.out, List.append_assoc, ← e2] at this
                  rw [e1]
                  exact this, HB.out.alloc hsz _⟩
              case measure => have := HD.out; simp [intOf]; omega

/-! ### what the calls read of the library's variables -/
/-- The table of powers of ten stands, and the world has the program's shape. -/
structure Env (w : World) : Prop where
  tab : Lib.TabIs Tryd.prog w "internal/strconv.uint64pow10" .u64 Lib.pow10Tab
  shaped : w.ShapedOpen Tryd.prog
theorem gPow : Tryd.prog.globalNamed "internal/strconv.uint64pow10" = some 2 := by kernel_rfl
theorem Env.kept {w w' : World} (h : Env w) (hb : Below w.heap.size w w') : Env w' :=
  ⟨Joins.tab_stays gPow h.tab hb (Nat.le_refl _), h.shaped.keptBut (may := fun _ => False) (hb.frame _) (fun _ h => h.elim)⟩

/-! ### MilliText -/
theorem frac_take : ∀ r : Fin 1000, (¬ r.val % 10 = 0 → frac r.val = three r.val) ∧ (r.val % 10 = 0 → ¬ r.val % 100 / 10 = 0 → frac r.val = (three r.val).take 2) ∧
    (r.val % 10 = 0 → r.val % 100 / 10 = 0 → ¬ r.val = 0 → frac r.val = (three r.val).take 1) := by decide +kernel
theorem itoa_nat (u : Nat) : Lib.itoa (u : Int) = Lib.decDigits u := by
  unfold Lib.itoa
  rw [if_neg (by omega)]
  rfl
theorem mPos_whole {u : Nat} (h : u % 1000 = 0) : mPos u = Lib.decDigits (u / 1000) := by unfold mPos; rw [if_pos h, List.append_nil]
theorem mPos_frac {u : Nat} (h : ¬ u % 1000 = 0) : mPos u = Lib.decDigits (u / 1000) ++ 46 :: frac (u % 1000) := by unfold mPos; rw [if_neg h]
theorem frac_len (r : Nat) : (frac r).length ≤ 3 := by
  unfold frac Lib.trimRightB
  rw [List.length_reverse]
  have := (List.dropWhile_suffix (fun x => x == 48) (l := [dig (r / 100), dig (r % 100 / 10), dig (r % 10)].reverse)).length_le
  simpa using this
theorem mPos_len {u : Nat} (h : u ≤ 1000000000) : (mPos u).length ≤ 20 := by
  have h1 := dec_length_le (u / 1000) 6 (by omega)
  have h2 := frac_len (u % 1000)
  unfold mPos
  rw [List.length_append]
  split
  · simp; omega
  · simp; omega
theorem milli_neg {u : Nat} (h0 : 0 < u) (h1 : u ≤ 1000000000) : milli (-(u : Int)) = 45 :: mPos u := by
  unfold milli isVal
  rw [if_pos (by simp; omega), if_pos (by omega)]
  simp
theorem milli_pos {u : Nat} (h1 : u ≤ 1000000000) : milli (u : Int) = mPos u := by
  unfold milli isVal
  rw [if_pos (by simp; omega), if_neg (by omega)]
  simp
theorem milli_bad {v : Int} (h : v < -1000000000 ∨ 1000000000 < v) : milli v = [] := by
  unfold milli isVal
  rw [if_neg (by simp; omega)]

/-- The bytes that 'strconv.FormatInt(1000+rest, 10)' has behind its first. -/
theorem digits_rest : ∀ r : Fin 1000, Lib.itoa ((1000 + r.val : Nat) : Int) = 49 :: three r.val := by decide +kernel
theorem drop_one (c : UInt8) (l : List UInt8) : (mk (c :: l)).extract 1 (mk (c :: l)).size = mk l := by
  rw [mk_size]
  unfold mk
  rw [Lib.extract_mk]
  simp

theorem drop_one' (c : UInt8) (l : List UInt8) : (mk (c :: l)).extract 1 (l.length + 1) = mk l := by
  have := drop_one c l
  rw [mk_size] at this
  exact this
theorem point_mid (a b : List UInt8) : mk a ++ { data := #[46] } ++ mk b = mk (a ++ 46 :: b) := by
  have : ({ data := #[46] } : ByteArray) = mk [46] := rfl
  rw [this, mk_append, mk_append, List.append_assoc]
  rfl

/-! ### spec.MilliText -/
/-- 'string(digits[:k])' of a new row of three bytes. -/
theorem conv_three (w : World) (a b c : Int) (k : Nat) (hk : k ≤ 3) :
    (convert 52 9 (.slice (some ⟨w.heap.size, 0, none⟩) k 3)).run Tryd.prog (w.alloc (.cells #[.int .u8 a, .int .u8 b, .int .u8 c] 5)) =
      .ok (.string (mk (([a, b, c].take k).map fun n => UInt8.ofNat n.toNat))) (w.alloc (.cells #[.int .u8 a, .int .u8 b, .int .u8 c] 5)) := by
  have := run_convert_bytes_arg (P := Tryd.prog) (w.alloc (.cells #[.int .u8 a, .int .u8 b, .int .u8 c] 5)) 52 5 Tryd.underlying52 Tryd.underlying5 w.heap.size 0 k 3 ([a, b, c].take k) (by simp; omega) (fun i hi => by
    have : i = 0 ∨ i = 1 ∨ i = 2 := by omega
    rcases this with rfl | rfl | rfl
    · rw [List.getD_eq_getElem?_getD, List.getElem?_take, if_pos hi]; go_simp
    · rw [List.getD_eq_getElem?_getD, List.getElem?_take, if_pos hi]; go_simp
    · rw [List.getD_eq_getElem?_getD, List.getElem?_take, if_pos hi]; go_simp) 9 Tryd.underlying9
  exact this
theorem three_take (u k : Nat) : (([48 + (u : Int) % 1000 / 100, 48 + (u : Int) % 100 / 10, 48 + (u : Int) % 10].take k).map fun n => UInt8.ofNat n.toNat) = (three (u % 1000)).take k := by
  rw [List.map_take]
  congr 1
  have h1 : (48 + (u : Int) % 1000 / 100).toNat = 48 + u % 1000 / 100 := by omega
  have h2 : (48 + (u : Int) % 100 / 10).toNat = 48 + u % 1000 % 100 / 10 := by omega
  have h3 : (48 + (u : Int) % 10).toNat = 48 + u % 1000 % 10 := by omega
  simp only [List.map_cons, List.map_nil, h1, h2, h3]
  rfl

theorem point_sign (s a b : List UInt8) : mk s ++ mk a ++ { data := #[46] } ++ mk b = mk (s ++ (a ++ 46 :: b)) := by
  rw [mk_append, point_mid, List.append_assoc]

end Go.Proofs.YtgmdfkmmbcpikaaDoor.Mt
