/- PrintScrape of chapter 2: the model's and the program's; both write printV. -/
import Derived.Test.YtahhemgmlmhbjaaDoorBld
import Derived.Test.YtahhemgmlmhbjaaDoorSmps
namespace Go.Proofs.YtahhemgmlmhbjaaDoor.Print
open Go.RowKit
open Go.Proofs.YtahhemgmlmhbjaaDoor.C1
open Go.Proofs.YtahhemgmlmhbjaaDoor.C2
open Go.Proofs.YtahhemgmlmhbjaaDoor.Smps
open Go.Proofs.YtahhemgmlmhbjaaDoor.Milli
open Go.Proofs.YtahhemgmlmhbjaaDoor.Mt
open Go.Proofs.YtahhemgmlmhbjaaDoor.Line
open Go.Proofs.YtahhemgmlmhbjaaDoor.Bld
set_option linter.unusedVariables false

/-! ### Plain mathematics. -/
def printL (xs : List Smp) : List UInt8 := xs.flatMap fun s => lineL s ++ [10]
def printB (xs : List Smp) : Bool := decide (xs.length ≤ 100) && xs.all okV
def printV (xs : List Smp) : List UInt8 := if printB xs then printL xs else []
theorem printL_snoc (xs : List Smp) (k : Nat) (h : k < xs.length) : printL (xs.take (k + 1)) = printL (xs.take k) ++ (lineL xs[k] ++ [10]) := by
  unfold printL
  rw [List.take_succ_eq_append_getElem h, List.flatMap_append]
  simp
theorem line_len {s : Smp} (h : okV s = true) : (lineL s).length ≤ 67 ∧ lineL s ≠ [] := by
  obtain ⟨h1, h2, h3, h4⟩ := ok_parts h
  have l1 := name_len h1
  have l2 := name_len h2
  have l3 := milli_len h3
  have l4 := itoa_len h4
  refine ⟨?_, fun e => ?_⟩
  · unfold lineL
    simp only [List.length_append, List.length_cons]
    omega
  · have := congrArg List.length e
    unfold lineL at this
    simp at this
theorem printL_len : ∀ xs : List Smp, (∀ s ∈ xs, okV s = true) → (printL xs).length ≤ 68 * xs.length
  | [], _ => by simp [printL]
  | s :: r, h => by
    have ih := printL_len r fun x hx => h x (List.mem_cons_of_mem _ hx)
    have hl := (line_len (h s (by simp))).1
    unfold printL at ih ⊢
    rw [List.flatMap_cons, List.length_append, List.length_append, List.length_cons]
    simp only [List.length_cons, List.length_nil]
    omega
theorem print_big {xs : List Smp} (h : 100 < xs.length) : printB xs = false := by unfold printB; simp; intro h2; omega
theorem print_bad {xs : List Smp} (k : Nat) (hk : k < xs.length) (h : okV xs[k] = false) : printB xs = false := by
  unfold printB
  rw [Bool.and_eq_false_iff]
  right
  rw [List.all_eq_false]
  exact ⟨xs[k], List.getElem_mem _, by simp [h]⟩
theorem print_good {xs : List Smp} (hm : xs.length ≤ 100) (h : ∀ (i : Nat) (hi : i < xs.length), okV xs[i] = true) : printB xs = true := by
  unfold printB
  rw [Bool.and_eq_true]
  refine ⟨decide_eq_true hm, List.all_eq_true.2 fun s hs => ?_⟩
  obtain ⟨i, hi, rfl⟩ := List.getElem_of_mem hs
  exact h i hi
theorem retSB {a c : ByteArray} {b d : Bool} (h1 : a = c) (h2 : b = d) : Ending.returned (.tuple #[.string a, .bool b]) = .returned (.tuple #[.string c, .bool d]) := by rw [h1, h2]
theorem no_text {xs : List Smp} (h : printB xs = false) : (⟨#[]⟩ : ByteArray) = mk (printV xs) := by unfold printV; rw [h]; rfl
theorem the_text {xs : List Smp} (h : printB xs = true) : mk (printL xs) = mk (printV xs) := by unfold printV; rw [if_pos h]
theorem mk_snoc (l m : List UInt8) : mk l ++ mk m ++ { data := #[10] } = mk (l ++ (m ++ [10])) := by
  rw [mk_append, show ({ data := #[10] } : ByteArray) = mk [10] from rfl, mk_append, List.append_assoc]
theorem mk_snoc2 (m : List UInt8) : mk m ++ { data := #[10] } = mk (m ++ [10]) := by
  rw [show ({ data := #[10] } : ByteArray) = mk [10] from rfl, mk_append]

set_option maxHeartbeats 1600000 in
theorem spec_print (xs : List Smp) (hwf : ∀ s ∈ xs, s.wf) (a : Option Addr) (cap : Nat) (w : World) (h : Smps w a xs) (hm : xs.length ≤ 1048576) :
    Calls Tryd.prog 14 #[.slice a xs.length cap] w fun e w' => e = .returned (.tuple #[.string (mk (printV xs)), .bool (printB xs)]) ∧ Below w.heap.size w w' := by
  by_cases hbig : 100 < xs.length
  · have HB := Lib.hid (print_big hbig)
    go_enter Tryd.func14, Tryd.ntmps14
    go_wp2
    go_ret2
    exact ⟨retSB (no_text HB.out) HB.out.symm, Below.refl _ _⟩
  · have hm2 : xs.length ≤ 100 := by omega
    obtain ⟨b, off, ha, hb, hcell⟩ := h.cells
    have Hc := Lib.hid hcell
    have Ha := Lib.hid ha
    have Hb := Lib.hid hb
    have HW := Lib.hid hwf
    clear hcell ha hb h hbig hm hwf
    go_enter Tryd.func14, Tryd.ntmps14
    go_wp2
    go_loopw [4, 5] (fun v i wr => ∃ k : Nat, k ≤ xs.length ∧ i = .int .i64 k ∧ v = .string (mk (printL (xs.take k))) ∧ Hid (∀ (j : Nat) (h : j < xs.length), j < k → okV xs[j] = true) ∧ Hid (Below w.heap.size w wr)) (fun _ i _ => xs.length - (intOf i).toNat)
    case atStart => exact ⟨0, Nat.zero_le _, rfl, rfl, fun j _ hj => absurd hj (Nat.not_lt_zero _), Below.refl _ _⟩
    case round =>
      obtain ⟨k, hk, rfl, rfl, HK, HB⟩ := hrel
      by_cases hlt : k < xs.length
      · obtain rfl := Ha.out (by omega)
        have HQ : Hid (At4 wr b (off + k * 4) xs[k]) := (Hc.out k hlt).kept HB.out (Hb.out (by omega))
        have HBR : Hid (b < wr.heap.size) := Nat.lt_of_lt_of_le (Hb.out (by omega)) HB.out.size
        obtain ⟨q0, q1, q2, q3⟩ := HQ.out
        have HXW := Lib.hid (HW.out xs[k] (List.getElem_mem _))
        cases hok : okV xs[k]
        · have HF := Lib.hid (print_bad k hlt hok)
          have hc := fun w => spec_ok xs[k] HXW.out w
          rw [hok] at hc
          have HCC := Lib.hid hc
          clear hc hok
          go_wp2_with (go_at_call 18; refine (HCC.out _).mono ?_; rintro e w1 ⟨rfl, hb1⟩; have HB1 := Lib.hid (HB.out.trans (hb1.mono HB.out.size)); clear hb1)
          go_ret2
          exact ⟨retSB (no_text HF.out) HF.out.symm, HB1.out⟩
        · have hc := fun w => spec_ok xs[k] HXW.out w
          rw [hok] at hc
          have HCC := Lib.hid hc
          have HLL := Lib.hid (line_len hok)
          have hv : lineV xs[k] = lineL xs[k] := by unfold lineV; rw [if_pos hok]
          have hd := fun w => spec_line xs[k] HXW.out w
          rw [hv] at hd
          have HDD := Lib.hid hd
          have HK2 : Hid (∀ (j : Nat) (h : j < xs.length), j < k + 1 → okV xs[j] = true) := fun j hj hjk => by
            by_cases e : j = k
            · subst e; exact hok
            · exact HK.out j hj (by omega)
          have HPL : Hid ((printL (xs.take k)).length ≤ 6800) := by
            show _ ≤ _
            have := printL_len (xs.take k) fun s hs => by
              obtain ⟨i, hi, rfl⟩ := List.getElem_of_mem hs
              rw [List.getElem_take]
              exact HK.out i (by simp at hi; omega) (by simp at hi; omega)
            rw [List.length_take] at this
            omega
          have HN := Lib.hid (printL_snoc xs k hlt)
          obtain ⟨L, hL⟩ : ∃ L, lineL xs[k] = L := ⟨_, rfl⟩
          obtain ⟨T, hT⟩ : ∃ T, printL (xs.take k) = T := ⟨_, rfl⟩
          rw [hL] at HLL HDD HN
          rw [hT] at HPL HN ⊢
          have hLs := mk_size L
          have hTs := mk_size T
          have hLl := HLL.out.1
          have hTl := HPL.out
          have hAs : (mk T ++ mk L).size = T.length + L.length := by rw [mk_append, mk_size, List.length_append]
          have hNs : ({ data := #[10] } : ByteArray).size = 1 := rfl
          clear hc hd hv hok hL hT
          go_wp2_with (first | (go_at_call 18; refine (HCC.out _).mono ?_; rintro e w1 ⟨rfl, hb1⟩; have HB1 := Lib.hid (HB.out.trans (hb1.mono HB.out.size)); have HBR1 := Lib.hid (Nat.lt_of_lt_of_le HBR.out hb1.size); clear q0 q1 q2 q3; obtain ⟨q0, q1, q2, q3⟩ := HQ.out.kept hb1 HBR.out; clear hb1) | (go_at_call 7; refine (HDD.out _).mono ?_; rintro e w2 ⟨rfl, hb2⟩; have HB2 := Lib.hid (HB1.out.trans (hb2.mono HB1.out.size)); clear hb2))
          go_roundw
          case rel => exact ⟨k + 1, by omega, by go_num, by rw [HN.out, ← mk_snoc], HK2.out, HB2⟩
          case measure => simp [intOf]; omega
      · obtain rfl : k = xs.length := by omega
        have HF := Lib.hid (print_good hm2 fun i hi => HK.out i hi hi)
        clear hlt
        go_wp2
        go_ret2
        exact ⟨retSB (by rw [List.take_length]; exact the_text HF.out) HF.out.symm, HB.out⟩

set_option maxHeartbeats 1600000 in
theorem impl_print (xs : List Smp) (hwf : ∀ s ∈ xs, s.wf) (a : Option Addr) (cap : Nat) (w : World) (he : Env w) (h : Smps w a xs) (hm : xs.length ≤ 1048576) :
    Calls Tryd.prog 16 #[.slice a xs.length cap] w fun e w' => e = .returned (.tuple #[.string (mk (printV xs)), .bool (printB xs)]) ∧ Below w.heap.size w w' := by
  by_cases hbig : 100 < xs.length
  · have HB := Lib.hid (print_big hbig)
    go_enter Tryd.func16, Tryd.ntmps16
    go_wp2
    go_ret2
    exact ⟨retSB (no_text HB.out) HB.out.symm, Below.refl _ _⟩
  · have hm2 : xs.length ≤ 100 := by omega
    obtain ⟨b, off, ha, hb, hcell⟩ := h.cells
    have Hc := Lib.hid hcell
    have Ha := Lib.hid ha
    have Hb := Lib.hid hb
    have HW := Lib.hid hwf
    have HE := Lib.hid he
    have HN0 := Lib.hid (bld_new w)
    have HB0 : Hid (Below w.heap.size w (w.alloc (.cells #[.pointer none, .slice none 0 0] 55))) := (Below.refl _ _).alloc (Nat.le_refl _) _
    clear hcell ha hb h hbig hm hwf he
    go_enter Tryd.func16, Tryd.ntmps16
    go_wp2
    go_loopw [13] (fun i wr => ∃ k : Nat, k ≤ xs.length ∧ i = .int .i64 k ∧ Hid (Lib.IsBuilder 55 5 w.heap.size w.heap.size (Lib.byteCells (printL (xs.take k))) wr) ∧ Hid (∀ (j : Nat) (h : j < xs.length), j < k → okV xs[j] = true) ∧ Hid (Below w.heap.size w wr)) (fun i _ => xs.length - (intOf i).toNat)
    case atStart => exact ⟨0, Nat.zero_le _, rfl, HN0.out, fun j _ hj => absurd hj (Nat.not_lt_zero _), HB0⟩
    case round =>
      obtain ⟨k, hk, rfl, HI, HK, HB⟩ := hrel
      by_cases hlt : k < xs.length
      · obtain rfl := Ha.out (by omega)
        obtain ⟨q0, q1, q2, q3⟩ := (Hc.out k hlt).kept HB.out (Hb.out (by omega))
        have HXW := Lib.hid (HW.out xs[k] (List.getElem_mem _))
        have HBX : Hid (Below w.heap.size w (wr.alloc (.cells #[.string xs[k].pod, .string xs[k].met, .int .i64 xs[k].val, .int .i64 xs[k].tick] 26))) := HB.out.alloc HB.out.size _
        have HIX : Hid (Lib.IsBuilder 55 5 w.heap.size w.heap.size (Lib.byteCells (printL (xs.take k))) (wr.alloc (.cells #[.string xs[k].pod, .string xs[k].met, .int .i64 xs[k].val, .int .i64 xs[k].tick] 26))) := bld_kept HI.out (box_below _ _ _)
        have HEX := Lib.hid (HE.out.kept HBX.out)
        have hd := fun w he => impl_line xs[k] HXW.out w he
        cases hok : okV xs[k]
        · have HF := Lib.hid (print_bad k hlt hok)
          have hv : mk (lineV xs[k]) = (⟨#[]⟩ : ByteArray) := by unfold lineV; rw [hok]; rfl
          rw [hv] at hd
          have hLe : (⟨#[]⟩ : ByteArray).toList.isEmpty = true := by rw [ByteArray.toList_eq]; rfl
          have HDD := Lib.hid hd
          clear hd hv hok
          go_wp2_with (go_at_call 9; refine (HDD.out _ HEX.out).mono ?_; rintro e w1 ⟨rfl, hb1⟩; have HB1 := Lib.hid (HBX.out.trans (hb1.mono HBX.out.size)); clear hb1)
          go_ret2
          exact ⟨retSB (no_text HF.out) HF.out.symm, HB1.out⟩
        · have HLL := Lib.hid (line_len hok)
          have hv : lineV xs[k] = lineL xs[k] := by unfold lineV; rw [if_pos hok]
          rw [hv] at hd
          have HDD := Lib.hid hd
          have HK2 : Hid (∀ (j : Nat) (h : j < xs.length), j < k + 1 → okV xs[j] = true) := fun j hj hjk => by
            by_cases e : j = k
            · subst e; exact hok
            · exact HK.out j hj (by omega)
          have HPL : Hid ((printL (xs.take k)).length ≤ 6800) := by
            show _ ≤ _
            have := printL_len (xs.take k) fun s hs => by
              obtain ⟨i, hi, rfl⟩ := List.getElem_of_mem hs
              rw [List.getElem_take]
              exact HK.out i (by simp at hi; omega) (by simp at hi; omega)
            rw [List.length_take] at this
            omega
          have HN := Lib.hid (printL_snoc xs k hlt)
          obtain ⟨L, hL⟩ : ∃ L, lineL xs[k] = L := ⟨_, rfl⟩
          obtain ⟨T, hT⟩ : ∃ T, printL (xs.take k) = T := ⟨_, rfl⟩
          rw [hL] at HLL HDD HN
          rw [hT] at HPL HN HIX
          have hLs := mk_size L
          have hLl := HLL.out.1
          have hLe : (mk L).toList.isEmpty = false := by
            rw [ByteArray.toList_eq, mk_list]
            have := HLL.out.2
            cases L
            · exact absurd rfl this
            · rfl
          have hNs : ({ data := #[10] } : ByteArray).size = 1 := rfl
          have HSZ : Hid ((mk L ++ { data := #[10] }).size ≤ 68) := by show _ ≤ _; rw [mk_snoc2, mk_size, List.length_append]; simp; omega
          clear hd hv hok hL hT
          go_wp2_with (first | (go_at_call 9; refine (HDD.out _ HEX.out).mono ?_; rintro e w1 ⟨rfl, hb1⟩; have HB1 := Lib.hid (HBX.out.trans (hb1.mono HBX.out.size)); have HI1 := Lib.hid (bld_kept HIX.out hb1); clear hb1) | (go_at_call 30; refine (write_string _ _ _ _ _ HI1.out (by have h1 := HSZ.out; have h2 := HPL.out; rw [Lib.byteCells_length]; omega) HB1.out.size).mono ?_; rintro e w2 ⟨rfl, hi2, hb2⟩; have HB2 := Lib.hid (HB1.out.trans hb2); have HI2 := Lib.hid hi2; clear hi2 hb2))
          have HI3 : Hid (Lib.IsBuilder 55 5 w.heap.size w.heap.size (Lib.byteCells (printL (xs.take (k + 1)))) w2) := by
            have h := HI2.out
            rw [mk_snoc2] at h
            unfold mk at h
            rw [cells_snoc, ← HN.out] at h
            exact h
          go_roundw
          case rel => exact ⟨k + 1, by omega, by go_num, HI3, HK2, HB2⟩
          case measure => simp [intOf]; omega
      · obtain rfl : k = xs.length := by omega
        have HF := Lib.hid (print_good hm2 fun i hi => HK.out i hi hi)
        have hI := HI.out
        rw [List.take_length] at hI
        have HI2 := Lib.hid hI
        clear hlt hI
        go_wp2_with (go_at_call 31; refine (Tryd.Builder_String_any _ _ _ _ HI2.out HB.out.size).mono ?_; rintro e w1 ⟨rfl, hb1⟩; have HB1 := Lib.hid (HB.out.trans hb1); clear hb1)
        go_ret2
        exact ⟨retSB (the_text HF.out) HF.out.symm, HB1.out⟩
end Go.Proofs.YtahhemgmlmhbjaaDoor.Print
