/- Names and samples of chapter 2: what NameOk and SampleOk answer (the model's and the program's), and how a sample lies in memory. -/
import Derived.Test.YtgmdfkmmbcpikaaGreatC1
import Derived.Laws.RangeAny
import Derived.Below
namespace Go.Proofs.YtgmdfkmmbcpikaaGreat.C2
open Go.RowKit
open Go.Proofs.YtgmdfkmmbcpikaaGreat.C1
set_option linter.unusedVariables false

def nameCh (c : UInt8) : Bool := decide (97 ≤ c.toNat ∧ c.toNat ≤ 122 ∨ 48 ≤ c.toNat ∧ c.toNat ≤ 57)
/-- A name: 1 to 12 small letters and digits. -/
def nameV (l : List UInt8) : Bool := decide (1 ≤ l.length ∧ l.length ≤ 12) && l.all nameCh
theorem nameCh_yes {c : UInt8} (h : 97 ≤ c.toNat ∧ c.toNat ≤ 122 ∨ 48 ≤ c.toNat ∧ c.toNat ≤ 57) : nameCh c = true := by unfold nameCh; simp only [decide_eq_true_eq]; exact h
theorem nameCh_no {c : UInt8} (h : ¬ (97 ≤ c.toNat ∧ c.toNat ≤ 122 ∨ 48 ≤ c.toNat ∧ c.toNat ≤ 57)) : nameCh c = false := by unfold nameCh; simp only [decide_eq_false_iff_not]; exact h
theorem name_short {l : List UInt8} (h : l.length < 1 ∨ 12 < l.length) : nameV l = false := by
  unfold nameV
  rw [decide_eq_false (by omega)]; rfl
theorem name_bad {s : ByteArray} {k : Nat} (hk : k < s.size) (h : nameCh s[k] = false) : nameV s.data.toList = false := by
  unfold nameV
  have : s.data.toList.all nameCh = false := by
    rw [List.all_eq_false]
    exact ⟨s[k], by simp [ByteArray.getElem_eq_getElem_data], by simp [h]⟩
  rw [this, Bool.and_false]
theorem take_all_step {s : ByteArray} {k : Nat} (hk : k < s.size) (h : (s.data.toList.take k).all nameCh = true) (h2 : nameCh s[k] = true) : (s.data.toList.take (k + 1)).all nameCh = true := by
  have : s.data.toList.take (k + 1) = s.data.toList.take k ++ [s[k]] := by
    rw [List.take_succ_eq_append_getElem (by simpa using hk)]
    simp [ByteArray.getElem_eq_getElem_data]
  rw [this, List.all_append, h]
  simp [h2]
theorem name_good {s : ByteArray} (h1 : 1 ≤ s.size) (h2 : s.size ≤ 12) (h : (s.data.toList.take s.size).all nameCh = true) : nameV s.data.toList = true := by
  have hl : s.data.toList.length = s.size := by simp
  rw [List.take_of_length_le (by omega)] at h
  unfold nameV
  rw [h, decide_eq_true ⟨by omega, by omega⟩]; rfl

theorem spec_in (x a b : Int) (w : World) :
    Calls Tryz.prog 31 #[.int .i64 x, .int .i64 a, .int .i64 b] w fun e w' => e = .returned (.bool (decide (a ≤ x ∧ x ≤ b))) ∧ w = w' := by
  by_cases h1 : a ≤ x
  · by_cases h2 : x ≤ b
    all_goals
      go_enter Tryz.func31, Tryz.ntmps31
      go_wp2
      go_ret
      exact ⟨ret1B (by simp; omega), rfl⟩
  · go_enter Tryz.func31, Tryz.ntmps31
    go_wp2
    go_ret
    exact ⟨ret1B (by simp; omega), rfl⟩

theorem spec_name (s : ByteArray) (hs : s.size ≤ 9223372036854775807) (w : World) :
    Calls Tryz.prog 66 #[.string s] w fun e w' => e = .returned (.bool (nameV s.data.toList)) ∧ w = w' := by
  have hl : s.data.toList.length = s.size := by simp
  by_cases hin : 1 ≤ s.size ∧ s.size ≤ 12
  · obtain ⟨h1, h2⟩ := hin
    have hd : decide ((1 : Int) ≤ (s.size : Int) ∧ (s.size : Int) ≤ 12) = true := by simp; omega
    clear hl
    go_enter Tryz.func66, Tryz.ntmps66
    go_wp2_with (go_at_call 31; refine (spec_in _ _ _ _).mono ?_; rintro e w' ⟨rfl, rfl⟩)
    go_loop [3] (fun i => ∃ k : Nat, k ≤ s.size ∧ i = .int .i64 k ∧ Hid ((s.data.toList.take k).all nameCh = true)) (fun i => s.size - (intOf i).toNat)
    case atStart => exact ⟨0, Nat.zero_le _, rfl, by show _ = _; simp⟩
    case round =>
      obtain ⟨k, hk, rfl, HA⟩ := hrel
      by_cases hlt : k < s.size
      · by_cases a1 : 97 ≤ s[k].toNat ∧ s[k].toNat ≤ 122
        · have HN : Hid _ := take_all_step hlt HA.out (nameCh_yes (.inl a1))
          obtain ⟨b1, b2⟩ := a1
          clear HA
          go_wp2
          go_round
          case rel => exact ⟨k + 1, by omega, by go_num, HN⟩
          case measure => simp [intOf]; omega
        · by_cases a2 : 48 ≤ s[k].toNat ∧ s[k].toNat ≤ 57
          · have HN : Hid _ := take_all_step hlt HA.out (nameCh_yes (.inr a2))
            obtain ⟨b1, b2⟩ := a2
            have b3 : s[k].toNat < 97 := by omega
            clear HA a1
            go_wp2
            go_round
            case rel => exact ⟨k + 1, by omega, by go_num, HN⟩
            case measure => simp [intOf]; omega
          · have HN : Hid (nameV s.data.toList = false) := name_bad hlt (nameCh_no (by omega))
            clear HA
            by_cases c1 : s[k].toNat < 48
            · have c2 : s[k].toNat < 97 := by omega
              clear a1 a2
              go_wp2
              go_ret
              exact ⟨ret1B HN.out.symm, rfl⟩
            · have c2 : 57 < s[k].toNat := by omega
              by_cases c3 : s[k].toNat < 97
              · clear a1 a2
                go_wp2
                go_ret
                exact ⟨ret1B HN.out.symm, rfl⟩
              · have c4 : 122 < s[k].toNat := by omega
                clear a1 a2
                go_wp2
                go_ret
                exact ⟨ret1B HN.out.symm, rfl⟩
      · obtain rfl : k = s.size := by omega
        have HN : Hid (nameV s.data.toList = true) := name_good h1 h2 HA.out
        clear HA
        go_wp2
        go_ret
        exact ⟨ret1B HN.out.symm, rfl⟩
  · have HN : Hid (nameV s.data.toList = false) := name_short (by omega)
    have hd : decide ((1 : Int) ≤ (s.size : Int) ∧ (s.size : Int) ≤ 12) = false := by simp; omega
    clear hl
    go_enter Tryz.func66, Tryz.ntmps66
    go_wp2_with (go_at_call 31; refine (spec_in _ _ _ _).mono ?_; rintro e w' ⟨rfl, rfl⟩)
    go_ret
    exact ⟨ret1B HN.out.symm, rfl⟩

/-! ### The program's NameOk: rune by rune. -/
def runeCh (r : Nat) : Bool := decide (97 ≤ r ∧ r ≤ 122 ∨ 48 ≤ r ∧ r ≤ 57)
theorem impl_rune (r : Nat) (hr : r ≤ 2147483647) (w : World) :
    Calls Tryz.prog 153 #[.int .i32 r] w fun e w' => e = .returned (.bool (runeCh r)) ∧ w = w' := by
  unfold runeCh
  by_cases a1 : 97 ≤ r
  · have a5 : 48 ≤ r := by omega
    have a6 : 57 < r := by omega
    by_cases a2 : r ≤ 122
    · have hv : decide (97 ≤ r ∧ r ≤ 122 ∨ 48 ≤ r ∧ r ≤ 57) = true := decide_eq_true (by omega)
      rw [hv]
      clear hv
      go_enter Tryz.func153, Tryz.ntmps153
      go_wp2
      go_ret
      exact ⟨ret1B (by first | rfl | (simp; done) | (simp; omega)), rfl⟩
    · have hv : decide (97 ≤ r ∧ r ≤ 122 ∨ 48 ≤ r ∧ r ≤ 57) = false := decide_eq_false (by omega)
      rw [hv]
      clear hv
      go_enter Tryz.func153, Tryz.ntmps153
      go_wp2
      go_ret
      exact ⟨ret1B (by first | rfl | (simp; done) | (simp; omega)), rfl⟩
  · by_cases a3 : 48 ≤ r
    · by_cases a4 : r ≤ 57
      · have hv : decide (97 ≤ r ∧ r ≤ 122 ∨ 48 ≤ r ∧ r ≤ 57) = true := decide_eq_true (by omega)
        rw [hv]
        clear hv
        go_enter Tryz.func153, Tryz.ntmps153
        go_wp2
        go_ret
        exact ⟨ret1B (by first | rfl | (simp; done) | (simp; omega)), rfl⟩
      · have hv : decide (97 ≤ r ∧ r ≤ 122 ∨ 48 ≤ r ∧ r ≤ 57) = false := decide_eq_false (by omega)
        rw [hv]
        clear hv
        go_enter Tryz.func153, Tryz.ntmps153
        go_wp2
        go_ret
        exact ⟨ret1B (by first | rfl | (simp; done) | (simp; omega)), rfl⟩
    · have hv : decide (97 ≤ r ∧ r ≤ 122 ∨ 48 ≤ r ∧ r ≤ 57) = false := decide_eq_false (by omega)
      rw [hv]
      clear hv
      go_enter Tryz.func153, Tryz.ntmps153
      go_wp2
      go_ret
      exact ⟨ret1B (by first | rfl | (simp; done) | (simp; omega)), rfl⟩

theorem iter_below (w : World) (s : ByteArray) (pos : Nat) : Below w.heap.size w (w.iter s pos) := (Below.refl _ _).alloc (Nat.le_refl _) _

theorem impl_name (s : ByteArray) (hs : s.size ≤ 9223372036854775807) (w : World) :
    Calls Tryz.prog 120 #[.string s] w fun e w' => e = .returned (.bool (nameV s.data.toList)) ∧ Below w.heap.size w w' := by
  have hl : s.data.toList.length = s.size := by simp
  by_cases h0 : s.size = 0
  · have hem : s.toList.isEmpty = true := by
      rw [ByteArray.toList_eq, List.isEmpty_iff]
      exact List.eq_nil_of_length_eq_zero (by omega)
    have HN : Hid (nameV s.data.toList = false) := name_short (by omega)
    clear hl h0
    go_enter Tryz.func120, Tryz.ntmps120
    go_wp2
    go_ret
    exact ⟨ret1B HN.out.symm, Below.refl _ _⟩
  · have hem : s.toList.isEmpty = false := by
      rw [ByteArray.toList_eq]
      cases hq : s.data.toList with
      | nil => rw [hq] at hl; simp at hl; omega
      | cons a b => rfl
    by_cases h1 : 12 < s.size
    · have HN : Hid (nameV s.data.toList = false) := name_short (by omega)
      clear hl h0
      go_enter Tryz.func120, Tryz.ntmps120
      go_wp2
      go_ret
      exact ⟨ret1B HN.out.symm, Below.refl _ _⟩
    · have h2 : 1 ≤ s.size := by omega
      have h3 : s.size ≤ 12 := by omega
      clear hl h0 h1
      go_enter Tryz.func120, Tryz.ntmps120
      go_wp2
      go_loopw [4] (fun _ wr => ∃ k : Nat, wr = w.iter s k ∧ k ≤ s.size ∧ Hid ((s.data.toList.take k).all nameCh = true)) (fun _ wr => s.size - wr.iterPos w.heap.size)
      case atStart => exact ⟨0, rfl, Nat.zero_le _, by show _ = _; simp⟩
      case round =>
        obtain ⟨k, rfl, hk, HA⟩ := hrel
        by_cases hlt : k < s.size
        · have hnx : ∀ ty, (Instr.next (.pointer (some ⟨w.heap.size, 0, none⟩)) true ty).run Tryz.prog (w.iter s k) = _ := fun ty => run_next_any w s k ty hlt
          have hle := decode_le s k
          obtain ⟨r, hr⟩ : ∃ r, (Utf8.decode s k).1 = r := ⟨_, rfl⟩
          obtain ⟨q, hq⟩ : ∃ q, (Utf8.decode s k).2 = q := ⟨_, rfl⟩
          rw [hr] at hle
          have hnx2 := hnx
          rw [hr, hq] at hnx2
          clear hnx
          by_cases a1 : s[k].toNat < 128
          · have e := decode_ascii s k hlt a1
            rw [e] at hr hq
            simp only at hr hq
            by_cases a2 : nameCh s[k] = true
            · have hrc : runeCh r = true := by rw [← hr]; exact a2
              have HN : Hid _ := take_all_step hlt HA.out a2
              clear e hr a2 HA
              subst hq
              go_wp2_with (go_at_call 153; refine (impl_rune _ hle _).mono ?_; rintro e w' ⟨rfl, rfl⟩)
              go_roundw
              case rel => exact ⟨k + 1, rfl, by omega, HN⟩
              case measure => simp; omega
            · have a3 : nameCh s[k] = false := by simpa using a2
              have hrc : runeCh r = false := by rw [← hr]; exact a3
              have HN : Hid _ := name_bad hlt a3
              clear e hr a2 a3 HA hq
              go_wp2_with (go_at_call 153; refine (impl_rune _ hle _).mono ?_; rintro e w' ⟨rfl, rfl⟩)
              go_ret
              exact ⟨ret1B HN.out.symm, iter_below _ _ _⟩
          · have e := (decode_high s k hlt (by omega)).1
            rw [hr] at e
            have hrc : runeCh r = false := by unfold runeCh; simp; omega
            have HN : Hid _ := name_bad hlt (nameCh_no (by omega))
            clear e hr HA hq
            go_wp2_with (go_at_call 153; refine (impl_rune _ hle _).mono ?_; rintro e w' ⟨rfl, rfl⟩)
            go_ret
            exact ⟨ret1B HN.out.symm, iter_below _ _ _⟩
        · obtain rfl : k = s.size := by omega
          have hnx : ∀ ty, (Instr.next (.pointer (some ⟨w.heap.size, 0, none⟩)) true ty).run Tryz.prog (w.iter s s.size) = _ := fun ty => run_next_end w s s.size ty hlt
          have HN : Hid _ := name_good h2 h3 HA.out
          clear HA
          go_wp2
          go_ret
          exact ⟨ret1B HN.out.symm, iter_below _ _ _⟩

/-! ### Sizes, ticks, samples. -/
def sizeV (v : Int) : Bool := decide (0 ≤ v ∧ v ≤ 1000000000)

theorem spec_amt (x : Int) (w : World) :
    Calls Tryz.prog 68 #[.int .i64 x] w fun e w' => e = .returned (.bool (sizeV x)) ∧ w = w' := by
  go_enter Tryz.func68, Tryz.ntmps68
  go_wp2_with (go_at_call 31; refine (spec_in _ _ _ _).mono ?_; rintro e w' ⟨rfl, rfl⟩)
  go_ret
  exact ⟨ret1B (by unfold sizeV; simp), rfl⟩
theorem spec_tick (x : Int) (w : World) :
    Calls Tryz.prog 25 #[.int .i64 x] w fun e w' => e = .returned (.bool (sizeV x)) ∧ w = w' := by
  go_enter Tryz.func25, Tryz.ntmps25
  go_wp2_with (go_at_call 31; refine (spec_in _ _ _ _).mono ?_; rintro e w' ⟨rfl, rfl⟩)
  go_ret
  exact ⟨ret1B (by unfold sizeV; simp), rfl⟩
theorem impl_size (x : Int) (w : World) :
    Calls Tryz.prog 187 #[.int .i64 x] w fun e w' => e = .returned (.bool (sizeV x)) ∧ w = w' := by
  unfold sizeV
  by_cases h1 : 0 ≤ x
  · by_cases h2 : x ≤ 1000000000
    all_goals
      go_enter Tryz.func187, Tryz.ntmps187
      go_wp2
      go_ret
      exact ⟨ret1B (by simp; omega), rfl⟩
  · go_enter Tryz.func187, Tryz.ntmps187
    go_wp2
    go_ret
    exact ⟨ret1B (by simp; omega), rfl⟩
theorem impl_tick (x : Int) (w : World) :
    Calls Tryz.prog 79 #[.int .i64 x] w fun e w' => e = .returned (.bool (sizeV x)) ∧ w = w' := by
  unfold sizeV
  by_cases h1 : 0 ≤ x
  · by_cases h2 : x ≤ 1000000000
    all_goals
      go_enter Tryz.func79, Tryz.ntmps79
      go_wp2
      go_ret
      exact ⟨ret1B (by simp; omega), rfl⟩
  · go_enter Tryz.func79, Tryz.ntmps79
    go_wp2
    go_ret
    exact ⟨ret1B (by simp; omega), rfl⟩

structure Smp where
  pod : ByteArray
  met : ByteArray
  val : Int
  tick : Int
instance : Inhabited Smp := ⟨⟨⟨#[]⟩, ⟨#[]⟩, 0, 0⟩⟩
/-- The cells of a sample. -/
def encS (s : Smp) : List Value := [.string s.pod, .string s.met, .int .i64 s.val, .int .i64 s.tick]
def smpV (s : Smp) : Value := .agg #[.string s.pod, .string s.met, .int .i64 s.val, .int .i64 s.tick]
structure Smp.wf (s : Smp) : Prop where
  pod : s.pod.size ≤ maxLen
  met : s.met.size ≤ maxLen
  val : -9223372036854775808 ≤ s.val ∧ s.val ≤ 9223372036854775807
  tick : -9223372036854775808 ≤ s.tick ∧ s.tick ≤ 9223372036854775807
/-- A valid sample. -/
def okV (s : Smp) : Bool := nameV s.pod.data.toList && nameV s.met.data.toList && sizeV s.val && sizeV s.tick

theorem box_below (w : World) (cs : Array Value) (t : TypeId) : Below w.heap.size w (w.alloc (Obj.cells cs t)) := (Below.refl _ _).alloc (Nat.le_refl _) _
theorem box3_below (w : World) (o1 o2 o3 : Obj) : Below w.heap.size w (((w.alloc o1).alloc o2).alloc o3) := by
  have h1 : Below w.heap.size w (w.alloc o1) := (Below.refl _ _).alloc (Nat.le_refl _) _
  have h2 : Below w.heap.size w ((w.alloc o1).alloc o2) := h1.alloc h1.size _
  exact h2.alloc h2.size _
theorem box_read {w w1 : World} {v0 v1 v2 v3 : Value} {t : TypeId} (h : Below (w.alloc (.cells #[v0, v1, v2, v3] t)).heap.size (w.alloc (.cells #[v0, v1, v2, v3] t)) w1) :
    w.heap.size < w1.heap.size ∧ Below w.heap.size w w1 ∧ w1.cell? ⟨w.heap.size, 0, none⟩ = some v0 ∧ w1.cell? ⟨w.heap.size, 1, none⟩ = some v1 ∧ w1.cell? ⟨w.heap.size, 2, none⟩ = some v2 ∧ w1.cell? ⟨w.heap.size, 3, none⟩ = some v3 := by
  have hz : (w.alloc (.cells #[v0, v1, v2, v3] t)).heap.size = w.heap.size + 1 := by simp
  have hs := h.size
  rw [hz] at hs
  have hc : ∀ j, w1.cell? ⟨w.heap.size, j, none⟩ = (w.alloc (.cells #[v0, v1, v2, v3] t)).cell? ⟨w.heap.size, j, none⟩ := fun j => h.cell (p := ⟨w.heap.size, j, none⟩) (by show w.heap.size < _; omega)
  refine ⟨by omega, (box_below w _ t).trans (h.mono (by omega)), ?_, ?_, ?_, ?_⟩ <;> rw [hc, World.cell?_alloc_new] <;> rfl
theorem keep4 {w1 w2 : World} {b : Nat} {v0 v1 v2 v3 : Value} (hlt : b < w1.heap.size) (h : Below w1.heap.size w1 w2) (q0 : w1.cell? ⟨b, 0, none⟩ = some v0) (q1 : w1.cell? ⟨b, 1, none⟩ = some v1) (q2 : w1.cell? ⟨b, 2, none⟩ = some v2) (q3 : w1.cell? ⟨b, 3, none⟩ = some v3) :
    b < w2.heap.size ∧ w2.cell? ⟨b, 0, none⟩ = some v0 ∧ w2.cell? ⟨b, 1, none⟩ = some v1 ∧ w2.cell? ⟨b, 2, none⟩ = some v2 ∧ w2.cell? ⟨b, 3, none⟩ = some v3 := by
  have hc : ∀ j, w2.cell? ⟨b, j, none⟩ = w1.cell? ⟨b, j, none⟩ := fun j => h.cell (p := ⟨b, j, none⟩) hlt
  exact ⟨Nat.lt_of_lt_of_le hlt h.size, by rw [hc]; exact q0, by rw [hc]; exact q1, by rw [hc]; exact q2, by rw [hc]; exact q3⟩
end Go.Proofs.YtgmdfkmmbcpikaaGreat.C2
