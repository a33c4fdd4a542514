/- Names and samples of chapter 2: what NameOk and SampleOk answer (the model's and the program's), and how a sample lies in memory. -/
import Derived.Test.YtgmdfkmmbcpikaaDoorC1
import Derived.Laws.RangeAny
import Derived.Below
namespace Go.Proofs.YtgmdfkmmbcpikaaDoor.C2
open Go.RowKit
open Go.Proofs.YtgmdfkmmbcpikaaDoor.C1
set_option linter.unusedVariables false

def nameCh (c : UInt8) : Bool := decide (97 ≤ c.toNat ∧ c.toNat ≤ 122 ∨ 48 ≤ c.toNat ∧ c.toNat ≤ 57)
/-- A name: 1 to 12 small letters and digits. -/
def nameV (l : List UInt8) : Bool := decide (1 ≤ l.length ∧ l.length ≤ 12) && l.all nameCh
theorem nameCh_yes {c : UInt8} (h : 97 ≤ c.toNat ∧ c.toNat ≤ 122 ∨ 48 ≤ c.toNat ∧ c.toNat ≤ 57) : nameCh c = true := by unfold nameCh; simp only [decide_eq_true_eq]; exact h
theorem nameCh_no {c : UInt8} (h : ¬ (97 ≤ c.toNat ∧ c.toNat ≤ 122 ∨ 48 ≤ c.toNat ∧ c.toNat ≤ 57)) : nameCh c = false := by unfold nameCh; simp only [decide_eq_false_iff_not]; exact h
theorem name_short {l : List UInt8} (h : l.length < 1 ∨ 12 < l.length) : nameV l = false := by
  unfold nameV
  rw [decide_eq_false (by omega)]; rfl
theorem name_bad {s : ByteArray} {k : Nat} (hk : k < s.size) (h : nameCh s[k] = false) : nameV s.data.toList = false := by
  unfold nameV
  have : s.data.toList.all nameCh = false := by
    rw [List.all_eq_false]
    exact ⟨s[k], by simp [ByteArray.getElem_eq_getElem_data], by simp [h]⟩
  rw [this, Bool.and_false]
theorem take_all_step {s : ByteArray} {k : Nat} (hk : k < s.size) (h : (s.data.toList.take k).all nameCh = true) (h2 : nameCh s[k] = true) : (s.data.toList.take (k + 1)).all nameCh = true := by
  have : s.data.toList.take (k + 1) = s.data.toList.take k ++ [s[k]] := by
    rw [List.take_succ_eq_append_getElem (by simpa using hk)]
    simp [ByteArray.getElem_eq_getElem_data]
  rw [this, List.all_append, h]
  simp [h2]
theorem name_good {s : ByteArray} (h1 : 1 ≤ s.size) (h2 : s.size ≤ 12) (h : (s.data.toList.take s.size).all nameCh = true) : nameV s.data.toList = true := by
  have hl : s.data.toList.length = s.size := by simp
  rw [List.take_of_length_le (by omega)] at h
  unfold nameV
  rw [h, decide_eq_true ⟨by omega, by omega⟩]; rfl

theorem spec_in (x a b : Int) (w : World) :
    Calls Tryd.prog 16 #[.int .i64 x, .int .i64 a, .int .i64 b] w fun e w' => e = .returned (.bool (decide (a ≤ x ∧ x ≤ b))) ∧ w = w' := by
  by_cases h1 : a ≤ x
  · by_cases h2 : x ≤ b
    all_goals
      go_enter Tryd.func16, Tryd.ntmps16
      go_wp2
      go_ret
      exact ⟨ret1B (by simp; omega), rfl⟩
  · go_enter Tryd.func16, Tryd.ntmps16
    go_wp2
    go_ret
    exact ⟨ret1B (by simp; omega), rfl⟩

/-! ### The program's NameOk: rune by rune. -/
def runeCh (r : Nat) : Bool := decide (97 ≤ r ∧ r ≤ 122 ∨ 48 ≤ r ∧ r ≤ 57)
theorem iter_below (w : World) (s : ByteArray) (pos : Nat) : Below w.heap.size w (w.iter s pos) := (Below.refl _ _).alloc (Nat.le_refl _) _

/-! ### Sizes, ticks, samples. -/
def sizeV (v : Int) : Bool := decide (0 ≤ v ∧ v ≤ 1000000000)

structure Smp where
  pod : ByteArray
  met : ByteArray
  val : Int
  tick : Int
instance : Inhabited Smp := ⟨⟨⟨#[]⟩, ⟨#[]⟩, 0, 0⟩⟩
/-- The cells of a sample. -/
def encS (s : Smp) : List Value := [.string s.pod, .string s.met, .int .i64 s.val, .int .i64 s.tick]
def smpV (s : Smp) : Value := .agg #[.string s.pod, .string s.met, .int .i64 s.val, .int .i64 s.tick]
structure Smp.wf (s : Smp) : Prop where
  pod : s.pod.size ≤ maxLen
  met : s.met.size ≤ maxLen
  val : -9223372036854775808 ≤ s.val ∧ s.val ≤ 9223372036854775807
  tick : -9223372036854775808 ≤ s.tick ∧ s.tick ≤ 9223372036854775807
/-- A valid sample. -/
def okV (s : Smp) : Bool := nameV s.pod.data.toList && nameV s.met.data.toList && sizeV s.val && sizeV s.tick

theorem box_below (w : World) (cs : Array Value) (t : TypeId) : Below w.heap.size w (w.alloc (Obj.cells cs t)) := (Below.refl _ _).alloc (Nat.le_refl _) _
theorem box3_below (w : World) (o1 o2 o3 : Obj) : Below w.heap.size w (((w.alloc o1).alloc o2).alloc o3) := by
  have h1 : Below w.heap.size w (w.alloc o1) := (Below.refl _ _).alloc (Nat.le_refl _) _
  have h2 : Below w.heap.size w ((w.alloc o1).alloc o2) := h1.alloc h1.size _
  exact h2.alloc h2.size _
theorem box_read {w w1 : World} {v0 v1 v2 v3 : Value} {t : TypeId} (h : Below (w.alloc (.cells #[v0, v1, v2, v3] t)).heap.size (w.alloc (.cells #[v0, v1, v2, v3] t)) w1) :
    w.heap.size < w1.heap.size ∧ Below w.heap.size w w1 ∧ w1.cell? ⟨w.heap.size, 0, none⟩ = some v0 ∧ w1.cell? ⟨w.heap.size, 1, none⟩ = some v1 ∧ w1.cell? ⟨w.heap.size, 2, none⟩ = some v2 ∧ w1.cell? ⟨w.heap.size, 3, none⟩ = some v3 := by
  have hz : (w.alloc (.cells #[v0, v1, v2, v3] t)).heap.size = w.heap.size + 1 := by simp
  have hs := h.size
  rw [hz] at hs
  have hc : ∀ j, w1.cell? ⟨w.heap.size, j, none⟩ = (w.alloc (.cells #[v0, v1, v2, v3] t)).cell? ⟨w.heap.size, j, none⟩ := fun j => h.cell (p := ⟨w.heap.size, j, none⟩) (by show w.heap.size < _; omega)
  refine ⟨by omega, (box_below w _ t).trans (h.mono (by omega)), ?_, ?_, ?_, ?_⟩ <;> rw [hc, World.cell?_alloc_new] <;> rfl
theorem keep4 {w1 w2 : World} {b : Nat} {v0 v1 v2 v3 : Value} (hlt : b < w1.heap.size) (h : Below w1.heap.size w1 w2) (q0 : w1.cell? ⟨b, 0, none⟩ = some v0) (q1 : w1.cell? ⟨b, 1, none⟩ = some v1) (q2 : w1.cell? ⟨b, 2, none⟩ = some v2) (q3 : w1.cell? ⟨b, 3, none⟩ = some v3) :
    b < w2.heap.size ∧ w2.cell? ⟨b, 0, none⟩ = some v0 ∧ w2.cell? ⟨b, 1, none⟩ = some v1 ∧ w2.cell? ⟨b, 2, none⟩ = some v2 ∧ w2.cell? ⟨b, 3, none⟩ = some v3 := by
  have hc : ∀ j, w2.cell? ⟨b, j, none⟩ = w1.cell? ⟨b, j, none⟩ := fun j => h.cell (p := ⟨b, j, none⟩) hlt
  exact ⟨Nat.lt_of_lt_of_le hlt h.size, by rw [hc]; exact q0, by rw [hc]; exact q1, by rw [hc]; exact q2, by rw [hc]; exact q3⟩
end Go.Proofs.YtgmdfkmmbcpikaaDoor.C2
