/- Contracts of ParseMilli: the program's and the model's. -/
import Derived.Test.YtihhbgihejjmeabDoorMt
import Derived.Test.YtihhbgihejjmeabDoorMilliP
import Derived.Lib.AtoiErrMem
import Derived.Lib.ParseIntBCases
namespace Go.Proofs.YtihhbgihejjmeabDoor.Mp
set_option linter.unusedVariables false
open Go.RowKit
open Go.Proofs.YtihhbgihejjmeabDoor.C1 Go.Proofs.YtihhbgihejjmeabDoor.Milli Go.Proofs.YtihhbgihejjmeabDoor.MilliP Go.Proofs.YtihhbgihejjmeabDoor.Mt

/-- What the calls read of the library's variables, the two errors of strconv besides. -/
structure Env2 (w : World) : Prop where
  env : Env w
  syn : ∃ tp p, w.var? Tryd.prog "strconv.ErrSyntax" = some #[.iface tp p]
  rng : ∃ tp p, w.var? Tryd.prog "strconv.ErrRange" = some #[.iface tp p]
theorem gSyn : Tryd.prog.globalNamed "strconv.ErrSyntax" = some 1 := by kernel_rfl
theorem gRng : Tryd.prog.globalNamed "strconv.ErrRange" = some 2 := by kernel_rfl
theorem Env2.kept {w w' : World} (h : Env2 w) (hb : Below w.heap.size w w') : Env2 w' := by
  obtain ⟨h1, ⟨t1, p1, h2⟩, ⟨t2, p2, h3⟩⟩ := h
  exact ⟨h1.kept hb, ⟨t1, p1, Joins.var_stays gSyn h2 hb (Nat.le_refl _)⟩, ⟨t2, p2, Joins.var_stays gRng h3 hb (Nat.le_refl _)⟩⟩

theorem first_three (l : List UInt8) : (mk l ++ { data := #[48, 48, 48] }).extract 0 3 = mk ((l ++ [48, 48, 48]).take 3) := by
  have : ({ data := #[48, 48, 48] } : ByteArray) = mk [48, 48, 48] := rfl
  rw [this, mk_append]
  unfold mk
  rw [Lib.extract_mk]
  rfl

theorem trim_len (l : List UInt8) : (Lib.trimPrefix l [45]).length ≤ l.length := by
  unfold Lib.trimPrefix
  split
  · simp
  · exact Nat.le_refl _
theorem cut_len (l : List UInt8) : (Lib.cut l [46]).1.length ≤ l.length ∧ (Lib.cut l [46]).2.1.length ≤ l.length := by
  unfold Lib.cut
  split
  · simp only [List.length_take, List.length_drop]; omega
  · simp


theorem same_yes {l : List UInt8} {s : ByteArray} (h : l = s.data.toList) : ((mk l).toList == s.toList) = true := by
  rw [ByteArray.toList_eq, ByteArray.toList_eq, mk_list, h]
  simp
theorem same_no {l : List UInt8} {s : ByteArray} (h : l ≠ s.data.toList) : ((mk l).toList == s.toList) = false := by
  rw [ByteArray.toList_eq, ByteArray.toList_eq, mk_list]
  simp [h]

/-! ### the model's -/
theorem take_snoc_b (s : ByteArray) (k : Nat) (h : k < s.size) : s.data.toList.take (k + 1) = s.data.toList.take k ++ [s[k]] := by
  rw [List.take_succ_eq_append_getElem (by simpa using h)]; rfl
theorem int_eq' {k : IntKind} {a b : Int} (h : a = b) : Value.int k a = .int k b := by rw [h]
theorem head_yes {s : ByteArray} (h : 0 < s.size) (hc : s[0].toNat = 45) : (if s.data.toList.head? = some 45 then (-1 : Int) else 1) = -1 := by
  have h2 : 0 < s.data.toList.length := by simpa using h
  have e : s.data.toList.head? = some s[0] := by rw [List.head?_eq_getElem?, List.getElem?_eq_getElem h2]; rfl
  rw [e, if_pos]
  congr 1
  exact UInt8.toNat_inj.1 hc
theorem head_no {s : ByteArray} (h : 0 < s.size) (hc : ¬ s[0].toNat = 45) : (if s.data.toList.head? = some 45 then (-1 : Int) else 1) = 1 := by
  have h2 : 0 < s.data.toList.length := by simpa using h
  have e : s.data.toList.head? = some s[0] := by rw [List.head?_eq_getElem?, List.getElem?_eq_getElem h2]; rfl
  rw [e, if_neg]
  intro g
  injection g with g
  rw [g] at hc
  exact hc rfl
theorem pow_sum {Y X m b0 : Nat} (h : Y * 10 ^ (3 - m) = X * 10 ^ (3 - b0)) (hX : X ≤ 20000000000000) (hm : m < 3) : Y ≤ 2000000000000000 ∧ 10 * Y * 10 ^ (3 - (m + 1)) = X * 10 ^ (3 - b0) := by
  have h1 : 10 ^ (3 - b0) ≤ 1000 := Nat.pow_le_pow_right (by omega : 0 < 10) (by omega : 3 - b0 ≤ 3)
  have h2 : X * 10 ^ (3 - b0) ≤ 20000000000000 * 1000 := Nat.mul_le_mul hX h1
  have h3 : 10 ^ (3 - m) = 10 * 10 ^ (3 - (m + 1)) := by
    have : 3 - m = (3 - (m + 1)) + 1 := by omega
    rw [this, Nat.pow_succ, Nat.mul_comm]
  have h4 : 1 ≤ 10 ^ (3 - (m + 1)) := Nat.one_le_pow _ _ (by omega)
  have h5 : Y * 10 * 1 ≤ Y * 10 * 10 ^ (3 - (m + 1)) := Nat.mul_le_mul_left _ h4
  rw [h3, ← Nat.mul_assoc] at h
  have h6 : Y * 10 * 10 ^ (3 - (m + 1)) = 10 * Y * 10 ^ (3 - (m + 1)) := by rw [Nat.mul_comm Y 10]
  omega
theorem pow_le (k : Nat) (h : k ≤ 13) : 10 ^ k ≤ 10000000000000 := Nat.pow_le_pow_right (by omega) h
theorem scan_next {s : ByteArray} {k : Nat} {X : Nat} {D : Int} (hk : k < s.size) (h : scan (s.data.toList.take k) = some (k, X, D)) {st : Option (Nat × Nat × Int)} (hs : stepP (some (k, X, D)) s[k] = st) : scan (s.data.toList.take (k + 1)) = st := by
  rw [take_snoc_b s k hk, scan_snoc, h, hs]

end Go.Proofs.YtihhbgihejjmeabDoor.Mp
