/- SampleLine of chapter 2: the model's and the program's; both write lineV. -/
import Derived.Test.YtgmdfkmmbcpikaaDoorC2
import Derived.Test.YtgmdfkmmbcpikaaDoorMt
import Derived.Deep.QuietTactic
namespace Go.Proofs.YtgmdfkmmbcpikaaDoor.Line
open Go.RowKit
open Go.Proofs.YtgmdfkmmbcpikaaDoor.C1
open Go.Proofs.YtgmdfkmmbcpikaaDoor.C2
open Go.Proofs.YtgmdfkmmbcpikaaDoor.Milli
open Go.Proofs.YtgmdfkmmbcpikaaDoor.Mt
set_option linter.unusedVariables false

/-- A world in which all that lies in w lies as it did. -/
structure Later (w : World) where
  u : World
  h : Below w.heap.size w u
instance (w : World) : Inhabited (Later w) := ⟨⟨w, Below.refl _ _⟩⟩
theorem region_later {P : Program} {id : Nat} {Q : Exit → Act → World → Prop} {a : Act} {w : World} {l : List Oper} (hm : P.follows .mixedOrders = true) (hB : Region.lexB .any l.toArray = true)
    (h : wpQuiet P l.toArray (fun w' => ∃ p : Later w, w' = p.u) (fun a' => ∀ w', (∃ p : Later w, w' = p.u) → Q .normal a' w') l a) : (Code.region id l.toArray true).wp P Q a w :=
  wp_region_quiet (C := fun w' => ∃ p : Later w, w' = p.u) hm hB ⟨⟨w.drew, (Below.refl _ _).drew⟩, rfl⟩ (by simpa using h)
theorem later_call {P : Program} {f : FuncId} {args : Array Value} {w : World} {v : Value} {p : Later w} (h : Calls P f args p.u fun e w' => e = .returned v ∧ Below p.u.heap.size p.u w') :
    Calls P f args p.u fun e w' => e = .returned v ∧ ∃ q : Later w, w' = q.u :=
  h.mono fun e w' ⟨he, hb⟩ => ⟨he, ⟨w', p.h.trans (hb.mono p.h.size)⟩, rfl⟩
theorem later_cell {w : World} {b j : Nat} {v : Value} (hb : b < w.heap.size) (h : w.cell? ⟨b, j, none⟩ = some v) (p : Later w) : p.u.cell? ⟨b, j, none⟩ = some v := by
  rw [p.h.cell (p := ⟨b, j, none⟩) hb]; exact h

def lineL (s : Smp) : List UInt8 := s.pod.data.toList ++ 32 :: (s.met.data.toList ++ 32 :: (milli s.val ++ 32 :: Lib.itoa s.tick))
/-- What SampleLine writes. -/
def lineV (s : Smp) : List UInt8 := if okV s then lineL s else []
theorem line_eq (p m : ByteArray) (a b : List UInt8) : p ++ { data := #[32] } ++ m ++ { data := #[32] } ++ mk a ++ { data := #[32] } ++ mk b = mk (p.data.toList ++ 32 :: (m.data.toList ++ 32 :: (a ++ 32 :: b))) := by
  have e : ({ data := #[32] } : ByteArray) = mk [32] := rfl
  rw [e, ← mk_of p, ← mk_of m, mk_append, mk_append, mk_append, mk_append, mk_append, mk_append]
  simp [mk_list]
theorem name_len {l : List UInt8} (h : nameV l = true) : 1 ≤ l.length ∧ l.length ≤ 12 := by
  unfold nameV at h
  simp only [Bool.and_eq_true, decide_eq_true_eq] at h
  exact h.1
theorem size_of {v : Int} (h : sizeV v = true) : 0 ≤ v ∧ v ≤ 1000000000 := by unfold sizeV at h; simpa using h
theorem ok_parts {s : Smp} (h : okV s = true) : nameV s.pod.data.toList = true ∧ nameV s.met.data.toList = true ∧ sizeV s.val = true ∧ sizeV s.tick = true := by
  unfold okV at h
  simp only [Bool.and_eq_true] at h
  exact ⟨h.1.1.1, h.1.1.2, h.1.2, h.2⟩
theorem milli_len {v : Int} (h : sizeV v = true) : (milli v).length ≤ 20 := by
  obtain ⟨h0, h1⟩ := size_of h
  obtain ⟨u, rfl⟩ : ∃ u : Nat, v = (u : Int) := ⟨v.toNat, by omega⟩
  rw [milli_pos (by omega)]
  exact mPos_len (by omega)
theorem itoa_zero : Lib.itoa 0 = [48] := by decide +kernel
theorem itoa_len {v : Int} (h : sizeV v = true) : (Lib.itoa v).length ≤ 20 := by
  obtain ⟨h0, h1⟩ := size_of h
  by_cases hv : v = 0
  · subst hv; simp [itoa_zero]
  · rw [itoa_of v hv, if_neg (by omega)]
    have := dd_le v (by omega) (by omega)
    simp; omega

theorem add_at (P : Program) (x y : ByteArray) (h : x.size + y.size ≤ 1000) : ∀ w, (Op.stringOp .add x y).run P w = .ok (.string (x ++ y)) w := fun w => run_string_add_sum w x y (by omega)
theorem itoa_int (n : Int) (h0 : -9223372036854775808 ≤ n) (h1 : n ≤ 9223372036854775807) (w : World) (he : Env w) :
    Calls Tryd.prog 20 #[.int .i64 n] w fun e w' => e = .returned (.string (mk (Lib.itoa n))) ∧ Below w.heap.size w w' :=
  (Tryd.strconv_Itoa n h0 h1 w he.tab).mono fun e w' ⟨e1, k, os, e2⟩ => by
    subst e2
    exact ⟨e1, Lib.below_grow w.heap.size w (Nat.le_refl _) k os⟩
end Go.Proofs.YtgmdfkmmbcpikaaDoor.Line
