/- laws.markText; cells that may be written (CellsW), worlds in which one block was written (Only), later worlds in regions that draw (Later). Parts of XMark, without the sort. -/
import Derived.Test.YtgmdfkmmbcpikaaGreatSmps
import Derived.Deep.RegionWith
import Derived.Deep.QuietTactic
import Derived.Deep.MidRow
namespace Go.Proofs.YtgmdfkmmbcpikaaGreat.Mem
open Go.RowKit
open Go.Proofs.YtgmdfkmmbcpikaaGreat.C1
open Go.Proofs.YtgmdfkmmbcpikaaGreat.C2
open Go.Proofs.YtgmdfkmmbcpikaaGreat.Smps
set_option linter.unusedVariables false

theorem ret1T {a b : ByteArray} (h : a = b) : Ending.returned (.string a) = .returned (.string b) := by rw [h]
theorem conv_byte (w : World) (v : Int) :
    (convert 191 9 (.slice (some ⟨w.heap.size, 0, none⟩) 1 1)).run Tryz.prog (w.alloc (.cells #[.int .u8 v] 5)) = .ok (.string ⟨#[UInt8.ofNat v.toNat]⟩) (w.alloc (.cells #[.int .u8 v] 5)) := by
  have := run_convert_bytes_arg (P := Tryz.prog) (w.alloc (.cells #[.int .u8 v] 5)) 191 5 Tryz.underlying191 Tryz.underlying5 w.heap.size 0 1 1 [v] rfl (fun i hi => by
    have : i = 0 := by omega
    subst this
    go_simp) 9 Tryz.underlying9
  exact this
/-- The digits of k in front of what stands. -/
def tD (k : Nat) (out : ByteArray) : ByteArray := if k = 0 then out else tD (k / 10) (⟨#[UInt8.ofNat (48 + k % 10)]⟩ ++ out)
termination_by k
theorem tD_zero (out : ByteArray) : tD 0 out = out := by rw [tD]; simp
theorem tD_step {k : Nat} (h : k ≠ 0) (out : ByteArray) : tD k out = tD (k / 10) (⟨#[UInt8.ofNat (48 + k % 10)]⟩ ++ out) := by rw [tD]; simp [h]
def markT (k : Nat) : ByteArray := ⟨#[109]⟩ ++ tD k ⟨#[]⟩

theorem mark_text (k : Nat) (h0 : 0 < k) (hk : k ≤ 100000000) (w : World) :
    Calls Tryz.prog 105 #[.int .i64 k] w fun e w' => e = .returned (.string (markT k)) ∧ Below w.heap.size w w' := by
  go_enter Tryz.func105, Tryz.ntmps105
  go_wp2
  go_loopw [0, 3] (fun y o wr => ∃ (n : Nat) (l : ByteArray), y = .int .i64 n ∧ o = .string l ∧ n ≤ 100000000 ∧ l.size + n ≤ 100000000 ∧ Hid (tD n l = tD k ⟨#[]⟩) ∧ Hid (Below w.heap.size w wr)) (fun y _ _ => (intOf y).toNat)
  case atStart => exact ⟨k, ⟨#[]⟩, rfl, rfl, hk, by show 0 + k ≤ _; omega, rfl, Below.refl _ _⟩
  case round =>
    obtain ⟨n, l, rfl, rfl, hn, hs, HD, HB⟩ := hrel
    by_cases hp : 0 < n
    · have hcv := conv_byte wr (48 + (n : Int) % 10)
      obtain ⟨c, hc⟩ : ∃ c, UInt8.ofNat (48 + (n : Int) % 10).toNat = c := ⟨_, rfl⟩
      rw [hc] at hcv
      have hz1 : ({ data := #[c] } : ByteArray).size = 1 := rfl
      obtain ⟨q, eq⟩ : ∃ q : Nat, (n : Int) / 10 = (q : Int) := ⟨n / 10, by omega⟩
      have HN : Hid (tD q ({ data := #[c] } ++ l) = tD k ⟨#[]⟩) := by
        show _ = _
        have e1 : (48 + (n : Int) % 10).toNat = 48 + n % 10 := by omega
        have e2 : q = n / 10 := by omega
        rw [← hc, e1, e2, ← tD_step (by omega), HD.out]
      have HB2 := Lib.hid (HB.out.alloc HB.out.size (.cells #[.int .u8 (48 + (n : Int) % 10)] 5))
      have hz2 : ({ data := #[c] } ++ l : ByteArray).size = 1 + l.size := by rw [ByteArray.size_append, hz1]
      have HZ := Lib.hid hz2
      clear hz2 hc
      go_wp2
      go_roundw
      case rel => exact ⟨q, _, rfl, rfl, by omega, by have := HZ.out; omega, HN, HB2⟩
      case measure => simp [intOf]; omega
    · obtain rfl : n = 0 := by omega
      have hz1 : ({ data := #[109] } : ByteArray).size = 1 := rfl
      have HF : Hid ({ data := #[109] } ++ l = markT k) := by
        show _ = _
        unfold markT
        rw [← HD.out, tD_zero]
      clear HD
      go_wp2
      go_ret
      exact ⟨ret1T HF.out, HB.out⟩

/-- The cells vs of a block that may be written. -/
def CellsW (w : World) (g : Nat) (vs : List Value) : Prop := g < w.heap.size ∧ ∀ (j : Nat) (h : j < vs.length), w.cell? ⟨g, j, none⟩ = some vs[j] ∧ w.frozen? ⟨g, j, none⟩ = false
/-- Only block c may have been written, and blocks may be new. -/
structure Only (c : Nat) (w w' : World) : Prop where
  os : w'.os = w.os
  tape : w'.tape = w.tape
  output : w'.output = w.output
  size : w.heap.size ≤ w'.heap.size
  block : ∀ k, k < w.heap.size → k ≠ c → w'.heap[k]? = w.heap[k]?
theorem Only.refl (c : Nat) (w : World) : Only c w w := ⟨rfl, rfl, rfl, Nat.le_refl _, fun _ _ _ => rfl⟩
theorem Only.trans {c : Nat} {a b d : World} (h : Only c a b) (k : Only c b d) : Only c a d :=
  ⟨k.os.trans h.os, k.tape.trans h.tape, k.output.trans h.output, Nat.le_trans h.size k.size, fun i hi hc => (k.block i (Nat.lt_of_lt_of_le hi h.size) hc).trans (h.block i hi hc)⟩
theorem Only.of_below {c : Nat} {w w' : World} (h : Below w.heap.size w w') : Only c w w' := ⟨h.os, h.tape, h.output, h.size, fun k hk _ => h.block k hk⟩
theorem Only.below {c B : Nat} {w w' : World} (h : Only c w w') (hc : B ≤ c) (hB : B ≤ w.heap.size) : Below B w w' :=
  ⟨h.os, h.tape, h.output, h.size, fun k hk => h.block k (by omega) (by omega)⟩
theorem Only.setCell {c : Nat} {a w : World} (h : Only c a w) (j : Nat) (u : Value) : Only c a (w.setCell ⟨c, j, none⟩ u) :=
  h.trans ⟨rfl, rfl, rfl, by simp [World.setCell], fun k hk hc => Below.heap_setCell _ _ _ _ hc⟩
theorem Only.cell {c : Nat} {w w' : World} (h : Only c w w') {b j : Nat} (hb : b < w.heap.size) (hc : b ≠ c) : w'.cell? ⟨b, j, none⟩ = w.cell? ⟨b, j, none⟩ := World.cell?_of_block (w := w) (h.block b hb hc)
theorem CellsW.kept {w w' : World} {g : Nat} {vs : List Value} (h : CellsW w g vs) (hb : Below w.heap.size w w') : CellsW w' g vs :=
  ⟨Nat.lt_of_lt_of_le h.1 hb.size, fun j hj => ⟨(hb.cell (p := ⟨g, j, none⟩) h.1).trans (h.2 j hj).1, (hb.frozen (p := ⟨g, j, none⟩) h.1).trans (h.2 j hj).2⟩⟩
theorem CellsW.set {w : World} {g : Nat} {vs : List Value} (h : CellsW w g vs) (j : Nat) (u : Value) (hj : j < vs.length) : CellsW (w.setCell ⟨g, j, none⟩ u) g (vs.set j u) := by
  refine ⟨by simpa [World.setCell] using h.1, fun i hi => ⟨?_, by rw [World.frozen?_setCell]; exact (h.2 i (by simpa using hi)).2⟩⟩
  rw [List.length_set] at hi
  by_cases e : j = i
  · subst e
    rw [World.cell?_setCell_same (h := (h.2 j hj).1), List.getElem_set_self]
  · rw [World.cell?_setCell_other (h := show (⟨g, j, none⟩ : Addr) ≠ ⟨g, i, none⟩ by intro hh; cases hh; exact e rfl), List.getElem_set_ne e]
    exact (h.2 i hi).1
/-! ### The marks read again. -/
structure Later (w : World) where
  u : World
  h : Below w.heap.size w u
instance (w : World) : Inhabited (Later w) := ⟨⟨w, Below.refl _ _⟩⟩
theorem region_later {P : Program} {id : Nat} {Q : Exit → Act → World → Prop} {a : Act} {w : World} {l : List Oper} (hm : P.follows .mixedOrders = true) (hB : Region.lexB .any l.toArray = true)
    (h : wpQuiet P l.toArray (fun w' => ∃ p : Later w, w' = p.u) (fun a' => ∀ w', (∃ p : Later w, w' = p.u) → Q .normal a' w') l a) : (Code.region id l.toArray true).wp P Q a w :=
  wp_region_quiet (C := fun w' => ∃ p : Later w, w' = p.u) hm hB ⟨⟨w.drew, (Below.refl _ _).drew⟩, rfl⟩ (by simpa using h)
theorem later_call {P : Program} {f : FuncId} {args : Array Value} {w : World} {v : Value} {p : Later w} (h : Calls P f args p.u fun e w' => e = .returned v ∧ Below p.u.heap.size p.u w') :
    Calls P f args p.u fun e w' => e = .returned v ∧ ∃ q : Later w, w' = q.u :=
  h.mono fun e w' ⟨he, hb⟩ => ⟨he, ⟨w', p.h.trans (hb.mono p.h.size)⟩, rfl⟩
theorem later_cell {w : World} {b j : Nat} {v : Value} (hb : b < w.heap.size) (h : w.cell? ⟨b, j, none⟩ = some v) (p : Later w) : p.u.cell? ⟨b, j, none⟩ = some v := by
  rw [p.h.cell (p := ⟨b, j, none⟩) hb]; exact h

end Go.Proofs.YtgmdfkmmbcpikaaGreat.Mem
