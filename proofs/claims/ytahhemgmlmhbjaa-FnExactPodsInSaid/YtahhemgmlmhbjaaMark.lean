/- The marks that the exact laws write and read again: laws.markText, laws.markSampleS, laws.heldSampleS. -/
import Derived.Test.YtahhemgmlmhbjaaSortJ
import Derived.Deep.RegionWith
import Derived.Deep.QuietTactic
namespace Go.Proofs.Ytahhemgmlmhbjaa.Mark
open Go.RowKit
open Go.Proofs.Ytahhemgmlmhbjaa.C1
open Go.Proofs.Ytahhemgmlmhbjaa.C2
open Go.Proofs.Ytahhemgmlmhbjaa.Smps
open Go.Proofs.Ytahhemgmlmhbjaa.SortI
set_option linter.unusedVariables false

theorem ret1T {a b : ByteArray} (h : a = b) : Ending.returned (.string a) = .returned (.string b) := by rw [h]
theorem conv_byte (w : World) (v : Int) :
    (convert 63 9 (.slice (some ⟨w.heap.size, 0, none⟩) 1 1)).run Try.prog (w.alloc (.cells #[.int .u8 v] 5)) = .ok (.string ⟨#[UInt8.ofNat v.toNat]⟩) (w.alloc (.cells #[.int .u8 v] 5)) := by
  have := run_convert_bytes_arg (P := Try.prog) (w.alloc (.cells #[.int .u8 v] 5)) 63 5 Try.underlying63 Try.underlying5 w.heap.size 0 1 1 [v] rfl (fun i hi => by
    have : i = 0 := by omega
    subst this
    go_simp) 9 Try.underlying9
  exact this
/-- The digits of k in front of what stands. -/
def tD (k : Nat) (out : ByteArray) : ByteArray := if k = 0 then out else tD (k / 10) (⟨#[UInt8.ofNat (48 + k % 10)]⟩ ++ out)
termination_by k
theorem tD_zero (out : ByteArray) : tD 0 out = out := by rw [tD]; simp
theorem tD_step {k : Nat} (h : k ≠ 0) (out : ByteArray) : tD k out = tD (k / 10) (⟨#[UInt8.ofNat (48 + k % 10)]⟩ ++ out) := by rw [tD]; simp [h]
def markT (k : Nat) : ByteArray := ⟨#[109]⟩ ++ tD k ⟨#[]⟩

theorem mark_text (k : Nat) (h0 : 0 < k) (hk : k ≤ 100000000) (w : World) :
    Calls Try.prog 39 #[.int .i64 k] w fun e w' => e = .returned (.string (markT k)) ∧ Below w.heap.size w w' := by
  go_enter Try.func39, Try.ntmps39
  go_wp2
  go_loopw [0, 3] (fun y o wr => ∃ (n : Nat) (l : ByteArray), y = .int .i64 n ∧ o = .string l ∧ n ≤ 100000000 ∧ l.size + n ≤ 100000000 ∧ Hid (tD n l = tD k ⟨#[]⟩) ∧ Hid (Below w.heap.size w wr)) (fun y _ _ => (intOf y).toNat)
  case atStart => exact ⟨k, ⟨#[]⟩, rfl, rfl, hk, by show 0 + k ≤ _; omega, rfl, Below.refl _ _⟩
  case round =>
    obtain ⟨n, l, rfl, rfl, hn, hs, HD, HB⟩ := hrel
    by_cases hp : 0 < n
    · have hcv := conv_byte wr (48 + (n : Int) % 10)
      obtain ⟨c, hc⟩ : ∃ c, UInt8.ofNat (48 + (n : Int) % 10).toNat = c := ⟨_, rfl⟩
      rw [hc] at hcv
      have hz1 : ({ data := #[c] } : ByteArray).size = 1 := rfl
      obtain ⟨q, eq⟩ : ∃ q : Nat, (n : Int) / 10 = (q : Int) := ⟨n / 10, by omega⟩
      have HN : Hid (tD q ({ data := #[c] } ++ l) = tD k ⟨#[]⟩) := by
        show _ = _
        have e1 : (48 + (n : Int) % 10).toNat = 48 + n % 10 := by omega
        have e2 : q = n / 10 := by omega
        rw [← hc, e1, e2, ← tD_step (by omega), HD.out]
      have HB2 := Lib.hid (HB.out.alloc HB.out.size (.cells #[.int .u8 (48 + (n : Int) % 10)] 5))
      have hz2 : ({ data := #[c] } ++ l : ByteArray).size = 1 + l.size := by rw [ByteArray.size_append, hz1]
      have HZ := Lib.hid hz2
      clear hz2 hc
      go_wp2
      go_roundw
      case rel => exact ⟨q, _, rfl, rfl, by omega, by have := HZ.out; omega, HN, HB2⟩
      case measure => simp [intOf]; omega
    · obtain rfl : n = 0 := by omega
      have hz1 : ({ data := #[109] } : ByteArray).size = 1 := rfl
      have HF : Hid ({ data := #[109] } ++ l = markT k) := by
        show _ = _
        unfold markT
        rw [← HD.out, tD_zero]
      clear HD
      go_wp2
      go_ret
      exact ⟨ret1T HF.out, HB.out⟩

/-- The cells vs of a block that may be written. -/
def CellsW (w : World) (g : Nat) (vs : List Value) : Prop := g < w.heap.size ∧ ∀ (j : Nat) (h : j < vs.length), w.cell? ⟨g, j, none⟩ = some vs[j] ∧ w.frozen? ⟨g, j, none⟩ = false
/-- Only block c may have been written, and blocks may be new. -/
structure Only (c : Nat) (w w' : World) : Prop where
  os : w'.os = w.os
  tape : w'.tape = w.tape
  output : w'.output = w.output
  size : w.heap.size ≤ w'.heap.size
  block : ∀ k, k < w.heap.size → k ≠ c → w'.heap[k]? = w.heap[k]?
theorem Only.refl (c : Nat) (w : World) : Only c w w := ⟨rfl, rfl, rfl, Nat.le_refl _, fun _ _ _ => rfl⟩
theorem Only.trans {c : Nat} {a b d : World} (h : Only c a b) (k : Only c b d) : Only c a d :=
  ⟨k.os.trans h.os, k.tape.trans h.tape, k.output.trans h.output, Nat.le_trans h.size k.size, fun i hi hc => (k.block i (Nat.lt_of_lt_of_le hi h.size) hc).trans (h.block i hi hc)⟩
theorem Only.of_below {c : Nat} {w w' : World} (h : Below w.heap.size w w') : Only c w w' := ⟨h.os, h.tape, h.output, h.size, fun k hk _ => h.block k hk⟩
theorem Only.below {c B : Nat} {w w' : World} (h : Only c w w') (hc : B ≤ c) (hB : B ≤ w.heap.size) : Below B w w' :=
  ⟨h.os, h.tape, h.output, h.size, fun k hk => h.block k (by omega) (by omega)⟩
theorem Only.setCell {c : Nat} {a w : World} (h : Only c a w) (j : Nat) (u : Value) : Only c a (w.setCell ⟨c, j, none⟩ u) :=
  h.trans ⟨rfl, rfl, rfl, by simp [World.setCell], fun k hk hc => Below.heap_setCell _ _ _ _ hc⟩
theorem Only.cell {c : Nat} {w w' : World} (h : Only c w w') {b j : Nat} (hb : b < w.heap.size) (hc : b ≠ c) : w'.cell? ⟨b, j, none⟩ = w.cell? ⟨b, j, none⟩ := World.cell?_of_block (w := w) (h.block b hb hc)
theorem CellsW.kept {w w' : World} {g : Nat} {vs : List Value} (h : CellsW w g vs) (hb : Below w.heap.size w w') : CellsW w' g vs :=
  ⟨Nat.lt_of_lt_of_le h.1 hb.size, fun j hj => ⟨(hb.cell (p := ⟨g, j, none⟩) h.1).trans (h.2 j hj).1, (hb.frozen (p := ⟨g, j, none⟩) h.1).trans (h.2 j hj).2⟩⟩
theorem CellsW.set {w : World} {g : Nat} {vs : List Value} (h : CellsW w g vs) (j : Nat) (u : Value) (hj : j < vs.length) : CellsW (w.setCell ⟨g, j, none⟩ u) g (vs.set j u) := by
  refine ⟨by simpa [World.setCell] using h.1, fun i hi => ⟨?_, by rw [World.frozen?_setCell]; exact (h.2 i (by simpa using hi)).2⟩⟩
  rw [List.length_set] at hi
  by_cases e : j = i
  · subst e
    rw [World.cell?_setCell_same (h := (h.2 j hj).1), List.getElem_set_self]
  · rw [World.cell?_setCell_other (h := show (⟨g, j, none⟩ : Addr) ≠ ⟨g, i, none⟩ by intro hh; cases hh; exact e rfl), List.getElem_set_ne e]
    exact (h.2 i hi).1
theorem CellsW.at {w : World} {g : Nat} {xs : List Smp} (h : CellsW w g (flat xs)) (k : Nat) (hk : k < xs.length) : At4 w g (k * 4) xs[k] ∧ ∀ j, j < 4 → w.frozen? ⟨g, k * 4 + j, none⟩ = false := by
  have hl := flat_len xs
  have hc : ∀ j, j < 4 → w.cell? ⟨g, k * 4 + j, none⟩ = (encS xs[k])[j]? := fun j hj => by
    rw [(h.2 (k * 4 + j) (by omega)).1, ← flat_get xs k j hk hj]
    exact (List.getElem?_eq_getElem (by omega)).symm
  exact ⟨⟨hc 0 (by omega), hc 1 (by omega), hc 2 (by omega), hc 3 (by omega)⟩, fun j hj => (h.2 (k * 4 + j) (by omega)).2⟩
theorem cells_rows {w : World} {g B : Nat} {xs : List Smp} (hg : g < w.heap.size) (h : SortI.Rows w B (some ⟨g, 0, none⟩) xs) : CellsW w g (flat xs) := by
  refine ⟨hg, fun j hj => ?_⟩
  rw [flat_len] at hj
  rcases h with h | ⟨g', h1, _, _, h3, h4⟩
  · subst h; simp at hj
  · cases h1
    have e : j = j / 4 * 4 + j % 4 := by omega
    have hi4 : j / 4 < xs.length := by omega
    obtain ⟨c0, c1, c2, c3⟩ := h3 (j / 4) hi4
    rw [Nat.zero_add] at c0 c1 c2 c3
    have hf := flat_get xs (j / 4) (j % 4) hi4 (by omega)
    rw [← e, List.getElem?_eq_getElem (by rw [flat_len]; exact hj)] at hf
    refine ⟨?_, h4 j hj⟩
    rcases (by omega : j % 4 = 0 ∨ j % 4 = 1 ∨ j % 4 = 2 ∨ j % 4 = 3) with hr | hr | hr | hr <;> rw [hr] at hf <;> simp [encS] at hf <;> rw [hf]
    · have e' : j / 4 * 4 = j := by omega
      rw [e'] at c0; exact c0
    · have e' : j / 4 * 4 + 1 = j := by omega
      rw [e'] at c1; exact c1
    · have e' : j / 4 * 4 + 2 = j := by omega
      rw [e'] at c2; exact c2
    · have e' : j / 4 * 4 + 3 = j := by omega
      rw [e'] at c3; exact c3

/-- The marks of n samples, from k on. -/
def mk4 (k : Nat) : Smp := ⟨markT k, markT (k + 1), ((k + 2 : Nat) : Int), ((k + 3 : Nat) : Int)⟩
def marks (k n : Nat) : List Smp := (List.range n).map fun i => mk4 (k + 4 * i)
theorem marks_len (k n : Nat) : (marks k n).length = n := by simp [marks]
theorem marks_get (k n i : Nat) (h : i < (marks k n).length) : (marks k n)[i] = mk4 (k + 4 * i) := by simp [marks]
def half (k : Nat) (ys : List Smp) (i : Nat) : List Smp := (marks k ys.length).take i ++ ys.drop i
theorem half_len (k : Nat) (ys : List Smp) (i : Nat) (h : i ≤ ys.length) : (half k ys i).length = ys.length := by unfold half; simp [marks_len]; omega
theorem half_set (k : Nat) (ys : List Smp) (i : Nat) (h : i < ys.length) : (half k ys i).set i (mk4 (k + 4 * i)) = half k ys (i + 1) := by
  unfold half
  have e2 : i - ((marks k ys.length).take i).length = 0 := by simp [marks_len]; omega
  rw [List.set_append, if_neg (by simp [marks_len]; omega), e2, List.drop_eq_getElem_cons h, List.set_cons_zero, List.take_succ_eq_append_getElem (by rw [marks_len]; exact h), List.append_assoc, marks_get]
  rfl
theorem half_all (k : Nat) (ys : List Smp) : half k ys ys.length = marks k ys.length := by
  unfold half
  rw [List.take_of_length_le (by rw [marks_len]; exact Nat.le_refl _)]; simp

set_option maxHeartbeats 1600000 in
theorem mark_samples (g k cap : Nat) (h0 : 0 < k) (ys : List Smp) (hk : k + 4 * ys.length ≤ 100000000) (w : World) (h : CellsW w g (flat ys)) :
    Calls Try.prog 19 #[.slice (some ⟨g, 0, none⟩) ys.length cap, .int .i64 k] w fun e w' => e = .returned (.int .i64 ((k + 4 * ys.length : Nat) : Int)) ∧ CellsW w' g (flat (marks k ys.length)) ∧ Only g w w' := by
  have HC0 := Lib.hid h
  clear h
  go_enter Try.func19, Try.ntmps19
  go_wp2
  go_loopw [1, 5] (fun vk vi wr => ∃ (i m : Nat), vi = .int .i64 i ∧ vk = .int .i64 m ∧ m = k + 4 * i ∧ i ≤ ys.length ∧ Hid (CellsW wr g (flat (half k ys i)) ∧ Only g w wr)) (fun _ vi _ => ys.length - (intOf vi).toNat)
  case atStart => exact ⟨0, k, rfl, rfl, by omega, Nat.zero_le _, by show CellsW _ _ (flat (half k ys 0)); unfold half; simpa using HC0.out, Only.refl _ _⟩
  case round =>
    obtain ⟨i, m, rfl, rfl, hm, hi, H⟩ := hrel
    have HM := Lib.hid hm
    have hmb : m ≤ 100000000 - 4 * (ys.length - i) := by omega
    have hmp : 0 < m := by omega
    clear hm
    by_cases hlt : i < ys.length
    · obtain ⟨m1, e1⟩ : ∃ x : Nat, (m : Int) + 1 = (x : Int) := ⟨m + 1, by omega⟩
      obtain ⟨m2, e2⟩ : ∃ x : Nat, (m1 : Int) + 1 = (x : Int) := ⟨m + 2, by omega⟩
      obtain ⟨m3, e3⟩ : ∃ x : Nat, (m2 : Int) + 1 = (x : Int) := ⟨m + 3, by omega⟩
      obtain ⟨m4, e4⟩ : ∃ x : Nat, (m3 : Int) + 1 = (x : Int) := ⟨m + 4, by omega⟩
      have hhl := half_len k ys i hi
      have hil : i * 4 + 3 < (flat (half k ys i)).length := by rw [flat_len, hhl]; omega
      obtain ⟨vs, hvs⟩ : ∃ vs, flat (half k ys i) = vs := ⟨_, rfl⟩
      have HC := Lib.hid H.out.1
      have HO := Lib.hid H.out.2
      rw [hvs] at HC hil
      have HVS := Lib.hid hvs
      clear H hvs hhl
      go_wp2_with (go_at_call_of 39 (Value.int IntKind.i64 (m : Int)); refine (mark_text m hmp (by omega) _).mono ?_; rintro e w1 ⟨rfl, hb1⟩; have HC1 := Lib.hid (HC.out.kept hb1); have HO1 := Lib.hid (HO.out.trans (Only.of_below hb1)); obtain ⟨p0, f0⟩ := HC1.out.2 (i * 4) (by omega); clear hb1)
      have HC2 := Lib.hid (HC1.out.set (i * 4) (.string (markT m)) (by omega))
      have HO2 := Lib.hid (HO1.out.setCell (i * 4) (.string (markT m)))
      go_wp2_with (go_at_call_of 39 (Value.int IntKind.i64 (m1 : Int)); refine (mark_text m1 (by omega) (by omega) _).mono ?_; rintro e w3 ⟨rfl, hb3⟩; have HC3 := Lib.hid (HC2.out.kept hb3); have HO3 := Lib.hid (HO2.out.trans (Only.of_below hb3)); obtain ⟨q1, g1⟩ := HC3.out.2 (i * 4 + 1) (by simp; omega); obtain ⟨q2, g2⟩ := HC3.out.2 (i * 4 + 2) (by simp; omega); obtain ⟨q3, g3⟩ := HC3.out.2 (i * 4 + 3) (by simp; omega); clear hb3)
      have HC6 := Lib.hid (((HC3.out.set (i * 4 + 1) (.string (markT m1)) (by simp; omega)).set (i * 4 + 2) (.int .i64 m2) (by simp; omega)).set (i * 4 + 3) (.int .i64 m3) (by simp; omega))
      have HO6 := Lib.hid (((HO3.out.setCell (i * 4 + 1) (.string (markT m1))).setCell (i * 4 + 2) (.int .i64 m2)).setCell (i * 4 + 3) (.int .i64 m3))
      have HN : Hid (CellsW ((((w3.setCell ⟨g, i * 4 + 1, none⟩ (.string (markT m1))).setCell ⟨g, i * 4 + 2, none⟩ (.int .i64 m2)).setCell ⟨g, i * 4 + 3, none⟩ (.int .i64 m3))) g (flat (half k ys (i + 1)))) := by
        have h := HC6.out
        rw [← HVS.out] at h
        have hh := half_set k ys i hlt
        have hm := HM.out
        have a1 : m1 = k + 4 * i + 1 := by omega
        have a2 : m2 = k + 4 * i + 2 := by omega
        have a3 : m3 = k + 4 * i + 3 := by omega
        rw [hm] at h
        rw [a1, a2, a3] at h ⊢
        have hfs := flat_set (half k ys i) i (mk4 (k + 4 * i)) (by rw [half_len k ys i hi]; exact hlt)
        rw [hh] at hfs
        rw [← hfs]
        exact h
      go_wp2
      go_roundw
      case rel => exact ⟨i + 1, m4, by go_num, by first | rfl | go_num, by have := HM.out; omega, by omega, HN.out, HO6.out⟩
      case measure => simp [intOf]; omega
    · obtain rfl : i = ys.length := by omega
      have HF : Hid (CellsW wr g (flat (marks k ys.length))) := by
        have := H.out.1
        rw [half_all] at this
        exact this
      have HO := Lib.hid H.out.2
      clear H
      go_wp2
      go_ret
      exact ⟨ret1I (by have := HM.out; omega), HF.out, HO.out⟩

/-! ### The marks read again. -/
structure Later (w : World) where
  u : World
  h : Below w.heap.size w u
instance (w : World) : Inhabited (Later w) := ⟨⟨w, Below.refl _ _⟩⟩
theorem region_later {P : Program} {id : Nat} {Q : Exit → Act → World → Prop} {a : Act} {w : World} {l : List Oper} (hm : P.follows .mixedOrders = true) (hB : Region.lexB .any l.toArray = true)
    (h : wpQuiet P l.toArray (fun w' => ∃ p : Later w, w' = p.u) (fun a' => ∀ w', (∃ p : Later w, w' = p.u) → Q .normal a' w') l a) : (Code.region id l.toArray true).wp P Q a w :=
  wp_region_quiet (C := fun w' => ∃ p : Later w, w' = p.u) hm hB ⟨⟨w.drew, (Below.refl _ _).drew⟩, rfl⟩ (by simpa using h)
theorem later_call {P : Program} {f : FuncId} {args : Array Value} {w : World} {v : Value} {p : Later w} (h : Calls P f args p.u fun e w' => e = .returned v ∧ Below p.u.heap.size p.u w') :
    Calls P f args p.u fun e w' => e = .returned v ∧ ∃ q : Later w, w' = q.u :=
  h.mono fun e w' ⟨he, hb⟩ => ⟨he, ⟨w', p.h.trans (hb.mono p.h.size)⟩, rfl⟩
theorem later_cell {w : World} {b j : Nat} {v : Value} (hb : b < w.heap.size) (h : w.cell? ⟨b, j, none⟩ = some v) (p : Later w) : p.u.cell? ⟨b, j, none⟩ = some v := by
  rw [p.h.cell (p := ⟨b, j, none⟩) hb]; exact h

set_option maxHeartbeats 1600000 in
theorem held_samples (g k n cap : Nat) (h0 : 0 < k) (hk : k + 4 * n ≤ 100000000) (w : World) (h : CellsW w g (flat (marks k n))) :
    Calls Try.prog 20 #[.slice (some ⟨g, 0, none⟩) n cap, .int .i64 k] w fun e w' => e = .returned (.int .i64 ((k + 4 * n : Nat) : Int)) ∧ Below w.heap.size w w' := by
  have mixed : Try.prog.follows .mixedOrders = true := by kernel_rfl
  have HC0 := Lib.hid h
  clear h
  go_enter Try.func20, Try.ntmps20
  go_wp2
  go_loopw [1, 5] (fun vk vi wr => ∃ (i m : Nat), vi = .int .i64 i ∧ vk = .int .i64 m ∧ m = k + 4 * i ∧ i ≤ n ∧ Hid (Below w.heap.size w wr)) (fun _ vi _ => n - (intOf vi).toNat)
  case atStart => exact ⟨0, k, rfl, rfl, by omega, Nat.zero_le _, Below.refl _ _⟩
  case round =>
    obtain ⟨i, m, rfl, rfl, hm, hi, HB⟩ := hrel
    have HM := Lib.hid hm
    have hmb : m ≤ 100000000 - 4 * (n - i) := by omega
    have hmp : 0 < m := by omega
    by_cases hlt : i < n
    · obtain ⟨m1, e1⟩ : ∃ x : Nat, (m : Int) + 1 = (x : Int) := ⟨m + 1, by omega⟩
      obtain ⟨m2, e2⟩ : ∃ x : Nat, (m1 : Int) + 1 = (x : Int) := ⟨m + 2, by omega⟩
      obtain ⟨m3, e3⟩ : ∃ x : Nat, (m2 : Int) + 1 = (x : Int) := ⟨m + 3, by omega⟩
      obtain ⟨m4, e4⟩ : ∃ x : Nat, (m3 : Int) + 1 = (x : Int) := ⟨m + 4, by omega⟩
      have hat := (HC0.out.at i (by rw [marks_len]; exact hlt)).1
      rw [marks_get, ← hm] at hat
      have hg : g < w.heap.size := HC0.out.1
      have HG := Lib.hid hg
      obtain ⟨c0, c1, c2, c3⟩ := hat.kept HB.out hg
      have hm1 : m + 1 = m1 := by omega
      have hm2 : m + 2 = m2 := by omega
      have hm3 : m + 3 = m3 := by omega
      simp only [mk4] at c0 c1 c2 c3
      rw [hm1] at c1
      rw [hm2] at c2
      rw [hm3] at c3
      have hgr := Nat.lt_of_lt_of_le hg HB.out.size
      clear hat hg hm hm1 hm2 hm3
      have L0 := later_cell hgr c0
      have C1 := Lib.hid c1
      have C2 := Lib.hid c2
      have C3 := Lib.hid c3
      clear c0 c1 c2 c3
      go_wp2_with fail
      refine region_later mixed (by kernel_rfl) ?_
      repeat (quiet_step (first | (go_at_call 39; exact later_call (mark_text m hmp (by omega) _))))
      refine wpQuiet_nil ?_
      intro _ hw'
      obtain ⟨⟨w1, hw1⟩, rfl⟩ := hw'
      clear L0
      have HB1 := Lib.hid (HB.out.trans (hw1.mono HB.out.size))
      have hg1 := Nat.lt_of_lt_of_le hgr hw1.size
      have L1 := later_cell hg1 ((hw1.cell (p := ⟨g, i * 4 + 1, none⟩) hgr).trans C1.out)
      have C2' := Lib.hid ((hw1.cell (p := ⟨g, i * 4 + 2, none⟩) hgr).trans C2.out)
      have C3' := Lib.hid ((hw1.cell (p := ⟨g, i * 4 + 3, none⟩) hgr).trans C3.out)
      clear hw1
      go_wp2_with fail
      refine region_later mixed (by kernel_rfl) ?_
      repeat (quiet_step (first | (go_at_call 39; exact later_call (mark_text m1 (by omega) (by omega) _))))
      refine wpQuiet_nil ?_
      intro _ hw'
      obtain ⟨⟨w2, hw2⟩, rfl⟩ := hw'
      clear L1
      have HB2 := Lib.hid (HB1.out.trans (hw2.mono HB1.out.size))
      have c2 := (hw2.cell (p := ⟨g, i * 4 + 2, none⟩) hg1).trans C2'.out
      have c3 := (hw2.cell (p := ⟨g, i * 4 + 3, none⟩) hg1).trans C3'.out
      clear hw2
      go_wp2
      go_roundw
      case rel => exact ⟨i + 1, m4, by go_num, by first | rfl | go_num, by have := HM.out; omega, by omega, HB2⟩
      case measure => simp [intOf]; omega
    · obtain rfl : i = n := by omega
      clear hm
      go_wp2
      go_ret
      exact ⟨ret1I (by have := HM.out; omega), HB.out⟩
end Go.Proofs.Ytahhemgmlmhbjaa.Mark
