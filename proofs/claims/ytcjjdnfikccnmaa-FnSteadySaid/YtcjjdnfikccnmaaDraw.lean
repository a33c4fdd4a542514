/- The draws of the laws: a cursor over the bytes of a draw, and what a draw hands back: some number within its bounds; only the cursor's block is written. -/
import Derived.Test.YtcjjdnfikccnmaaInts
import Derived.Laws.BitsLemmas
import Derived.WalkSmall
namespace Go.Proofs.Ytcjjdnfikccnmaa.Draw
open Go.RowKit Go.Deep
open Go.Proofs.Ytcjjdnfikccnmaa.C1 Go.Proofs.Ytcjjdnfikccnmaa.Ints
set_option linter.unusedVariables false

theorem i64_mask (k : Nat) (hk : k < 63) (m : Int) (hm : (BitVec.ofInt 64 m).toNat = 2 ^ k - 1) (n : Int) : bits .and .i64 n m = n % ((2 ^ k : Nat) : Int) := by
  have key : (BitVec.ofInt 64 n &&& BitVec.ofInt 64 m).toNat = (n % ((2 ^ 64 : Nat) : Int)).toNat % 2 ^ k := by
    rw [BitVec.toNat_and, BitVec.toNat_ofInt, hm, Nat.and_two_pow_sub_one_eq_mod]
  show IntKind.i64.wrap ((BitVec.ofInt 64 n &&& BitVec.ofInt 64 m).toNat : Nat) = _
  rw [key, IntKind.wrap_i64]
  have h1 : (2 ^ k : Nat) ≤ 2 ^ 62 := Nat.pow_le_pow_right (by decide) (by omega)
  have h2 : (((n % ((2 ^ 64 : Nat) : Int)).toNat % 2 ^ k : Nat) : Int) = n % ((2 ^ k : Nat) : Int) := by
    have h3 : (((n % ((2 ^ 64 : Nat) : Int)).toNat : Nat) : Int) = n % ((2 ^ 64 : Nat) : Int) := Int.toNat_of_nonneg (Int.emod_nonneg _ (by decide))
    rw [Int.natCast_emod, h3]
    refine Int.emod_emod_of_dvd n ?_
    exact Int.natCast_dvd_natCast.2 (Nat.pow_dvd_pow 2 (by omega))
  rw [h2]
  have h4 : 0 < (2 ^ k : Nat) := Nat.pow_pos (by decide)
  have h5 := Int.emod_nonneg n (show ((2 ^ k : Nat) : Int) ≠ 0 by omega)
  have h6 := Int.emod_lt_of_pos n (show 0 < ((2 ^ k : Nat) : Int) by omega)
  omega
theorem and255 (n : Int) : bits .and .i64 n 255 = n % 256 := i64_mask 8 (by decide) 255 (by decide) n
theorem and30 (n : Int) : bits .and .i64 n 1073741823 = n % 1073741824 := i64_mask 30 (by decide) 1073741823 (by decide) n

/-- Only block c may have been written, and blocks may be new. -/
structure Touched (c : Nat) (w w' : World) : Prop where
  os : w'.os = w.os
  tape : w'.tape = w.tape
  output : w'.output = w.output
  size : w.heap.size ≤ w'.heap.size
  block : ∀ k, k < w.heap.size → k ≠ c → w'.heap[k]? = w.heap[k]?
theorem Touched.refl (c : Nat) (w : World) : Touched c w w := ⟨rfl, rfl, rfl, Nat.le_refl _, fun _ _ _ => rfl⟩
theorem Touched.trans {c : Nat} {a b d : World} (h : Touched c a b) (k : Touched c b d) : Touched c a d :=
  ⟨k.os.trans h.os, k.tape.trans h.tape, k.output.trans h.output, Nat.le_trans h.size k.size, fun i hi hc => (k.block i (Nat.lt_of_lt_of_le hi h.size) hc).trans (h.block i hi hc)⟩
theorem Touched.of_below {c : Nat} {w w' : World} (h : Below w.heap.size w w') : Touched c w w' := ⟨h.os, h.tape, h.output, h.size, fun k hk _ => h.block k hk⟩
theorem Touched.below {c B : Nat} {w w' : World} (h : Touched c w w') (hc : B ≤ c) (hB : B ≤ w.heap.size) : Below B w w' :=
  ⟨h.os, h.tape, h.output, h.size, fun k hk => h.block k (by omega) (by omega)⟩
theorem Touched.setCell {c : Nat} {a w : World} (h : Touched c a w) (j : Nat) (u : Value) : Touched c a (w.setCell ⟨c, j, none⟩ u) :=
  h.trans ⟨rfl, rfl, rfl, by simp [World.setCell], fun k hk hc => Below.heap_setCell _ _ _ _ hc⟩
theorem Touched.drewN {c : Nat} {a w : World} (h : Touched c a w) (n : Nat) : Touched c a (w.drewN n) := h.trans ⟨rfl, rfl, rfl, Nat.le_refl _, fun _ _ _ => rfl⟩

/-- The n bytes at a can be read (in a block that the world has). -/
def BytesAt (w : World) (a : Option Addr) (n : Nat) : Prop :=
  n = 0 ∨ ∃ b off, a = some ⟨b, off, none⟩ ∧ b < w.heap.size ∧ ∀ i, i < n → ∃ v : Int, 0 ≤ v ∧ v ≤ 255 ∧ w.cell? ⟨b, off + i, none⟩ = some (.int .u8 v)
theorem BytesAt.kept {w w' : World} {a : Option Addr} {n : Nat} (h : BytesAt w a n) (hb : Below w.heap.size w w') : BytesAt w' a n := by
  rcases h with h | ⟨b, off, h1, h2, h3⟩
  · exact .inl h
  · refine .inr ⟨b, off, h1, Nat.lt_of_lt_of_le h2 hb.size, fun i hi => ?_⟩
    obtain ⟨v, v1, v2, v3⟩ := h3 i hi
    exact ⟨v, v1, v2, by rw [hb.cell (p := ⟨b, off + i, none⟩) h2]; exact v3⟩

/-- The cursor in block c, over bytes that lie elsewhere. -/
def CurHas (w : World) (c : Nat) (a : Option Addr) (n cap i : Nat) (h : Int) : Prop :=
  w.heap[c]? = some (.cells #[.slice a n cap, .int .i64 i, .int .i64 h] 148 (0, 0)) ∧ i ≤ n ∧ n ≤ maxLen ∧ -9223372036854775808 ≤ h ∧ h ≤ 9223372036854775807 ∧
    (n = 0 ∨ ∃ b off, a = some ⟨b, off, none⟩ ∧ b < w.heap.size ∧ b < c ∧ ∀ j, j < n → ∃ v : Int, 0 ≤ v ∧ v ≤ 255 ∧ w.cell? ⟨b, off + j, none⟩ = some (.int .u8 v))
def Cur (w : World) (c : Nat) : Prop := ∃ a n cap i h, CurHas w c a n cap i h
theorem Cur.lt {w : World} {c : Nat} (h : Cur w c) : c < w.heap.size := by
  obtain ⟨a, n, cap, i, h, h1, _⟩ := h
  rcases Nat.lt_or_ge c w.heap.size with g | g
  · exact g
  · rw [Array.getElem?_eq_none g] at h1; cases h1
theorem Cur.kept {w w' : World} {c : Nat} (h : Cur w c) (hb : Below w.heap.size w w') : Cur w' c := by
  have hlt := h.lt
  obtain ⟨a, n, cap, i, h, h1, h2, h3, h4, h5, h6⟩ := h
  refine ⟨a, n, cap, i, h, by rw [hb.block c hlt]; exact h1, h2, h3, h4, h5, ?_⟩
  rcases h6 with h6 | ⟨b, off, g1, g2, g3, g4⟩
  · exact .inl h6
  · refine .inr ⟨b, off, g1, Nat.lt_of_lt_of_le g2 hb.size, g3, fun j hj => ?_⟩
    obtain ⟨v, v1, v2, v3⟩ := g4 j hj
    exact ⟨v, v1, v2, by rw [hb.cell (p := ⟨b, off + j, none⟩) g2]; exact v3⟩

theorem em (x : Int) : 0 ≤ x % 256 ∧ x % 256 ≤ 255 := by omega
/-- What the steps of a cursor leave. -/
theorem cur_step {w wA : World} {c n cap i : Nat} {a : Option Addr} {H : Int} (A1 : wA.heap[c]? = some (.cells #[.slice a n cap, .int .i64 i, .int .i64 H] 148 (0, 0))) (hi : i ≤ n) (hn : n ≤ maxLen) (h1 : -9223372036854775808 ≤ H) (h2 : H ≤ 9223372036854775807)
    (hb : n = 0 ∨ ∃ b off, a = some ⟨b, off, none⟩ ∧ b < wA.heap.size ∧ b < c ∧ ∀ j, j < n → ∃ v : Int, 0 ≤ v ∧ v ≤ 255 ∧ wA.cell? ⟨b, off + j, none⟩ = some (.int .u8 v)) (q : Nat) (hw : w = wA.drewN q) : Cur w c := by
  subst hw
  exact ⟨a, n, cap, i, H, A1, hi, hn, h1, h2, hb⟩

theorem Cur.grown {w w' : World} {c : Nat} {row : Option Nat} (h : Cur w c) (hg : w.grownBy w' row) (hr : ∀ k, row = some k → c < k) : Cur w' c := by
  have hlt := h.lt
  obtain ⟨a, n, cap, i, h, h1, h2, h3, h4, h5, h6⟩ := h
  have hne : ∀ k, k ≤ c → some k ≠ row := fun k hk e => by have := hr k e.symm; omega
  refine ⟨a, n, cap, i, h, by rw [hg.block c hlt (hne c (Nat.le_refl _))]; exact h1, h2, h3, h4, h5, ?_⟩
  rcases h6 with h6 | ⟨b, off, g1, g2, g3, g4⟩
  · exact .inl h6
  · refine .inr ⟨b, off, g1, Nat.lt_of_lt_of_le g2 hg.size, g3, fun j hj => ?_⟩
    obtain ⟨v, v1, v2, v3⟩ := g4 j hj
    exact ⟨v, v1, v2, by rw [World.cell?_of_block (w := w) (hg.block b g2 (hne b (Nat.le_of_lt g3)))]; exact v3⟩
theorem Touched.grown {c : Nat} {a w w' : World} {row : Option Nat} (h : Touched c a w) (hg : w.grownBy w' row) (hr : ∀ k, row = some k → a.heap.size ≤ k) : Touched c a w' :=
  ⟨hg.os.trans h.os, hg.tape.trans h.tape, hg.output.trans h.output, Nat.le_trans h.size hg.size, fun k hk hc => (hg.block k (Nat.lt_of_lt_of_le hk h.size) (fun e => by have := hr k e.symm; omega)).trans (h.block k hk hc)⟩

set_option maxHeartbeats 1000000 in
theorem byte (c : Nat) (w : World) (hC : Cur w c) :
    Calls Try.prog 151 #[.pointer (some ⟨c, 0, none⟩)] w fun e w' => ∃ x : Int, 0 ≤ x ∧ x ≤ 255 ∧ e = .returned (.int .i64 x) ∧ Cur w' c ∧ Touched c w w' := by
  obtain ⟨a, n, cap, i, h, h1, h2, h3, h4, h5, h6⟩ := hC
  have c0 : w.cell? ⟨c, 0, none⟩ = some (.slice a n cap) := by rw [cell_of_row w c 0 _ _ _ h1]; rfl
  have c1 : w.cell? ⟨c, 1, none⟩ = some (.int .i64 i) := by rw [cell_of_row w c 1 _ _ _ h1]; rfl
  have c2 : w.cell? ⟨c, 2, none⟩ = some (.int .i64 h) := by rw [cell_of_row w c 2 _ _ _ h1]; rfl
  have f1 : w.frozen? ⟨c, 1, none⟩ = false := frozen_of_row w c 1 _ _ h1
  have f2 : w.frozen? ⟨c, 2, none⟩ = false := frozen_of_row w c 2 _ _ h1
  have H1 := Lib.hid h1
  have HN := Lib.hid h3
  clear h1
  unfold maxLen at h3
  have m255 := and255
  have H6 := Lib.hid h6
  clear h6
  go_enter Try.func151, Try.ntmps151
  go_wp2
  generalize hH : wrap64 (wrap64 (h * 6364136223846793005) + 1442695040888963407) = H
  have hHb : -9223372036854775808 ≤ H ∧ H ≤ 9223372036854775807 := by rw [← hH]; exact wf_bd _ (wrap64_wf _)
  clear hH
  obtain ⟨hHb1, hHb2⟩ := hHb
  have A1 : (w.setCell ⟨c, 2, none⟩ (.int .i64 H)).heap[c]? = some (.cells #[.slice a n cap, .int .i64 i, .int .i64 H] 148 (0, 0)) := heap_setCell_same w c 2 _ _ _ H1.out
  have TA : Touched c w (w.setCell ⟨c, 2, none⟩ (.int .i64 H)) := (Touched.refl c w).setCell 2 _
  have A6 : n = 0 ∨ ∃ b off, a = some ⟨b, off, none⟩ ∧ b < (w.setCell ⟨c, 2, none⟩ (.int .i64 H)).heap.size ∧ b < c ∧ ∀ j, j < n → ∃ v : Int, 0 ≤ v ∧ v ≤ 255 ∧ (w.setCell ⟨c, 2, none⟩ (.int .i64 H)).cell? ⟨b, off + j, none⟩ = some (.int .u8 v) := by
    rcases H6.out with h6 | ⟨b, off, g1, g2, g3, g4⟩
    · exact .inl h6
    · refine .inr ⟨b, off, g1, by simpa [World.setCell] using g2, g3, fun j hj => ?_⟩
      obtain ⟨v, q1, q2, q3⟩ := g4 j hj
      exact ⟨v, q1, q2, by rw [World.cell?_of_block (w := w) (heap_setCell_other w ⟨c, 2, none⟩ b _ (Nat.ne_of_lt g3))]; exact q3⟩
  clear c0 c1 c2 f1 f2 H1 H6
  generalize w.setCell ⟨c, 2, none⟩ (.int .i64 H) = wA at *
  have c0 : wA.cell? ⟨c, 0, none⟩ = some (.slice a n cap) := by rw [cell_of_row wA c 0 _ _ _ A1]; rfl
  have c1 : wA.cell? ⟨c, 1, none⟩ = some (.int .i64 i) := by rw [cell_of_row wA c 1 _ _ _ A1]; rfl
  have c2 : wA.cell? ⟨c, 2, none⟩ = some (.int .i64 H) := by rw [cell_of_row wA c 2 _ _ _ A1]; rfl
  have f1 : wA.frozen? ⟨c, 1, none⟩ = false := frozen_of_row wA c 1 _ _ A1
  have HA1 := Lib.hid A1
  have HA6 := Lib.hid A6
  clear A1 A6
  by_cases hlt : i < n
  · rcases HA6.out with h6 | ⟨b, off, rfl, g2, g3, g4⟩
    · omega
    · obtain ⟨v, v1, v2, v3⟩ := g4 i hlt
      have E1 : (wA.setCell ⟨c, 1, none⟩ (.int .i64 ((i : Int) + 1))).heap[c]? = some (.cells #[.slice (some ⟨b, off, none⟩) n cap, .int .i64 ((i : Int) + 1), .int .i64 H] 148 (0, 0)) := heap_setCell_same wA c 1 _ _ _ HA1.out
      have e : ((i : Int) + 1) = ((i + 1 : Nat) : Int) := by omega
      have E6 : n = 0 ∨ ∃ b' off', some (⟨b, off, none⟩ : Addr) = some ⟨b', off', none⟩ ∧ b' < (wA.setCell ⟨c, 1, none⟩ (.int .i64 ((i : Int) + 1))).heap.size ∧ b' < c ∧ ∀ j, j < n → ∃ v : Int, 0 ≤ v ∧ v ≤ 255 ∧ (wA.setCell ⟨c, 1, none⟩ (.int .i64 ((i : Int) + 1))).cell? ⟨b', off' + j, none⟩ = some (.int .u8 v) := by
        refine .inr ⟨b, off, rfl, by simpa [World.setCell] using g2, g3, fun j hj => ?_⟩
        obtain ⟨v, q1, q2, q3⟩ := g4 j hj
        exact ⟨v, q1, q2, by rw [World.cell?_of_block (w := wA) (heap_setCell_other wA ⟨c, 1, none⟩ b _ (Nat.ne_of_lt g3))]; exact q3⟩
      rw [e] at E1 E6
      have hcur := fun (w' : World) (q : Nat) (hw : w' = (wA.setCell ⟨c, 1, none⟩ (.int .i64 ((i + 1 : Nat) : Int))).drewN q) => cur_step (i := i + 1) E1 (by omega) HN.out hHb1 hHb2 E6 q hw
      have HC := Lib.hid hcur
      have HT : Hid (Touched c w (wA.setCell ⟨c, 1, none⟩ (.int .i64 ((i : Int) + 1)))) := TA.setCell 1 _
      clear hcur E1 E6 g4 HA1 HA6
      have hi1 : (i : Int) < (n : Int) := by omega
      have He := Lib.hid e
      clear e TA
      go_quiet (fail)
      go_wp2
      go_quiet (fail)
      go_wp2
      go_quiet (fail)
      go_wp2
      go_ret
      exact ⟨_, (em _).1, (em _).2, rfl, HC.out _ _ (by rw [← He.out]; rfl), HT.out.drewN _⟩
  · have hi1 : ¬ (i : Int) < (n : Int) := by omega
    have HT := Lib.hid TA
    clear TA
    go_quiet (fail)
    go_wp2
    go_quiet (fail)
    go_wp2
    go_ret
    exact ⟨_, (em _).1, (em _).2, rfl, cur_step HA1.out h2 HN.out hHb1 hHb2 HA6.out _ (by rw [World.drewN_drewN]), (HT.out.drewN _).drewN _⟩

/-- What a draw of a number hands back. -/
def Num (c : Nat) (w : World) (lo hi : Int) (e : Ending) (w' : World) : Prop := ∃ x : Int, lo ≤ x ∧ x ≤ hi ∧ e = .returned (.int .i64 x) ∧ Cur w' c ∧ Touched c w w'

theorem mod_bd (x n : Int) (h : 0 < n) : 0 ≤ x % n ∧ x % n ≤ n - 1 := by
  have h1 := Int.emod_nonneg x (show n ≠ 0 by omega)
  have h2 := Int.emod_lt_of_pos x h
  omega

set_option maxHeartbeats 1000000 in
theorem below_n (c : Nat) (n : Int) (hn : 0 < n) (hn2 : n ≤ 9223372036854775807) (w : World) (hC : Cur w c) :
    Calls Try.prog 105 #[.pointer (some ⟨c, 0, none⟩), .int .i64 n] w (Num c w 0 (n - 1)) := by
  by_cases h : n ≤ 256
  · go_enter Try.func105, Try.ntmps105
    have HC := Lib.hid hC
    clear hC
    go_wp2_with (go_at_call 151; refine (byte c _ HC.out).mono ?_; rintro e w1 ⟨x, x1, x2, rfl, hC1, hT1⟩)
    go_ret
    exact ⟨_, (mod_bd x n hn).1, (mod_bd x n hn).2, rfl, hC1, hT1⟩
  · go_enter Try.func105, Try.ntmps105
    have HC := Lib.hid hC
    clear hC
    go_wp2_with (go_at_call 151; refine (byte c _ HC.out).mono ?_; rintro e w1 ⟨x, x1, x2, rfl, hC1, hT1⟩)
    have HC1 := Lib.hid hC1
    have HT1 := Lib.hid hT1
    clear hC1 hT1 HC
    go_wp2_with (go_at_call 151; refine (byte c _ HC1.out).mono ?_; rintro e w2 ⟨y, y1, y2, rfl, hC2, hT2⟩)
    have HC2 := Lib.hid hC2
    have HT2 := Lib.hid (HT1.out.trans hT2)
    clear hC2 hT2 HC1 HT1
    go_wp2_with (go_at_call 151; refine (byte c _ HC2.out).mono ?_; rintro e w3 ⟨z, z1, z2, rfl, hC3, hT3⟩)
    go_ret
    exact ⟨_, (mod_bd _ n hn).1, (mod_bd _ n hn).2, rfl, hC3, HT2.out.trans hT3⟩

theorem once (c : Nat) (n : Int) (hn : 0 < n) (hn2 : n ≤ 9223372036854775807) (w : World) (hC : Cur w c) :
    Calls Try.prog 104 #[.pointer (some ⟨c, 0, none⟩), .int .i64 n] w fun e w' => ∃ x : Bool, e = .returned (.bool x) ∧ Cur w' c ∧ Touched c w w' := by
  go_enter Try.func104, Try.ntmps104
  have HC := Lib.hid hC
  clear hC
  go_wp2_with (go_at_call 105; refine (below_n c n hn hn2 _ HC.out).mono ?_; rintro e w1 ⟨x, x1, x2, rfl, hC1, hT1⟩)
  go_ret
  exact ⟨_, rfl, hC1, hT1⟩

theorem below_k (c : Nat) (n : Nat) (hn : 0 < n) (hn2 : n ≤ 9223372036854775807) (w : World) (hC : Cur w c) :
    Calls Try.prog 105 #[.pointer (some ⟨c, 0, none⟩), .int .i64 (n : Int)] w fun e w' => ∃ k : Nat, k < n ∧ e = .returned (.int .i64 (k : Int)) ∧ Cur w' c ∧ Touched c w w' :=
  (below_n c n (by omega) (by omega) w hC).mono fun e w' ⟨x, x1, x2, e1, hC1, hT1⟩ => ⟨x.toNat, by omega, by rw [e1]; exact ret1I (by omega), hC1, hT1⟩
theorem pick_cell {c b n k : Nat} {xs : List Int} {w w1 : World} (hn : xs.length = n) (hc : ∀ i (h : i < xs.length), w.cell? ⟨b, i, none⟩ = some (.int .i64 xs[i])) (hb : b < w.heap.size) (hbc : b ≠ c) (hk : k < n) (hT : Touched c w w1) :
    w1.cell? ⟨b, k, none⟩ = some (.int .i64 (xs.getD k 0)) := by
  rw [World.cell?_of_block (w := w) (hT.block b hb hbc), hc k (by omega)]
  have hk' : k < xs.length := by omega
  simp [hk']
/-- A pick out of a list that lies elsewhere than the cursor. -/
theorem pick_int (c : Nat) (xs : List Int) (n : Nat) (hn : xs.length = n) (b cap : Nat) (w : World) (hC : Cur w c) (hb : b < w.heap.size) (hbc : b ≠ c) (hx : 0 < n) (hx2 : n ≤ 1000) (lo hi : Int) (hlh : ∀ x ∈ xs, lo ≤ x ∧ x ≤ hi)
    (hc : ∀ i (h : i < xs.length), w.cell? ⟨b, i, none⟩ = some (.int .i64 xs[i])) :
    Calls Try.prog 106 #[.pointer (some ⟨c, 0, none⟩), .slice (some ⟨b, 0, none⟩) n cap] w (Num c w lo hi) := by
  have HC := Lib.hid hC
  have Hc := Lib.hid hc
  have HL := Lib.hid hlh
  have HN := Lib.hid hn
  clear hC hc hlh hn
  go_enter Try.func106, Try.ntmps106
  go_wp2_with (go_at_call 105; refine (below_k c n hx (by omega) _ HC.out).mono ?_; rintro e w1 ⟨k, hk, rfl, hC1, hT1⟩; have hcell := pick_cell HN.out Hc.out hb hbc hk hT1)
  go_ret
  have hkl : k < xs.length := by have := HN.out; omega
  have hm : xs.getD k 0 ∈ xs := by rw [List.getD_eq_getElem?_getD, List.getElem?_eq_getElem hkl]; exact List.getElem_mem hkl
  exact ⟨_, (HL.out _ hm).1, (HL.out _ hm).2, rfl, hC1, hT1⟩

theorem alloc_ints (w : World) (xs : List Int) (t : TypeId) (i : Nat) (h : i < xs.length) : (w.alloc (.cells (xs.map (Value.int .i64)).toArray t)).cell? ⟨w.heap.size, i, none⟩ = some (.int .i64 xs[i]) := by
  have hg : (w.alloc (.cells (xs.map (Value.int .i64)).toArray t)).heap[w.heap.size]? = some (.cells (xs.map (Value.int .i64)).toArray t (0, 0)) := by
    show (w.heap.push _)[w.heap.size]? = _
    rw [Array.getElem?_push_size]
  rw [cell_of_row _ _ i _ _ _ hg]
  simp [h]
theorem alloc_size (w : World) (o : Obj) : w.heap.size < (w.alloc o).heap.size := by
  show w.heap.size < (w.heap.push o).size
  simp
theorem Cur.alloc {w : World} {c : Nat} (h : Cur w c) (o : Obj) : Cur (w.alloc o) c := h.kept ((Below.refl _ _).alloc (Nat.le_refl _) _)
theorem Touched.alloc {c : Nat} {a w : World} (h : Touched c a w) (o : Obj) : Touched c a (w.alloc o) := h.trans (Touched.of_below ((Below.refl _ _).alloc (Nat.le_refl _) _))

set_option maxRecDepth 100000 in
theorem new_cur (a : Option Addr) (n cap : Nat) (w : World) (hb : BytesAt w a n) (hn : n ≤ 2097152) :
    Calls Try.prog 42 #[.slice a n cap] w fun e w' => ∃ c, e = .returned (.pointer (some ⟨c, 0, none⟩)) ∧ w.heap.size ≤ c ∧ Cur w' c ∧ Below w.heap.size w w' := by
  have m30 := and30
  have hc : ∃ b off, (0 < n → a = some ⟨b, off, none⟩ ∧ b < w.heap.size) ∧ ∀ i, i < n → ∃ v : Int, 0 ≤ v ∧ v ≤ 255 ∧ w.cell? ⟨b, off + i, none⟩ = some (.int .u8 v) := by
    rcases hb with rfl | ⟨b, off, h1, h2, h3⟩
    · exact ⟨0, 0, by omega, by omega⟩
    · exact ⟨b, off, fun _ => ⟨h1, h2⟩, h3⟩
  obtain ⟨b, off, ha, hcell⟩ := hc
  have Ha := Lib.hid ha
  have Hc := Lib.hid hcell
  clear ha hcell hb
  go_enter Try.func42, Try.ntmps42
  go_wp2
  go_loop [3, 4] (fun h i => ∃ (k : Nat) (H : Int), k ≤ n ∧ i = .int .i64 k ∧ h = .int .i64 H ∧ 0 ≤ H ∧ H ≤ 2000000000) (fun _ i => n - (intOf i).toNat)
  case atStart => exact ⟨0, _, Nat.zero_le _, rfl, rfl, by omega, by omega⟩
  case round =>
    obtain ⟨k, H, hk, rfl, rfl, hH1, hH2⟩ := hrel
    by_cases hlt : k < n ∧ k < 4000
    · obtain ⟨hlt, hlt2⟩ := hlt
      obtain ⟨rfl, hbs⟩ := Ha.out (by omega)
      obtain ⟨v, v1, v2, v3⟩ := Hc.out k hlt
      go_wp2
      go_round
      case rel => exact ⟨k + 1, _, by omega, by go_num, rfl, (mod_bd _ 1073741824 (by omega)).1, by have := (mod_bd (H * 149 + v + 11) 1073741824 (by omega)).2; omega⟩
      case measure => simp [intOf]; omega
    · have hbytes : n = 0 ∨ ∃ b' off', a = some ⟨b', off', none⟩ ∧ b' < w.heap.size ∧ ∀ j, j < n → ∃ v : Int, 0 ≤ v ∧ v ≤ 255 ∧ w.cell? ⟨b', off' + j, none⟩ = some (.int .u8 v) := by
        by_cases h0 : 0 < n
        · exact .inr ⟨b, off, (Ha.out h0).1, (Ha.out h0).2, Hc.out⟩
        · exact .inl (by omega)
      have HB := Lib.hid hbytes
      clear hbytes
      have done : ∀ w', w' = w.alloc (.cells #[.slice a n cap, .int .i64 0, .int .i64 H] 148) → Hid (Cur w' w.heap.size) := by
        rintro w' rfl
        refine ⟨a, n, cap, 0, H, ?_, by omega, by unfold maxLen; omega, by omega, by omega, ?_⟩
        · show (w.heap.push _)[w.heap.size]? = _
          rw [Array.getElem?_push_size]
          rfl
        · rcases HB.out with h0 | ⟨b', off', g1, g2, g3⟩
          · exact .inl h0
          · refine .inr ⟨b', off', g1, Nat.lt_trans g2 (alloc_size _ _), by omega, fun j hj => ?_⟩
            obtain ⟨v, q1, q2, q3⟩ := g3 j hj
            exact ⟨v, q1, q2, by rw [((Below.refl w.heap.size w).alloc (Nat.le_refl _) _).cell (p := ⟨b', off' + j, none⟩) g2]; exact q3⟩
      have HD := Lib.hid done
      clear done
      by_cases hlt1 : k < n
      · have hlt2 : ¬ k < 4000 := fun h => hlt ⟨hlt1, h⟩
        clear hlt
        go_wp2
        go_ret
        exact ⟨w.heap.size, rfl, Nat.le_refl _, (HD.out _ rfl).out, (Below.refl _ _).alloc (Nat.le_refl _) _⟩
      · clear hlt
        go_wp2
        go_ret
        exact ⟨w.heap.size, rfl, Nat.le_refl _, (HD.out _ rfl).out, (Below.refl _ _).alloc (Nat.le_refl _) _⟩

theorem info5 : (Try.prog.info? 5).map (fun i => (i.zero, i.size, i.bytes)) = some (some (.int .u8 0), 1, 1) := by kernel_rfl

/-- A row of the call's own whose cells are bytes. -/
def OwnBytes (w : World) (B : Nat) (v : Value) (n : Nat) : Prop := ∃ ys : List Int, ys.length = n ∧ (∀ y ∈ ys, 0 ≤ y ∧ y ≤ 255) ∧ w.ownsRow B 5 1 v n (ys.map (Value.int .u8))
theorem OwnBytes.first {w : World} (y : Int) (h0 : 0 ≤ y) (h1 : y ≤ 255) : OwnBytes (w.alloc (.cells #[.int .u8 y] 5)) w.heap.size (.slice (some ⟨w.heap.size, 0, none⟩) 1 1) 1 := by
  refine ⟨[y], rfl, by simp; omega, ?_⟩
  exact World.ownsRow_lit (e := 5) (size := 1) (base := w.heap.size) w #[.int .u8 y] 1 (Nat.le_refl _) (by unfold maxLen; omega) rfl
theorem OwnBytes.bytesAt {w : World} {B n : Nat} {v : Value} (h : OwnBytes w B v n) : ∃ a cap, v = .slice a n cap ∧ BytesAt w a n := by
  obtain ⟨ys, h1, h2, h3⟩ := h
  by_cases hn : n = 0
  · subst hn
    rcases h3.2 with ⟨hv, _⟩ | ⟨g, cap, cur, hv, _⟩
    · exact ⟨none, 0, hv, .inl rfl⟩
    · exact ⟨_, cap, hv, .inl rfl⟩
  · rcases h3.2 with ⟨hv, h0⟩ | ⟨g, cap, cur, hv, hg, hc, hq⟩
    · omega
    · refine ⟨some ⟨g, 0, none⟩, cap, hv, .inr ⟨g, 0, rfl, ?_, fun i hi => ?_⟩⟩
      · rcases Nat.lt_or_ge g w.heap.size with h' | h'
        · exact h'
        · rw [Array.getElem?_eq_none h'] at hc; cases hc
      · rw [hv] at h3
        have := h3.cellAt (0 + i) (by omega)
        have hi' : i < ys.length := by omega
        refine ⟨ys[i], (h2 _ (List.getElem_mem hi')).1, (h2 _ (List.getElem_mem hi')).2, ?_⟩
        rw [this]
        simp [hi']
theorem OwnBytes.snoc {w : World} {B n : Nat} {v : Value} {ys : List Int} {y : Int} (h1 : ys.length = n) (h2 : ∀ y ∈ ys, 0 ≤ y ∧ y ≤ 255) (hy0 : 0 ≤ y) (hy1 : y ≤ 255)
    (h3 : w.ownsRow B 5 1 v (n + 1) (ys.map (Value.int .u8) ++ [.int .u8 y])) : OwnBytes w B v (n + 1) := by
  refine ⟨ys ++ [y], by simp [h1], ?_, by rw [List.map_append]; exact h3⟩
  intro z hz
  rw [List.mem_append] at hz
  rcases hz with hz | hz
  · exact h2 z hz
  · rw [List.mem_singleton.1 hz]; exact ⟨hy0, hy1⟩

theorem big_no (a : Option Addr) (n cap : Nat) (w : World) (hn : n ≤ 1048576) :
    Calls Try.prog 8 #[.slice a n cap] w fun e w' => e = .returned (.bool false) ∧ w = w' := by
  go_enter Try.func8, Try.ntmps8
  go_wp2
  go_ret
  exact ⟨ret1B (by simp; omega), rfl⟩
end Go.Proofs.Ytcjjdnfikccnmaa.Draw
