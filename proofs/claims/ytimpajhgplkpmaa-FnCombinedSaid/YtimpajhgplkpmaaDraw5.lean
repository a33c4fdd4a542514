/- The draws of chapter 5. -/
import Derived.Test.YtimpajhgplkpmaaDraw
import Derived.Test.YtimpajhgplkpmaaRf
namespace Go.Proofs.Ytimpajhgplkpmaa.Draw5
open Go.RowKit Go.Deep
open Go.Proofs.Ytimpajhgplkpmaa.C1 Go.Proofs.Ytimpajhgplkpmaa.Ints Go.Proofs.Ytimpajhgplkpmaa.Draw
open Go.Proofs.Ytimpajhgplkpmaa.Mem (CellsW)
open Go.Proofs.Ytimpajhgplkpmaa.Gl
open Go.Proofs.Ytimpajhgplkpmaa.C2 (box_below)
open Go.Proofs.Ytimpajhgplkpmaa.Bd (cells_new cells3 cells4)
set_option linter.unusedVariables false

theorem Cur.setNew {w : World} {c g : Nat} (h : Cur w c) (hg : c < g) (j : Nat) (u : Value) : Cur (w.setCell ⟨g, j, none⟩ u) c := by
  obtain ⟨a, n, cap, i, hh, h1, h2, h3, h4, h5, h6⟩ := h
  refine ⟨a, n, cap, i, hh, by rw [Below.heap_setCell _ _ _ _ (by show c ≠ g; omega)]; exact h1, h2, h3, h4, h5, ?_⟩
  rcases h6 with h6 | ⟨b, off, g1, g2, g3, g4⟩
  · exact .inl h6
  · refine .inr ⟨b, off, g1, by simpa [World.setCell] using g2, g3, fun k hk => ?_⟩
    obtain ⟨v, v1, v2, v3⟩ := g4 k hk
    exact ⟨v, v1, v2, by rw [World.cell?_setCell_other (h := show (⟨g, j, none⟩ : Addr) ≠ ⟨b, off + k, none⟩ by intro hh; cases hh; omega)]; exact v3⟩
theorem Touched.setNew {c : Nat} {a w : World} (h : Touched c a w) {g : Nat} (hg : a.heap.size ≤ g) (j : Nat) (u : Value) : Touched c a (w.setCell ⟨g, j, none⟩ u) :=
  ⟨h.os, h.tape, h.output, by simpa [World.setCell] using h.size, fun k hk hc => (Below.heap_setCell _ _ _ _ (by show k ≠ g; omega)).trans (h.block k hk hc)⟩
theorem CellsW.touch {w w' : World} {g c : Nat} {vs : List Value} (h : CellsW w g vs) (hT : Touched c w w') (hne : g ≠ c) : CellsW w' g vs := by
  have hb := hT.block g h.1 hne
  refine ⟨Nat.lt_of_lt_of_le h.1 hT.size, fun j hj => ⟨(World.cell?_of_block (w := w) hb).trans (h.2 j hj).1, ?_⟩⟩
  have hf := (h.2 j hj).2
  simp only [World.frozen?, hb] at hf ⊢
  exact hf
/-- A pick out of a row that was just made. -/
theorem pick_new (c : Nat) (xs : List Int) (n : Nat) (hn : xs.length = n) (b : Nat) (W : World) (hC : Cur W c) (hb : b = W.heap.size) (hx : 0 < n) (hx2 : n ≤ 1000) (lo hi : Int) (hlh : ∀ x ∈ xs, lo ≤ x ∧ x ≤ hi) :
    Calls Try.prog 50 #[.pointer (some ⟨c, 0, none⟩), .slice (some ⟨b, 0, none⟩) n n] (W.alloc (.cells (xs.map (Value.int .i64)).toArray 3)) (Num c W lo hi) := by
  subst hb
  have hlt := hC.lt
  refine (pick_int c xs n hn W.heap.size n _ (hC.alloc _) (alloc_size _ _) (by omega) hx hx2 lo hi hlh (fun i h => alloc_ints W _ 3 i h)).mono ?_
  rintro e w' ⟨x, x1, x2, rfl, hC', hT'⟩
  exact ⟨x, x1, x2, rfl, hC', ((Touched.refl c W).alloc _).trans hT'⟩
/-- What a draw of a text hands back. -/
def Txt (c : Nat) (w : World) (e : Ending) (w' : World) : Prop := ∃ s : ByteArray, s.size ≤ 12 ∧ e = .returned (.string s) ∧ Cur w' c ∧ Touched c w w'
theorem alloc_texts (w : World) (xs : List ByteArray) (t : TypeId) (i : Nat) (h : i < xs.length) : (w.alloc (.cells (xs.map Value.string).toArray t)).cell? ⟨w.heap.size, i, none⟩ = some (.string xs[i]) := by
  have hg : (w.alloc (.cells (xs.map Value.string).toArray t)).heap[w.heap.size]? = some (.cells (xs.map Value.string).toArray t (0, 0)) := by
    show (w.heap.push _)[w.heap.size]? = _
    rw [Array.getElem?_push_size]
  rw [cell_of_row _ _ i _ _ _ hg]
  simp [h]
theorem text_cell {c n k : Nat} {xs : List ByteArray} {W w1 : World} (t : TypeId) (hn : xs.length = n) (hbc : W.heap.size ≠ c) (hk : k < n) (hT : Touched c (W.alloc (.cells (xs.map Value.string).toArray t)) w1) :
    w1.cell? ⟨W.heap.size, k, none⟩ = some (.string (xs.getD k ⟨#[]⟩)) := by
  have hk' : k < xs.length := by omega
  rw [World.cell?_of_block (w := W.alloc (.cells (xs.map Value.string).toArray t)) (hT.block W.heap.size (alloc_size _ _) hbc), alloc_texts W xs t k hk']
  simp [hk']
theorem text_new (c : Nat) (xs : List ByteArray) (n : Nat) (hn : xs.length = n) (b : Nat) (W : World) (hC : Cur W c) (hb : b = W.heap.size) (hx : 0 < n) (hx2 : n ≤ 1000) (hs : ∀ x ∈ xs, x.size ≤ 12) :
    Calls Try.prog 92 #[.pointer (some ⟨c, 0, none⟩), .slice (some ⟨b, 0, none⟩) n n] (W.alloc (.cells (xs.map Value.string).toArray 9)) (Txt c W) := by
  subst hb
  have hlt := hC.lt
  have HC := Lib.hid (hC.alloc (.cells (xs.map Value.string).toArray 9))
  have HS := Lib.hid hs
  have HN := Lib.hid hn
  have hbc : W.heap.size ≠ c := by omega
  have HT0 := Lib.hid ((Touched.refl c W).alloc (.cells (xs.map Value.string).toArray 9))
  have HX : Hid (∀ (k : Nat) w1, k < n → Touched c (W.alloc (.cells (xs.map Value.string).toArray 9)) w1 → w1.cell? ⟨W.heap.size, k, none⟩ = some (.string (xs.getD k ⟨#[]⟩))) := fun k w1 hk hT => text_cell 9 hn hbc hk hT
  obtain ⟨W1, hW1⟩ : ∃ W1, W.alloc (.cells (xs.map Value.string).toArray 9) = W1 := ⟨_, rfl⟩
  obtain ⟨b, hb⟩ : ∃ b, W.heap.size = b := ⟨_, rfl⟩
  rw [hW1, hb] at HX
  rw [hW1] at HC HT0
  rw [hW1, hb]
  clear hC hs hn hlt hW1 hb
  go_enter Try.func92, Try.ntmps92
  go_wp2_with fail
  refine (below_k c n hx (by omega) _ HC.out).mono ?_
  rintro e w1 ⟨k, hk, rfl, hC1, hT1⟩
  have hcell := HX.out k w1 hk hT1
  have HC1 := Lib.hid hC1
  have HT1 := Lib.hid hT1
  clear hC1 hT1
  go_wp2
  go_ret
  have hkl : k < xs.length := by have := HN.out; omega
  have hm : xs.getD k ⟨#[]⟩ ∈ xs := by rw [List.getD_eq_getElem?_getD, List.getElem?_eq_getElem hkl]; exact List.getElem_mem hkl
  exact ⟨_, HS.out _ hm, rfl, HC1.out, HT0.out.trans HT1.out⟩
/-! ### Goals. -/
def GlD (c : Nat) (w : World) (e : Ending) (w' : World) : Prop := ∃ g : Gl, (g.met.size ≤ 12 ∧ (-1 ≤ g.tar ∧ g.tar ≤ 1000001) ∧ (-1 ≤ g.tol ∧ g.tol ≤ 1001)) ∧ e = .returned (glV g) ∧ Cur w' c ∧ Touched c w w'
theorem ret_gl {fn : Func} {k : Nat} (hr : fn.results = #[.cell k 27]) {W : World} {b : Nat} {g : Gl} {tmps : Array Value} (h : CellsW W b [.string g.met, .int .i64 g.tar, .int .i64 g.tol]) (h2 : tmps.getD k undef = .pointer (some ⟨b, 0, none⟩)) :
    (results fn tmps).run Try.prog W = .ok (glV g) W := by
  obtain ⟨c0, c1, c2⟩ := cells3 h
  have hp' : tmps[k]?.getD undef = .pointer (some ⟨b, 0, none⟩) := by simpa using h2
  simp [results, hr, hp', asAddr, go_sem, c0, c1, c2, glV]
theorem gl_set {w : World} {b : Nat} {u0 u1 u2 : Value} (h : CellsW w b [u0, u1, u2]) (g : Gl) {c : Nat} {a : World} (hb : a.heap.size ≤ b) (hcb : c < b) (hC : Cur w c) (hT : Touched c a w) :
    CellsW (((w.setCell ⟨b, 0, none⟩ (.string g.met)).setCell ⟨b, 1, none⟩ (.int .i64 g.tar)).setCell ⟨b, 2, none⟩ (.int .i64 g.tol)) b [.string g.met, .int .i64 g.tar, .int .i64 g.tol] ∧ Cur (((w.setCell ⟨b, 0, none⟩ (.string g.met)).setCell ⟨b, 1, none⟩ (.int .i64 g.tar)).setCell ⟨b, 2, none⟩ (.int .i64 g.tol)) c ∧ Touched c a (((w.setCell ⟨b, 0, none⟩ (.string g.met)).setCell ⟨b, 1, none⟩ (.int .i64 g.tar)).setCell ⟨b, 2, none⟩ (.int .i64 g.tol)) :=
  ⟨((h.set 0 (.string g.met) (by simp)).set 1 (.int .i64 g.tar) (by simp)).set 2 (.int .i64 g.tol) (by simp), Cur.setNew (Cur.setNew (Cur.setNew hC hcb 0 _) hcb 1 _) hcb 2 _, Touched.setNew (Touched.setNew (Touched.setNew hT hb 0 _) hb 1 _) hb 2 _⟩
set_option maxRecDepth 100000 in
set_option maxHeartbeats 1000000 in
theorem draw_goal (c : Nat) (w : World) (hC : Cur w c) :
    Calls Try.prog 91 #[.pointer (some ⟨c, 0, none⟩)] w (GlD c w) := by
  have hcl := hC.lt
  have HR := Lib.hid (cells_new w #[.string ⟨#[]⟩, .int .i64 0, .int .i64 0] 27)
  have HC0 := Lib.hid (hC.alloc (.cells #[.string ⟨#[]⟩, .int .i64 0, .int .i64 0] 27))
  have HT0 := Lib.hid ((Touched.refl c w).alloc (.cells #[.string ⟨#[]⟩, .int .i64 0, .int .i64 0] 27))
  have HS0 : Hid ((w.alloc (.cells #[.string ⟨#[]⟩, .int .i64 0, .int .i64 0] 27)).heap.size = w.heap.size + 1) := by show _ = _; simp
  obtain ⟨W0, hW0⟩ : ∃ W0, w.alloc (.cells #[.string ⟨#[]⟩, .int .i64 0, .int .i64 0] 27) = W0 := ⟨_, rfl⟩
  rw [hW0] at HR HC0 HT0 HS0
  have HW0 := Lib.hid hW0
  clear hC hW0
  go_enter Try.func91, Try.ntmps91
  go_wp2_with fail
  rw [HW0.out]
  refine (text_new c [⟨#[99, 112, 117]⟩, ⟨#[99, 112, 117]⟩, ⟨#[114, 112, 115]⟩] 3 rfl _ W0 HC0.out HS0.out.symm (by omega) (by omega) (by decide)).mono ?_
  rintro e w1 ⟨s, s1, rfl, hC1, hT1⟩
  have HC1 := Lib.hid hC1
  have HT1 := Lib.hid (HT0.out.trans hT1)
  have HR1 := Lib.hid (CellsW.touch HR.out hT1 (by omega))
  clear hC1 hT1
  go_wp2_with fail
  refine (below_n c _ (by omega) (by omega) _ HC1.out).mono ?_
  rintro e w2 ⟨x, x1, x2, rfl, hC2, hT2⟩
  have HC2 := Lib.hid hC2
  have HT2 := Lib.hid (HT1.out.trans hT2)
  have HR2 := Lib.hid (CellsW.touch HR1.out hT2 (by omega))
  clear hC2 hT2
  go_wp2_with fail
  refine (pick_new c [500, 1000, 1000, 100 + x] 4 rfl _ w2 HC2.out rfl (by omega) (by omega) 0 1000000 (by intro v hv; simp at hv; omega)).mono ?_
  rintro e w3 ⟨y, y1, y2, rfl, hC3, hT3⟩
  have HC3 := Lib.hid hC3
  have HT3 := Lib.hid (HT2.out.trans hT3)
  have HR3 := Lib.hid (CellsW.touch HR2.out hT3 (by omega))
  clear hC3 hT3
  go_wp2_with fail
  refine (pick_new c [0, 100, 100, 50] 4 rfl _ w3 HC3.out rfl (by omega) (by omega) 0 1000 (by intro v hv; simp at hv; omega)).mono ?_
  rintro e w4 ⟨z, z1, z2, rfl, hC4, hT4⟩
  have HC4 := Lib.hid hC4
  have HT4 := Lib.hid (HT3.out.trans hT4)
  have HR4 := Lib.hid (CellsW.touch HR3.out hT4 (by omega))
  clear hC4 hT4
  obtain ⟨r0, r1, r2⟩ := cells3 HR4.out
  have f0 := (HR4.out.2 0 (by simp)).2
  have f1 := (HR4.out.2 1 (by simp)).2
  have f2 := (HR4.out.2 2 (by simp)).2
  go_wp2
  obtain ⟨k1, k2, k3⟩ := gl_set HR4.out ⟨s, y, z⟩ (Nat.le_refl _) hcl HC4.out HT4.out
  exact bodyPost_ret (ret_gl rfl k1 rfl) rfl ⟨⟨s, y, z⟩, ⟨s1, ⟨by simp only; omega, by simp only; omega⟩, by simp only; omega, by simp only; omega⟩, rfl, k2, k3⟩
set_option maxRecDepth 100000 in
set_option maxHeartbeats 8000000 in
theorem loose_goal (c : Nat) (w : World) (hC : Cur w c) :
    Calls Try.prog 52 #[.pointer (some ⟨c, 0, none⟩)] w (GlD c w) := by
  have hcl := hC.lt
  have HR := Lib.hid (cells_new w #[.string ⟨#[]⟩, .int .i64 0, .int .i64 0] 27)
  have HC0 := Lib.hid (hC.alloc (.cells #[.string ⟨#[]⟩, .int .i64 0, .int .i64 0] 27))
  have HT0 := Lib.hid ((Touched.refl c w).alloc (.cells #[.string ⟨#[]⟩, .int .i64 0, .int .i64 0] 27))
  obtain ⟨W0, hW0⟩ : ∃ W0, w.alloc (.cells #[.string ⟨#[]⟩, .int .i64 0, .int .i64 0] 27) = W0 := ⟨_, rfl⟩
  rw [hW0] at HR HC0 HT0
  have HW0 := Lib.hid hW0
  clear hC hW0
  go_enter Try.func52, Try.ntmps52
  go_wp2_with fail
  rw [HW0.out]
  refine (draw_goal c _ HC0.out).mono ?_
  rintro e w1 ⟨g, hg, rfl, hC1, hT1⟩
  have HG := Lib.hid hg
  have HR1 := Lib.hid ((CellsW.touch HR.out hT1 (by omega)).kept (box_below w1 #[.string g.met, .int .i64 g.tar, .int .i64 g.tol] 27))
  have HC1 := Lib.hid (hC1.alloc (.cells #[.string g.met, .int .i64 g.tar, .int .i64 g.tol] 27))
  have HT1 := Lib.hid ((HT0.out.trans hT1).alloc (.cells #[.string g.met, .int .i64 g.tar, .int .i64 g.tol] 27))
  have HV1 := Lib.hid (cells_new w1 #[.string g.met, .int .i64 g.tar, .int .i64 g.tol] 27)
  have hlt1 := hC1.lt
  have hbw : w.heap.size < w1.heap.size := (CellsW.touch HR.out hT1 (by omega)).1
  obtain ⟨b, hb⟩ : ∃ b, w1.heap.size = b := ⟨_, rfl⟩
  obtain ⟨W1, hW1⟩ : ∃ W1, w1.alloc (.cells #[.string g.met, .int .i64 g.tar, .int .i64 g.tol] 27) = W1 := ⟨_, rfl⟩
  rw [hW1] at HR1 HC1 HT1 HV1
  rw [hb] at HV1 hlt1 hbw
  have HW1 := Lib.hid hW1
  have HB := Lib.hid hb
  unfold glV
  clear hC1 hT1 hg hb hW1 HC0 HT0 HR
  go_wp2_with fail
  rw [HW1.out]
  refine (once c _ (by omega) (by omega) _ HC1.out).mono ?_
  rintro e w2 ⟨o, rfl, hC2, hT2⟩
  have HC2 := Lib.hid hC2
  have HT2 := Lib.hid (HT1.out.trans hT2)
  have HR2 := Lib.hid (CellsW.touch HR1.out hT2 (by omega))
  have HV2 := Lib.hid (CellsW.touch HV1.out hT2 (by omega))
  rw [HB.out]
  clear hC2 hT2
  cases o
  · obtain ⟨v0, v1, v2⟩ := cells3 HV2.out
    obtain ⟨r0, r1, r2⟩ := cells3 HR2.out
    have f0 := (HR2.out.2 0 (by simp)).2
    have f1 := (HR2.out.2 1 (by simp)).2
    have f2 := (HR2.out.2 2 (by simp)).2
    go_wp2
    obtain ⟨k1, k2, k3⟩ := gl_set HR2.out g (Nat.le_refl _) hcl HC2.out HT2.out
    exact bodyPost_ret (ret_gl rfl k1 rfl) rfl ⟨g, HG.out, rfl, k2, k3⟩
  · go_wp2_with fail
    refine (below_n c _ (by omega) (by omega) _ HC2.out).mono ?_
    rintro e w3 ⟨x, x1, x2, rfl, hC3, hT3⟩
    have HC3 := Lib.hid hC3
    have HT3 := Lib.hid (HT2.out.trans hT3)
    have HR3 := Lib.hid (CellsW.touch HR2.out hT3 (by omega))
    have HV3 := Lib.hid (CellsW.touch HV2.out hT3 (by omega))
    clear hC3 hT3
    have hx : x = 0 ∨ x = 1 ∨ x = 2 := by omega
    rcases hx with rfl | rfl | rfl
    · go_wp2_with fail
      refine (text_new c [⟨#[]⟩, ⟨#[67]⟩] 2 rfl _ w3 HC3.out rfl (by omega) (by omega) (by decide)).mono ?_
      rintro e w4 ⟨s, s1, rfl, hC4, hT4⟩
      have HC4 := Lib.hid hC4
      have HT4 := Lib.hid (HT3.out.trans hT4)
      have HR4 := Lib.hid (CellsW.touch HR3.out hT4 (by omega))
      have HV4 := Lib.hid (CellsW.touch HV3.out hT4 (by omega))
      clear hC4 hT4
      obtain ⟨v0, v1, v2⟩ := cells3 HV4.out
      obtain ⟨r0, r1, r2⟩ := cells3 HR4.out
      have g0 := (HV4.out.2 0 (by simp)).2
      have f0 := (HR4.out.2 0 (by simp)).2
      have f1 := (HR4.out.2 1 (by simp)).2
      have f2 := (HR4.out.2 2 (by simp)).2
      go_wp2
      obtain ⟨k1, k2, k3⟩ := gl_set (Rf.CellsW.off (c := b) (j := 0) HR4.out (.string s) (by omega)) ⟨s, g.tar, g.tol⟩ (Nat.le_refl _) hcl (Cur.setNew (g := b) HC4.out (by omega) 0 _) (Touched.setNew (g := b) HT4.out (by omega) 0 _)
      exact bodyPost_ret (ret_gl rfl k1 rfl) rfl ⟨⟨s, g.tar, g.tol⟩, by have := HG.out; simp only; omega, rfl, k2, k3⟩
    · go_wp2_with fail
      refine (pick_new c [0, 1, 1000000, 1000001] 4 rfl _ w3 HC3.out rfl (by omega) (by omega) 0 1000001 (by intro v hv; simp at hv; omega)).mono ?_
      rintro e w4 ⟨y, y1, y2, rfl, hC4, hT4⟩
      have HC4 := Lib.hid hC4
      have HT4 := Lib.hid (HT3.out.trans hT4)
      have HR4 := Lib.hid (CellsW.touch HR3.out hT4 (by omega))
      have HV4 := Lib.hid (CellsW.touch HV3.out hT4 (by omega))
      clear hC4 hT4
      obtain ⟨v0, v1, v2⟩ := cells3 HV4.out
      obtain ⟨r0, r1, r2⟩ := cells3 HR4.out
      have g0 := (HV4.out.2 1 (by simp)).2
      have f0 := (HR4.out.2 0 (by simp)).2
      have f1 := (HR4.out.2 1 (by simp)).2
      have f2 := (HR4.out.2 2 (by simp)).2
      go_wp2
      obtain ⟨k1, k2, k3⟩ := gl_set (Rf.CellsW.off (c := b) (j := 1) HR4.out (.int .i64 y) (by omega)) ⟨g.met, y, g.tol⟩ (Nat.le_refl _) hcl (Cur.setNew (g := b) HC4.out (by omega) 1 _) (Touched.setNew (g := b) HT4.out (by omega) 1 _)
      exact bodyPost_ret (ret_gl rfl k1 rfl) rfl ⟨⟨g.met, y, g.tol⟩, by have := HG.out; simp only; omega, rfl, k2, k3⟩
    · go_wp2_with fail
      refine (pick_new c [-1, 1000, 1001] 3 rfl _ w3 HC3.out rfl (by omega) (by omega) (-1) 1001 (by intro v hv; simp at hv; omega)).mono ?_
      rintro e w4 ⟨y, y1, y2, rfl, hC4, hT4⟩
      have HC4 := Lib.hid hC4
      have HT4 := Lib.hid (HT3.out.trans hT4)
      have HR4 := Lib.hid (CellsW.touch HR3.out hT4 (by omega))
      have HV4 := Lib.hid (CellsW.touch HV3.out hT4 (by omega))
      clear hC4 hT4
      obtain ⟨v0, v1, v2⟩ := cells3 HV4.out
      obtain ⟨r0, r1, r2⟩ := cells3 HR4.out
      have g0 := (HV4.out.2 2 (by simp)).2
      have f0 := (HR4.out.2 0 (by simp)).2
      have f1 := (HR4.out.2 1 (by simp)).2
      have f2 := (HR4.out.2 2 (by simp)).2
      go_wp2
      obtain ⟨k1, k2, k3⟩ := gl_set (Rf.CellsW.off (c := b) (j := 2) HR4.out (.int .i64 y) (by omega)) ⟨g.met, g.tar, y⟩ (Nat.le_refl _) hcl (Cur.setNew (g := b) HC4.out (by omega) 2 _) (Touched.setNew (g := b) HT4.out (by omega) 2 _)
      exact bodyPost_ret (ret_gl rfl k1 rfl) rfl ⟨⟨g.met, g.tar, y⟩, by have := HG.out; simp only; omega, rfl, k2, k3⟩
/-! ### Tallies. -/
def TyD (c : Nat) (w : World) (e : Ending) (w' : World) : Prop := ∃ t : Ty, ((-1 ≤ t.rdy ∧ t.rdy ≤ 13) ∧ (0 ≤ t.unr ∧ t.unr ≤ 2) ∧ (-1 ≤ t.mis ∧ t.mis ≤ 13) ∧ (-1 ≤ t.sum ∧ t.sum ≤ 1000000001)) ∧ e = .returned (tyV t) ∧ Cur w' c ∧ Touched c w w'
theorem ret_ty {fn : Func} {k : Nat} (hr : fn.results = #[.cell k 25]) {W : World} {b : Nat} {t : Ty} {tmps : Array Value} (h : CellsW W b [.int .i64 t.rdy, .int .i64 t.unr, .int .i64 t.mis, .int .i64 t.sum]) (h2 : tmps.getD k undef = .pointer (some ⟨b, 0, none⟩)) :
    (results fn tmps).run Try.prog W = .ok (tyV t) W := by
  obtain ⟨c0, c1, c2, c3⟩ := cells4 h
  have hp' : tmps[k]?.getD undef = .pointer (some ⟨b, 0, none⟩) := by simpa using h2
  simp [results, hr, hp', asAddr, go_sem, c0, c1, c2, c3, tyV]
theorem ty_set {w : World} {b : Nat} {u0 u1 u2 u3 : Value} (h : CellsW w b [u0, u1, u2, u3]) (t : Ty) {c : Nat} {a : World} (hb : a.heap.size ≤ b) (hcb : c < b) (hC : Cur w c) (hT : Touched c a w) :
    CellsW ((((w.setCell ⟨b, 0, none⟩ (.int .i64 t.rdy)).setCell ⟨b, 1, none⟩ (.int .i64 t.unr)).setCell ⟨b, 2, none⟩ (.int .i64 t.mis)).setCell ⟨b, 3, none⟩ (.int .i64 t.sum)) b [.int .i64 t.rdy, .int .i64 t.unr, .int .i64 t.mis, .int .i64 t.sum] ∧ Cur ((((w.setCell ⟨b, 0, none⟩ (.int .i64 t.rdy)).setCell ⟨b, 1, none⟩ (.int .i64 t.unr)).setCell ⟨b, 2, none⟩ (.int .i64 t.mis)).setCell ⟨b, 3, none⟩ (.int .i64 t.sum)) c ∧ Touched c a ((((w.setCell ⟨b, 0, none⟩ (.int .i64 t.rdy)).setCell ⟨b, 1, none⟩ (.int .i64 t.unr)).setCell ⟨b, 2, none⟩ (.int .i64 t.mis)).setCell ⟨b, 3, none⟩ (.int .i64 t.sum)) :=
  ⟨(((h.set 0 (.int .i64 t.rdy) (by simp)).set 1 (.int .i64 t.unr) (by simp)).set 2 (.int .i64 t.mis) (by simp)).set 3 (.int .i64 t.sum) (by simp), Cur.setNew (Cur.setNew (Cur.setNew (Cur.setNew hC hcb 0 _) hcb 1 _) hcb 2 _) hcb 3 _, Touched.setNew (Touched.setNew (Touched.setNew (Touched.setNew hT hb 0 _) hb 1 _) hb 2 _) hb 3 _⟩
set_option maxRecDepth 100000 in
set_option maxHeartbeats 8000000 in
theorem draw_tally (c : Nat) (w : World) (hC : Cur w c) :
    Calls Try.prog 49 #[.pointer (some ⟨c, 0, none⟩)] w (TyD c w) := by
  have hcl := hC.lt
  have HR := Lib.hid (cells_new w #[.int .i64 0, .int .i64 0, .int .i64 0, .int .i64 0] 25)
  have HC0 := Lib.hid (hC.alloc (.cells #[.int .i64 0, .int .i64 0, .int .i64 0, .int .i64 0] 25))
  have HT0 := Lib.hid ((Touched.refl c w).alloc (.cells #[.int .i64 0, .int .i64 0, .int .i64 0, .int .i64 0] 25))
  obtain ⟨W0, hW0⟩ : ∃ W0, w.alloc (.cells #[.int .i64 0, .int .i64 0, .int .i64 0, .int .i64 0] 25) = W0 := ⟨_, rfl⟩
  rw [hW0] at HR HC0 HT0
  have HW0 := Lib.hid hW0
  clear hC hW0
  go_enter Try.func49, Try.ntmps49
  go_wp2_with fail
  rw [HW0.out]
  refine (below_n c _ (by omega) (by omega) _ HC0.out).mono ?_
  rintro e w1 ⟨x, x1, x2, rfl, hC1, hT1⟩
  have HC1 := Lib.hid hC1
  have HT1 := Lib.hid (HT0.out.trans hT1)
  have HR1 := Lib.hid (CellsW.touch HR.out hT1 (by omega))
  clear hC1 hT1
  go_wp2_with fail
  refine (pick_new c [0, 0, 1, 2] 4 rfl _ w1 HC1.out rfl (by omega) (by omega) 0 2 (by intro v hv; simp at hv; omega)).mono ?_
  rintro e w2 ⟨y, y1, y2, rfl, hC2, hT2⟩
  have HC2 := Lib.hid hC2
  have HT2 := Lib.hid (HT1.out.trans hT2)
  have HR2 := Lib.hid (CellsW.touch HR1.out hT2 (by omega))
  clear hC2 hT2
  go_wp2_with fail
  refine (pick_new c [0, 0, 1, 3] 4 rfl _ w2 HC2.out rfl (by omega) (by omega) 0 3 (by intro v hv; simp at hv; omega)).mono ?_
  rintro e w3 ⟨z, z1, z2, rfl, hC3, hT3⟩
  have HC3 := Lib.hid hC3
  have HT3 := Lib.hid (HT2.out.trans hT3)
  have HR3 := Lib.hid (CellsW.touch HR2.out hT3 (by omega))
  clear hC3 hT3
  go_wp2_with fail
  refine (below_n c _ (by omega) (by omega) _ HC3.out).mono ?_
  rintro e w5 ⟨s, s1, s2, rfl, hC5, hT5⟩
  have HR6 := Lib.hid ((CellsW.touch HR3.out hT5 (by omega)).kept (box_below w5 #[.int .i64 (1 + x), .int .i64 y, .int .i64 z, .int .i64 s] 25))
  have HC6 := Lib.hid (hC5.alloc (.cells #[.int .i64 (1 + x), .int .i64 y, .int .i64 z, .int .i64 s] 25))
  have HT6 := Lib.hid ((HT3.out.trans hT5).alloc (.cells #[.int .i64 (1 + x), .int .i64 y, .int .i64 z, .int .i64 s] 25))
  have HV6 := Lib.hid (cells_new w5 #[.int .i64 (1 + x), .int .i64 y, .int .i64 z, .int .i64 s] 25)
  have hlt1 := hC5.lt
  have hbw : w.heap.size < w5.heap.size := (CellsW.touch HR3.out hT5 (by omega)).1
  obtain ⟨b, hb⟩ : ∃ b, w5.heap.size = b := ⟨_, rfl⟩
  obtain ⟨W6, hW6⟩ : ∃ W6, w5.alloc (.cells #[.int .i64 (1 + x), .int .i64 y, .int .i64 z, .int .i64 s] 25) = W6 := ⟨_, rfl⟩
  rw [hW6] at HR6 HC6 HT6 HV6
  rw [hb] at HV6 hlt1 hbw
  have HW6 := Lib.hid hW6
  have HB := Lib.hid hb
  clear hC5 hT5 hb hW6 HC0 HT0 HR HC1 HT1 HR1 HC2 HT2 HR2 HC3 HT3 HR3
  go_wp2_with fail
  rw [HW6.out]
  refine (once c _ (by omega) (by omega) _ HC6.out).mono ?_
  rintro e w7 ⟨o, rfl, hC7, hT7⟩
  have HC7 := Lib.hid hC7
  have HT7 := Lib.hid (HT6.out.trans hT7)
  have HR7 := Lib.hid (CellsW.touch HR6.out hT7 (by omega))
  have HV7 := Lib.hid (CellsW.touch HV6.out hT7 (by omega))
  rw [HB.out]
  clear hC7 hT7
  cases o
  · obtain ⟨v0, v1, v2, v3⟩ := cells4 HV7.out
    obtain ⟨r0, r1, r2, r3⟩ := cells4 HR7.out
    have f0 := (HR7.out.2 0 (by simp)).2
    have f1 := (HR7.out.2 1 (by simp)).2
    have f2 := (HR7.out.2 2 (by simp)).2
    have f3 := (HR7.out.2 3 (by simp)).2
    go_wp2
    obtain ⟨k1, k2, k3⟩ := ty_set HR7.out ⟨1 + x, y, z, s⟩ (Nat.le_refl _) hcl HC7.out HT7.out
    exact bodyPost_ret (ret_ty rfl k1 rfl) rfl ⟨⟨1 + x, y, z, s⟩, by simp only; omega, rfl, k2, k3⟩
  · go_wp2_with fail
    refine (below_n c _ (by omega) (by omega) _ HC7.out).mono ?_
    rintro e w8 ⟨q, q1, q2, rfl, hC8, hT8⟩
    have HC8 := Lib.hid hC8
    have HT8 := Lib.hid (HT7.out.trans hT8)
    have HR8 := Lib.hid (CellsW.touch HR7.out hT8 (by omega))
    have HV8 := Lib.hid (CellsW.touch HV7.out hT8 (by omega))
    clear hC8 hT8
    have hq : q = 0 ∨ q = 1 ∨ q = 2 := by omega
    rcases hq with rfl | rfl | rfl
    · go_wp2_with fail
      refine (pick_new c [0, -1, 12, 13] 4 rfl _ w8 HC8.out rfl (by omega) (by omega) (-1) 13 (by intro v hv; simp at hv; omega)).mono ?_
      rintro e w9 ⟨u, u1, u2, rfl, hC4, hT4⟩
      have HC4 := Lib.hid hC4
      have HT4 := Lib.hid (HT8.out.trans hT4)
      have HR4 := Lib.hid (CellsW.touch HR8.out hT4 (by omega))
      have HV4 := Lib.hid (CellsW.touch HV8.out hT4 (by omega))
      clear hC4 hT4
      obtain ⟨v0, v1, v2, v3⟩ := cells4 HV4.out
      obtain ⟨r0, r1, r2, r3⟩ := cells4 HR4.out
      have g0 := (HV4.out.2 0 (by simp)).2
      have f0 := (HR4.out.2 0 (by simp)).2
      have f1 := (HR4.out.2 1 (by simp)).2
      have f2 := (HR4.out.2 2 (by simp)).2
      have f3 := (HR4.out.2 3 (by simp)).2
      go_wp2
      obtain ⟨k1, k2, k3⟩ := ty_set (Rf.CellsW.off (c := b) (j := 0) HR4.out (.int .i64 u) (by omega)) ⟨u, y, z, s⟩ (Nat.le_refl _) hcl (Cur.setNew (g := b) HC4.out (by omega) 0 _) (Touched.setNew (g := b) HT4.out (by omega) 0 _)
      exact bodyPost_ret (ret_ty rfl k1 rfl) rfl ⟨⟨u, y, z, s⟩, by simp only; omega, rfl, k2, k3⟩
    · go_wp2_with fail
      refine (pick_new c [-1, 12, 13] 3 rfl _ w8 HC8.out rfl (by omega) (by omega) (-1) 13 (by intro v hv; simp at hv; omega)).mono ?_
      rintro e w9 ⟨u, u1, u2, rfl, hC4, hT4⟩
      have HC4 := Lib.hid hC4
      have HT4 := Lib.hid (HT8.out.trans hT4)
      have HR4 := Lib.hid (CellsW.touch HR8.out hT4 (by omega))
      have HV4 := Lib.hid (CellsW.touch HV8.out hT4 (by omega))
      clear hC4 hT4
      obtain ⟨v0, v1, v2, v3⟩ := cells4 HV4.out
      obtain ⟨r0, r1, r2, r3⟩ := cells4 HR4.out
      have g0 := (HV4.out.2 2 (by simp)).2
      have f0 := (HR4.out.2 0 (by simp)).2
      have f1 := (HR4.out.2 1 (by simp)).2
      have f2 := (HR4.out.2 2 (by simp)).2
      have f3 := (HR4.out.2 3 (by simp)).2
      go_wp2
      obtain ⟨k1, k2, k3⟩ := ty_set (Rf.CellsW.off (c := b) (j := 2) HR4.out (.int .i64 u) (by omega)) ⟨1 + x, y, u, s⟩ (Nat.le_refl _) hcl (Cur.setNew (g := b) HC4.out (by omega) 2 _) (Touched.setNew (g := b) HT4.out (by omega) 2 _)
      exact bodyPost_ret (ret_ty rfl k1 rfl) rfl ⟨⟨1 + x, y, u, s⟩, by simp only; omega, rfl, k2, k3⟩
    · go_wp2_with fail
      refine (draw_size c _ HC8.out).mono ?_
      rintro e w9 ⟨u, u1, u2, rfl, hC4, hT4⟩
      have HC4 := Lib.hid hC4
      have HT4 := Lib.hid (HT8.out.trans hT4)
      have HR4 := Lib.hid (CellsW.touch HR8.out hT4 (by omega))
      have HV4 := Lib.hid (CellsW.touch HV8.out hT4 (by omega))
      clear hC4 hT4
      obtain ⟨v0, v1, v2, v3⟩ := cells4 HV4.out
      obtain ⟨r0, r1, r2, r3⟩ := cells4 HR4.out
      have g0 := (HV4.out.2 3 (by simp)).2
      have f0 := (HR4.out.2 0 (by simp)).2
      have f1 := (HR4.out.2 1 (by simp)).2
      have f2 := (HR4.out.2 2 (by simp)).2
      have f3 := (HR4.out.2 3 (by simp)).2
      go_wp2
      obtain ⟨k1, k2, k3⟩ := ty_set (Rf.CellsW.off (c := b) (j := 3) HR4.out (.int .i64 u) (by omega)) ⟨1 + x, y, z, u⟩ (Nat.le_refl _) hcl (Cur.setNew (g := b) HC4.out (by omega) 3 _) (Touched.setNew (g := b) HT4.out (by omega) 3 _)
      exact bodyPost_ret (ret_ty rfl k1 rfl) rfl ⟨⟨1 + x, y, z, u⟩, by simp only; omega, rfl, k2, k3⟩
end Go.Proofs.Ytimpajhgplkpmaa.Draw5
