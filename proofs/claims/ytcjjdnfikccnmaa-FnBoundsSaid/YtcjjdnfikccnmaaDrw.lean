/- What a draw keeps: the cursor, and all blocks but the cursor's (Dr); rows and boxes of the draw's own beside it. -/
import Derived.Test.YtcjjdnfikccnmaaDraw
import Derived.Test.YtcjjdnfikccnmaaNt
import Derived.Test.YtcjjdnfikccnmaaMv
import Derived.Test.YtcjjdnfikccnmaaPl
namespace Go.Proofs.Ytcjjdnfikccnmaa.Drw
open Go.RowKit Go.Deep
open Go.Proofs.Ytcjjdnfikccnmaa.C1 Go.Proofs.Ytcjjdnfikccnmaa.Ints Go.Proofs.Ytcjjdnfikccnmaa.Draw
open Go.Proofs.Ytcjjdnfikccnmaa.Mem (CellsW)
open Go.Proofs.Ytcjjdnfikccnmaa.Smps
open Go.Proofs.Ytcjjdnfikccnmaa.Ser (Pt ptV gf encP gf_append)
open Go.Proofs.Ytcjjdnfikccnmaa.Ser2 (encP_len zeroP cells_new)
open Go.Proofs.Ytcjjdnfikccnmaa.Pl
set_option linter.unusedVariables false

theorem Cur.setNew {w : World} {c g : Nat} (h : Cur w c) (hg : c < g) (j : Nat) (u : Value) : Cur (w.setCell ⟨g, j, none⟩ u) c := by
  obtain ⟨a, n, cap, i, hh, h1, h2, h3, h4, h5, h6⟩ := h
  refine ⟨a, n, cap, i, hh, by rw [Below.heap_setCell _ _ _ _ (by show c ≠ g; omega)]; exact h1, h2, h3, h4, h5, ?_⟩
  rcases h6 with h6 | ⟨b, off, g1, g2, g3, g4⟩
  · exact .inl h6
  · refine .inr ⟨b, off, g1, by simpa [World.setCell] using g2, g3, fun k hk => ?_⟩
    obtain ⟨v, v1, v2, v3⟩ := g4 k hk
    exact ⟨v, v1, v2, by rw [World.cell?_setCell_other (h := show (⟨g, j, none⟩ : Addr) ≠ ⟨b, off + k, none⟩ by intro hh; cases hh; omega)]; exact v3⟩
theorem Touched.setNew {c : Nat} {a w : World} (h : Touched c a w) {g : Nat} (hg : a.heap.size ≤ g) (j : Nat) (u : Value) : Touched c a (w.setCell ⟨g, j, none⟩ u) :=
  ⟨h.os, h.tape, h.output, by simpa [World.setCell] using h.size, fun k hk hc => (Below.heap_setCell _ _ _ _ (by show k ≠ g; omega)).trans (h.block k hk hc)⟩
theorem CellsW.touch {w w' : World} {g c : Nat} {vs : List Value} (h : CellsW w g vs) (hT : Touched c w w') (hne : g ≠ c) : CellsW w' g vs := by
  have hb := hT.block g h.1 hne
  refine ⟨Nat.lt_of_lt_of_le h.1 hT.size, fun j hj => ⟨(World.cell?_of_block (w := w) hb).trans (h.2 j hj).1, ?_⟩⟩
  have hf := (h.2 j hj).2
  simp only [World.frozen?, hb] at hf ⊢
  exact hf
theorem CellsW.off {w : World} {g c j : Nat} {vs : List Value} (h : CellsW w g vs) (u : Value) (hne : g ≠ c) : CellsW (w.setCell ⟨c, j, none⟩ u) g vs := by
  refine ⟨by simpa [World.setCell] using h.1, fun i hi => ⟨?_, by rw [World.frozen?_setCell]; exact (h.2 i hi).2⟩⟩
  rw [World.cell?_setCell_other (h := show (⟨c, j, none⟩ : Addr) ≠ ⟨g, i, none⟩ by intro hh; cases hh; exact hne rfl)]
  exact (h.2 i hi).1
theorem CellsW.al {w : World} {g : Nat} {vs : List Value} (h : CellsW w g vs) (o : Obj) : CellsW (w.alloc o) g vs := h.kept ((Below.refl _ _).alloc (Nat.le_refl _) _)
theorem CellsW.grown {w w' : World} {g : Nat} {vs : List Value} {row : Option Nat} (h : CellsW w g vs) (hg : w.grownBy w' row) (hr : some g ≠ row) : CellsW w' g vs := by
  have hb := hg.block g h.1 hr
  refine ⟨Nat.lt_of_lt_of_le h.1 hg.size, fun j hj => ⟨(World.cell?_of_block (w := w) hb).trans (h.2 j hj).1, ?_⟩⟩
  have hf := (h.2 j hj).2
  simp only [World.frozen?, hb] at hf ⊢
  exact hf
theorem pick_new (c : Nat) (xs : List Int) (n : Nat) (hn : xs.length = n) (b : Nat) (W : World) (hC : Cur W c) (hb : b = W.heap.size) (hx : 0 < n) (hx2 : n ≤ 1000) (lo hi : Int) (hlh : ∀ x ∈ xs, lo ≤ x ∧ x ≤ hi) :
    Calls Try.prog 106 #[.pointer (some ⟨c, 0, none⟩), .slice (some ⟨b, 0, none⟩) n n] (W.alloc (.cells (xs.map (Value.int .i64)).toArray 3)) (Num c W lo hi) := by
  subst hb
  have hlt := hC.lt
  refine (pick_int c xs n hn W.heap.size n _ (hC.alloc _) (alloc_size _ _) (by omega) hx hx2 lo hi hlh (fun i h => alloc_ints W _ 3 i h)).mono ?_
  rintro e w' ⟨x, x1, x2, rfl, hC', hT'⟩
  exact ⟨x, x1, x2, rfl, hC', ((Touched.refl c W).alloc _).trans hT'⟩

/-- The draw began in a, its cursor lies in block c; now the world is w. -/
structure Dr (c : Nat) (a w : World) : Prop where
  lt : c < a.heap.size
  cur : Cur w c
  tou : Touched c a w
theorem Dr.start {c : Nat} {w : World} (h : Cur w c) : Dr c w w := ⟨h.lt, h, Touched.refl c w⟩
theorem Dr.step {c : Nat} {a w w' : World} (h : Dr c a w) (hC : Cur w' c) (hT : Touched c w w') : Dr c a w' := ⟨h.lt, hC, h.tou.trans hT⟩
theorem Dr.trans {c : Nat} {a w w' : World} (h : Dr c a w) (k : Dr c w w') : Dr c a w' := ⟨h.lt, k.cur, h.tou.trans k.tou⟩
theorem Dr.alloc {c : Nat} {a w : World} (h : Dr c a w) (o : Obj) : Dr c a (w.alloc o) := ⟨h.lt, Cur.alloc h.cur o, Touched.alloc h.tou o⟩
theorem Dr.setNew {c : Nat} {a w : World} (h : Dr c a w) {g : Nat} (hg : a.heap.size ≤ g) (j : Nat) (u : Value) : Dr c a (w.setCell ⟨g, j, none⟩ u) := ⟨h.lt, Cur.setNew h.cur (by have := h.lt; omega) j u, Touched.setNew h.tou hg j u⟩
theorem Dr.grown {c : Nat} {a w w' : World} {row : Option Nat} (h : Dr c a w) (hg : w.grownBy w' row) (hr : ∀ k, row = some k → a.heap.size ≤ k) : Dr c a w' :=
  ⟨h.lt, Cur.grown h.cur hg (fun k hk => by have := hr k hk; have := h.lt; omega), Touched.grown h.tou hg hr⟩
theorem Dr.size {c : Nat} {a w : World} (h : Dr c a w) : a.heap.size ≤ w.heap.size := h.tou.size
theorem row_touch {B c e k n : Nat} {v : Value} {l : List Value} {w w' : World} (h : w.ownsRow B e k v n l) (hc : c < B) (hT : Touched c w w') : w'.ownsRow B e k v n l := by
  obtain ⟨h1, h2⟩ := h
  refine ⟨h1, ?_⟩
  rcases h2 with h2 | ⟨g, cap, cur, hv, hg, hh, r⟩
  · exact .inl h2
  · have hlt : g < w.heap.size := by
      rcases Nat.lt_or_ge g w.heap.size with q | q
      · exact q
      · rw [Array.getElem?_eq_none q] at hh; cases hh
    exact .inr ⟨g, cap, cur, hv, hg, by rw [hT.block g hlt (by omega)]; exact hh, r⟩
theorem row_set {B g j e k n : Nat} {v u : Value} {l : List Value} {w : World} (h : w.ownsRow B e k v n l) (hg : g < B) : (w.setCell ⟨g, j, none⟩ u).ownsRow B e k v n l := row_touch h hg ((Touched.refl g w).setCell j u)
theorem row_off {B g j e k n : Nat} {v u : Value} {l : List Value} {w : World} (h : w.ownsRow B e k v n l) (hne : ∀ g', Value.ownBlock v = some g' → g' ≠ g) : (w.setCell ⟨g, j, none⟩ u).ownsRow B e k v n l := by
  obtain ⟨h1, h2⟩ := h
  refine ⟨h1, ?_⟩
  rcases h2 with h2 | ⟨g', cap, cur, hv, hg, hh, r⟩
  · exact .inl h2
  · exact .inr ⟨g', cap, cur, hv, hg, by rw [Below.heap_setCell _ _ _ _ (hne g' (by rw [hv]; rfl))]; exact hh, r⟩
theorem row_grown {B e k n : Nat} {v : Value} {l : List Value} {w w' : World} {row : Option Nat} (h : w.ownsRow B e k v n l) (hg : w.grownBy w' row) (hr : ∀ g, Value.ownBlock v = some g → some g ≠ row) : w'.ownsRow B e k v n l := by
  obtain ⟨h1, h2⟩ := h
  refine ⟨h1, ?_⟩
  rcases h2 with h2 | ⟨g', cap, cur, hv, hg', hh, r⟩
  · exact .inl h2
  · have hlt : g' < w.heap.size := (Array.getElem?_eq_some_iff.1 hh).1
    exact .inr ⟨g', cap, cur, hv, hg', by rw [hg.block g' hlt (hr g' (by rw [hv]; rfl))]; exact hh, r⟩
theorem Dr.drew {c : Nat} {a w : World} (h : Dr c a w) : Dr c a w.drew := Dr.step h (h.cur.kept (Below.refl _ _).drew) (Touched.of_below (Below.refl _ _).drew)
theorem CellsW.dr {w : World} {g : Nat} {vs : List Value} (h : CellsW w g vs) : CellsW w.drew g vs := h.kept (Below.refl _ _).drew
theorem row_drew {B e k n : Nat} {v : Value} {l : List Value} {w : World} (h : w.ownsRow B e k v n l) : w.drew.ownsRow B e k v n l := h
theorem row_alloc {B e k n : Nat} {v : Value} {l : List Value} {w : World} (h : w.ownsRow B e k v n l) (o : Obj) : (w.alloc o).ownsRow B e k v n l := World.ownsRow.alloc h o
/-! ### Rows of policies, of notes, of moves. -/
theorem info_pl2 : ∃ i, Try.prog.info? 106 = some i ∧ i.zero = some (plV zeroL) ∧ i.size = 3 ∧ i.bytes = 24 := by
  obtain ⟨i, hi, hz⟩ := Option.map_eq_some_iff.1 info_pl
  simp only [Prod.mk.injEq] at hz
  exact ⟨i, hi, hz.1, hz.2.1, hz.2.2⟩
theorem info_nt2 : ∃ i, Try.prog.info? 93 = some i ∧ i.zero = some (ptV zeroP) ∧ i.size = 2 ∧ i.bytes = 16 := by
  obtain ⟨i, hi, hz⟩ := Option.map_eq_some_iff.1 Nt.info_pt
  simp only [Prod.mk.injEq] at hz
  exact ⟨i, hi, hz.1, hz.2.1, hz.2.2⟩
theorem info_mv2 : ∃ i, Try.prog.info? 157 = some i ∧ i.zero = some (ptV zeroP) ∧ i.size = 2 ∧ i.bytes = 16 := by
  obtain ⟨i, hi, hz⟩ := Option.map_eq_some_iff.1 Mv.info_pt
  simp only [Prod.mk.injEq] at hz
  exact ⟨i, hi, hz.1, hz.2.1, hz.2.2⟩
theorem pl_snoc {w : World} {B : Nat} {v : Value} {ps : List Pl} {p : Pl} (h : w.ownsRow B 106 3 v (ps.length + 1) (gf encL ps ++ [.int .i64 p.kd, .int .i64 p.va, .int .i64 p.pe])) : OwnL w B v (ps ++ [p]) := by
  unfold OwnL
  rw [List.length_append, gf_append]
  exact h
theorem nt_snoc {w : World} {B : Nat} {v : Value} {ps : List Pt} {p : Pt} (h : w.ownsRow B 93 2 v (ps.length + 1) (gf encP ps ++ [.int .i64 p.tick, .int .i64 p.val])) : Nt.OwnP w B v (ps ++ [p]) := by
  unfold Nt.OwnP
  rw [List.length_append, gf_append]
  exact h
theorem mv_snoc {w : World} {B : Nat} {v : Value} {ps : List Pt} {p : Pt} (h : w.ownsRow B 157 2 v (ps.length + 1) (gf encP ps ++ [.int .i64 p.tick, .int .i64 p.val])) : Mv.OwnP w B v (ps ++ [p]) := by
  unfold Mv.OwnP
  rw [List.length_append, gf_append]
  exact h
theorem pl_nil (w : World) (B : Nat) : OwnL w B (.slice none 0 0) [] := ⟨by simp [gf], .inl ⟨rfl, rfl⟩⟩
theorem nt_new (w : World) : Nt.OwnP (w.alloc (.cells #[] 93)) w.heap.size (.slice (some ⟨w.heap.size, 0, none⟩) 0 0) [] := World.ownsRow_lit (e := 93) (size := 2) (base := w.heap.size) w #[] 0 (Nat.le_refl _) (by unfold maxLen; omega) rfl
theorem mv_new (w : World) : Mv.OwnP (w.alloc (.cells #[] 157)) w.heap.size (.slice (some ⟨w.heap.size, 0, none⟩) 0 0) [] := World.ownsRow_lit (e := 157) (size := 2) (base := w.heap.size) w #[] 0 (Nat.le_refl _) (by unfold maxLen; omega) rfl
theorem pl_form {w : World} {B : Nat} {v : Value} {ps : List Pl} (h : OwnL w B v ps) : ∃ a cap, v = .slice a ps.length cap ∧ Pls w a ps := by
  have h' : w.ownsRow B 106 3 v ps.length (gf encL ps) := h
  rcases h'.2 with ⟨hv, h0⟩ | ⟨g, cap', cur, hv, _⟩
  · exact ⟨none, 0, by rw [hv, h0], .inl (List.length_eq_zero_iff.1 h0)⟩
  · subst hv
    exact ⟨_, _, rfl, OwnL.pts h⟩
theorem nt_form {w : World} {B : Nat} {v : Value} {ps : List Pt} (h : Nt.OwnP w B v ps) : ∃ a cap, v = .slice a ps.length cap ∧ Ser.Pts w a ps := by
  have h' : w.ownsRow B 93 2 v ps.length (gf encP ps) := h
  rcases h'.2 with ⟨hv, h0⟩ | ⟨g, cap', cur, hv, _⟩
  · exact ⟨none, 0, by rw [hv, h0], .inl (List.length_eq_zero_iff.1 h0)⟩
  · subst hv
    exact ⟨_, _, rfl, Nt.OwnP.pts h⟩
theorem mv_form {w : World} {B : Nat} {v : Value} {ps : List Pt} (h : Mv.OwnP w B v ps) : ∃ a cap, v = .slice a ps.length cap ∧ Ser.Pts w a ps := by
  have h' : w.ownsRow B 157 2 v ps.length (gf encP ps) := h
  rcases h'.2 with ⟨hv, h0⟩ | ⟨g, cap', cur, hv, _⟩
  · exact ⟨none, 0, by rw [hv, h0], .inl (List.length_eq_zero_iff.1 h0)⟩
  · subst hv
    exact ⟨_, _, rfl, Mv.OwnP.pts h⟩
theorem pl_one (p : Pl) : ∀ u ∈ [Value.int .i64 p.kd, .int .i64 p.va, .int .i64 p.pe], u.oneCell' = true := by
  intro u hu
  simp at hu
  rcases hu with rfl | rfl | rfl <;> rfl
theorem pt_one (p : Pt) : ∀ u ∈ [Value.int .i64 p.tick, .int .i64 p.val], u.oneCell' = true := by
  intro u hu
  simp at hu
  rcases hu with rfl | rfl <;> rfl
theorem pl_cells (w : World) (p : Pl) (t : TypeId) : ∀ (j : Nat) (u : Value), [Value.int .i64 p.kd, .int .i64 p.va, .int .i64 p.pe][j]? = some u → (w.alloc (.cells #[.int .i64 p.kd, .int .i64 p.va, .int .i64 p.pe] t)).cell? ((⟨w.heap.size, 0, none⟩ : Addr).add j) = some u := by
  intro j u hj
  match j, hj with
  | 0, hj => simp at hj; subst hj; simp [Addr.add]
  | 1, hj => simp at hj; subst hj; simp [Addr.add]
  | 2, hj => simp at hj; subst hj; simp [Addr.add]
theorem pt_cells (w : World) (p : Pt) (t : TypeId) : ∀ (j : Nat) (u : Value), [Value.int .i64 p.tick, .int .i64 p.val][j]? = some u → (w.alloc (.cells #[.int .i64 p.tick, .int .i64 p.val] t)).cell? ((⟨w.heap.size, 0, none⟩ : Addr).add j) = some u := by
  intro j u hj
  match j, hj with
  | 0, hj => simp at hj; subst hj; simp [Addr.add]
  | 1, hj => simp at hj; subst hj; simp [Addr.add]
theorem own_ne {w : World} {B G nl cv : Nat} {av x : Option Addr} {y z : Nat} {ps : List Pl} (h : OwnL w B (.slice av nl cv) ps) (hps : 0 < ps.length) (hc : w.cell? ⟨G, 0, none⟩ = some (.slice x y z)) : ∀ g, Value.ownBlock (.slice av nl cv) = some g → g ≠ G := by
  intro g hg e
  subst e
  have h' : w.ownsRow B 106 3 (.slice av nl cv) ps.length (gf encL ps) := h
  rcases h'.2 with ⟨hv, h0⟩ | ⟨g', cap, cur, hv, hg', hh, r⟩
  · omega
  · cases hv
    have e : g' = g := by simpa [Value.ownBlock] using hg
    subst e
    have := (OwnL.at3 h 0 hps).1
    simp at this
    rw [hc] at this
    cases this
end Go.Proofs.Ytcjjdnfikccnmaa.Drw
