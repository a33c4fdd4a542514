/- laws.toSide, eqSide, toBehave, eqBehave: copies, and comparisons of equals. -/
import Derived.Test.YtgmdfkmmbcpikaaGreatPl
namespace Go.Proofs.YtgmdfkmmbcpikaaGreat.SdT
open Go.RowKit
open Go.Proofs.YtgmdfkmmbcpikaaGreat.C1
open Go.Proofs.YtgmdfkmmbcpikaaGreat.C2
open Go.Proofs.YtgmdfkmmbcpikaaGreat.Smps
open Go.Proofs.YtgmdfkmmbcpikaaGreat.Mem
open Go.Proofs.YtgmdfkmmbcpikaaGreat.Ser2 (cells_new)
open Go.Proofs.YtgmdfkmmbcpikaaGreat.Pl
set_option linter.unusedVariables false

theorem cells_off {w : World} {g c j : Nat} {vs : List Value} (h : CellsW w g vs) (u : Value) (hne : g ≠ c) : CellsW (w.setCell ⟨c, j, none⟩ u) g vs := by
  refine ⟨by simpa [World.setCell] using h.1, fun i hi => ⟨?_, by rw [World.frozen?_setCell]; exact (h.2 i hi).2⟩⟩
  rw [World.cell?_setCell_other (h := show (⟨c, j, none⟩ : Addr) ≠ ⟨g, i, none⟩ by intro hh; cases hh; exact hne rfl)]
  exact (h.2 i hi).1
theorem pls_off {w : World} {c j : Nat} {a : Option Addr} {ps : List Pl} (h : Pls w a ps) (u : Value) (hne : ∀ b o s, a = some ⟨b, o, s⟩ → b ≠ c) : Pls (w.setCell ⟨c, j, none⟩ u) a ps := by
  rcases h with h | ⟨b, off, h1, h2, h3⟩
  · exact .inl h
  · have hb := hne _ _ _ h1
    have hc : ∀ k, (w.setCell ⟨c, j, none⟩ u).cell? ⟨b, k, none⟩ = w.cell? ⟨b, k, none⟩ := fun k => by rw [World.cell?_setCell_other (h := show (⟨c, j, none⟩ : Addr) ≠ ⟨b, k, none⟩ by intro hh; cases hh; exact hb rfl)]
    exact .inr ⟨b, off, h1, by simpa [World.setCell] using h2, fun i hi => ⟨by rw [hc]; exact (h3 i hi).1, by rw [hc]; exact (h3 i hi).2.1, by rw [hc]; exact (h3 i hi).2.2⟩⟩
theorem three_read {w w2 : World} {A1 A2 A3 : Array Value} {t1 t2 t3 : TypeId} (h : Below (((w.alloc (.cells A1 t1)).alloc (.cells A2 t2)).alloc (.cells A3 t3)).heap.size (((w.alloc (.cells A1 t1)).alloc (.cells A2 t2)).alloc (.cells A3 t3)) w2) :
    CellsW w2 w.heap.size A1.toList ∧ CellsW w2 (w.heap.size + 1) A2.toList ∧ CellsW w2 (w.heap.size + 2) A3.toList ∧ Below w.heap.size w w2 ∧ w.heap.size + 2 < w2.heap.size := by
  have b1 : Below w.heap.size w (w.alloc (.cells A1 t1)) := (Below.refl _ _).alloc (Nat.le_refl _) _
  have b2 : Below (w.alloc (.cells A1 t1)).heap.size (w.alloc (.cells A1 t1)) ((w.alloc (.cells A1 t1)).alloc (.cells A2 t2)) := (Below.refl _ _).alloc (Nat.le_refl _) _
  have b3 : Below ((w.alloc (.cells A1 t1)).alloc (.cells A2 t2)).heap.size ((w.alloc (.cells A1 t1)).alloc (.cells A2 t2)) (((w.alloc (.cells A1 t1)).alloc (.cells A2 t2)).alloc (.cells A3 t3)) := (Below.refl _ _).alloc (Nat.le_refl _) _
  have e1 : (w.alloc (.cells A1 t1)).heap.size = w.heap.size + 1 := by simp
  have e2 : ((w.alloc (.cells A1 t1)).alloc (.cells A2 t2)).heap.size = w.heap.size + 2 := by simp
  have k1 := cells_new w A1 t1
  have k2 := cells_new (w.alloc (.cells A1 t1)) A2 t2
  have k3 := cells_new ((w.alloc (.cells A1 t1)).alloc (.cells A2 t2)) A3 t3
  rw [e1] at k2
  rw [e2] at k3
  have hs := h.size
  refine ⟨((k1.kept b2).kept b3).kept h, (k2.kept b3).kept h, k3.kept h, ?_, ?_⟩
  · exact b1.trans ((b2.mono b1.size).trans ((b3.mono (by omega)).trans (h.mono (by simp; omega))))
  · simp at hs; omega
set_option maxHeartbeats 1000000 in
theorem to_side (s : Sd) (hm : s.ps.length ≤ 1048576) (a : Option Addr) (cap : Nat) (w : World) (h : Pls w a s.ps) :
    Calls Tryz.prog 114 #[.agg #[.slice a s.ps.length cap, .int .i64 s.sel, .int .i64 s.win]] w fun e w' => ∃ g, e = .returned (.agg #[.slice (some ⟨g, 0, none⟩) s.ps.length s.ps.length, .int .i64 s.sel, .int .i64 s.win]) ∧ w.heap.size ≤ g ∧ Pls w' (some ⟨g, 0, none⟩) s.ps ∧ Below w.heap.size w w' := by
  have HP := Lib.hid h
  clear h
  go_enter Tryz.func114, Tryz.ntmps114
  go_wp2_with (go_at_call 147; refine (to_policies s.ps _ _ _ (HP.out.kept (box3_below _ _ _ _)) hm).mono ?_; rintro e w2 ⟨g, rfl, ho, hb⟩; obtain ⟨k0, k1, k2, hB, hz⟩ := three_read hb; have HG := Lib.hid (show w.heap.size + 2 < g by have := ho.lt.1; simp at this; omega); have HO := Lib.hid ho.pts; have HB := Lib.hid hB; obtain ⟨p0, -⟩ := k0.2 0 (by simp); obtain ⟨p1, -⟩ := k0.2 1 (by simp); obtain ⟨p2, -⟩ := k0.2 2 (by simp); obtain ⟨c0, f0⟩ := k1.2 0 (by simp); obtain ⟨c1, f1⟩ := k1.2 1 (by simp); obtain ⟨c2, f2⟩ := k1.2 2 (by simp); obtain ⟨d0, e0⟩ := k2.2 0 (by simp); obtain ⟨d1, e1⟩ := k2.2 1 (by simp); obtain ⟨d2, e2⟩ := k2.2 2 (by simp); simp at p0 p1 p2 c0 c1 c2 d0 d1 d2; clear k0 k1 k2 hB hb ho hz)
  have hg := HG.out
  refine bodyPost_ret (v := .agg #[.slice (some ⟨g, 0, none⟩) s.ps.length s.ps.length, .int .i64 s.sel, .int .i64 s.win]) (by simp [results, Tryz.results114, go_sem, c0, c1, c2]) rfl ⟨g, rfl, by omega, ?_, ?_⟩
  · exact pls_off (pls_off (pls_off (pls_off (pls_off (pls_off HO.out _ (fun b o s e => by cases e; omega)) _ (fun b o s e => by cases e; omega)) _ (fun b o s e => by cases e; omega)) _ (fun b o s e => by cases e; omega)) _ (fun b o s e => by cases e; omega)) _ (fun b o s e => by cases e; omega)
  · exact (((((HB.out.setCell (p := ⟨w.heap.size + 2, 0, none⟩) (by show w.heap.size ≤ w.heap.size + 2; omega) _).setCell (p := ⟨w.heap.size + 2, 1, none⟩) (by show w.heap.size ≤ w.heap.size + 2; omega) _).setCell (p := ⟨w.heap.size + 2, 2, none⟩) (by show w.heap.size ≤ w.heap.size + 2; omega) _).setCell (p := ⟨w.heap.size + 1, 0, none⟩) (by show w.heap.size ≤ w.heap.size + 1; omega) _).setCell (p := ⟨w.heap.size + 1, 1, none⟩) (by show w.heap.size ≤ w.heap.size + 1; omega) _).setCell (p := ⟨w.heap.size + 1, 2, none⟩) (by show w.heap.size ≤ w.heap.size + 1; omega) _
theorem eq_side (s : Sd) (a a' : Option Addr) (cap cap' : Nat) (w : World) (h : Pls w a s.ps) (h' : Pls w a' s.ps) (hm : s.ps.length ≤ 1048576) :
    Calls Tryz.prog 129 #[.agg #[.slice a s.ps.length cap, .int .i64 s.sel, .int .i64 s.win], .agg #[.slice a' s.ps.length cap', .int .i64 s.sel, .int .i64 s.win]] w fun e w' => e = .returned (.bool true) ∧ Below w.heap.size w w' := by
  have H := Lib.hid h
  have H' := Lib.hid h'
  clear h h'
  go_enter Tryz.func129, Tryz.ntmps129
  go_wp2_with (go_at_call 159; refine (eq_policies s.ps a a' cap cap' _ (H.out.kept (box2_below _ _ _)) (H'.out.kept (box2_below _ _ _)) hm).mono ?_; rintro e w2 ⟨rfl, hb⟩; obtain ⟨k1, k2, hB, hz⟩ := two_read hb; have HB := Lib.hid hB; obtain ⟨c1, f1⟩ := k1.2 1 (by simp); obtain ⟨c2, f2⟩ := k1.2 2 (by simp); obtain ⟨d1, e1⟩ := k2.2 1 (by simp); obtain ⟨d2, e2⟩ := k2.2 2 (by simp); simp at c1 c2 d1 d2; clear hb k1 k2 hB hz)
  go_ret
  exact ⟨rfl, HB.out⟩
def CW8 (w : World) (g : Nat) (v0 v1 v2 v3 v4 v5 v6 v7 : Value) : Prop := CellsW w g [v0, v1, v2, v3, v4, v5, v6, v7]
theorem CW8.get {w : World} {g : Nat} {v0 v1 v2 v3 v4 v5 v6 v7 : Value} (h : CW8 w g v0 v1 v2 v3 v4 v5 v6 v7) :
    (w.cell? ⟨g, 0, none⟩ = some v0 ∧ w.cell? ⟨g, 1, none⟩ = some v1 ∧ w.cell? ⟨g, 2, none⟩ = some v2 ∧ w.cell? ⟨g, 3, none⟩ = some v3 ∧ w.cell? ⟨g, 4, none⟩ = some v4 ∧ w.cell? ⟨g, 5, none⟩ = some v5 ∧ w.cell? ⟨g, 6, none⟩ = some v6 ∧ w.cell? ⟨g, 7, none⟩ = some v7) ∧
    (w.frozen? ⟨g, 0, none⟩ = false ∧ w.frozen? ⟨g, 1, none⟩ = false ∧ w.frozen? ⟨g, 2, none⟩ = false ∧ w.frozen? ⟨g, 3, none⟩ = false ∧ w.frozen? ⟨g, 4, none⟩ = false ∧ w.frozen? ⟨g, 5, none⟩ = false ∧ w.frozen? ⟨g, 6, none⟩ = false ∧ w.frozen? ⟨g, 7, none⟩ = false) := by
  have h' : ∀ (j : Nat) (hj : j < 8), w.cell? ⟨g, j, none⟩ = some ([v0, v1, v2, v3, v4, v5, v6, v7][j]) ∧ w.frozen? ⟨g, j, none⟩ = false := fun j hj => h.2 j hj
  exact ⟨⟨(h' 0 (by omega)).1, (h' 1 (by omega)).1, (h' 2 (by omega)).1, (h' 3 (by omega)).1, (h' 4 (by omega)).1, (h' 5 (by omega)).1, (h' 6 (by omega)).1, (h' 7 (by omega)).1⟩, (h' 0 (by omega)).2, (h' 1 (by omega)).2, (h' 2 (by omega)).2, (h' 3 (by omega)).2, (h' 4 (by omega)).2, (h' 5 (by omega)).2, (h' 6 (by omega)).2, (h' 7 (by omega)).2⟩
theorem CW8.kept {w w' : World} {g : Nat} {v0 v1 v2 v3 v4 v5 v6 v7 : Value} (h : CW8 w g v0 v1 v2 v3 v4 v5 v6 v7) (hb : Below w.heap.size w w') : CW8 w' g v0 v1 v2 v3 v4 v5 v6 v7 := CellsW.kept h hb
def CW3 (w : World) (g : Nat) (v0 v1 v2 : Value) : Prop := CellsW w g [v0, v1, v2]
theorem CW3.kept {w w' : World} {g : Nat} {v0 v1 v2 : Value} (h : CW3 w g v0 v1 v2) (hb : Below w.heap.size w w') : CW3 w' g v0 v1 v2 := CellsW.kept h hb
theorem CW3.get {w : World} {g : Nat} {v0 v1 v2 : Value} (h : CW3 w g v0 v1 v2) : (w.cell? ⟨g, 0, none⟩ = some v0 ∧ w.cell? ⟨g, 1, none⟩ = some v1 ∧ w.cell? ⟨g, 2, none⟩ = some v2) ∧ (w.frozen? ⟨g, 0, none⟩ = false ∧ w.frozen? ⟨g, 1, none⟩ = false ∧ w.frozen? ⟨g, 2, none⟩ = false) := by
  have h' : ∀ (j : Nat) (hj : j < 3), w.cell? ⟨g, j, none⟩ = some ([v0, v1, v2][j]) ∧ w.frozen? ⟨g, j, none⟩ = false := fun j hj => h.2 j hj
  exact ⟨⟨(h' 0 (by omega)).1, (h' 1 (by omega)).1, (h' 2 (by omega)).1⟩, (h' 0 (by omega)).2, (h' 1 (by omega)).2, (h' 2 (by omega)).2⟩
set_option maxHeartbeats 4000000 in
set_option maxRecDepth 20000 in
theorem to_behave2 (b : Bh) (hm : b.up.ps.length ≤ 1048576) (hm' : b.dn.ps.length ≤ 1048576) (a : Option Addr) (c : Nat) (a' : Option Addr) (c' : Nat) (w : World) (h : Pls w a b.up.ps) (h' : Pls w a' b.dn.ps) :
    Calls Tryz.prog 71 #[bhV b a c a' c'] w fun e w' => ∃ g g', e = .returned (.agg #[.slice (some ⟨g, 0, none⟩) b.up.ps.length b.up.ps.length, .int .i64 b.up.sel, .int .i64 b.up.win, .slice (some ⟨g', 0, none⟩) b.dn.ps.length b.dn.ps.length, .int .i64 b.dn.sel, .int .i64 b.dn.win, .int .i64 b.mn, .int .i64 b.mx]) ∧ Pls w' (some ⟨g, 0, none⟩) b.up.ps ∧ Pls w' (some ⟨g', 0, none⟩) b.dn.ps ∧ Below w.heap.size w w' ∧ w.heap.size ≤ g ∧ w.heap.size ≤ g' := by
  unfold bhV
  have HP := Lib.hid h
  have HP' := Lib.hid h'
  clear h h'
  go_enter Tryz.func71, Tryz.ntmps71
  go_wp2_with fail
  have hbx := box3_below w (.cells #[.slice a b.up.ps.length c, .int .i64 b.up.sel, .int .i64 b.up.win, .slice a' b.dn.ps.length c', .int .i64 b.dn.sel, .int .i64 b.dn.win, .int .i64 b.mn, .int .i64 b.mx] 29) (.cells #[.slice none 0 0, .int .i64 0, .int .i64 0, .slice none 0 0, .int .i64 0, .int .i64 0, .int .i64 0, .int .i64 0] 46) (.cells #[.slice none 0 0, .int .i64 0, .int .i64 0, .slice none 0 0, .int .i64 0, .int .i64 0, .int .i64 0, .int .i64 0] 46)
  have HP'3 := Lib.hid (HP'.out.kept hbx)
  refine (to_side b.up hm a c _ (HP.out.kept hbx)).mono ?_
  rintro e w2 ⟨g, rfl, hg, ho, hb⟩
  obtain ⟨k0, k1, k2, hB, hz⟩ := three_read hb
  have HP'4 := Lib.hid (HP'3.out.kept hb)
  have HG := Lib.hid (show w.heap.size + 2 < g by simp at hg; omega)
  have HO := Lib.hid ho
  have HB := Lib.hid hB
  have HZ := Lib.hid hz
  have K0 : Hid (CW8 w2 w.heap.size _ _ _ _ _ _ _ _) := k0
  have K1 : Hid (CW8 w2 (w.heap.size + 1) _ _ _ _ _ _ _ _) := k1
  have K2 : Hid (CW8 w2 (w.heap.size + 2) _ _ _ _ _ _ _ _) := k2
  clear k0 k1 k2 hB hz hb ho hg hbx HP'3
  have hg := HG.out
  obtain ⟨⟨p0, p1, p2, p3, p4, p5, p6, p7⟩, -⟩ := K0.out.get
  obtain ⟨⟨d0, d1, d2, -, -, -, -, -⟩, e0, e1, e2, -, -, -, -, -⟩ := K2.out.get
  have HB3 := Lib.hid (((HB.out.setCell (p := ⟨w.heap.size + 2, 0, none⟩) (by show w.heap.size ≤ w.heap.size + 2; omega) (.slice (some ⟨g, 0, none⟩) b.up.ps.length b.up.ps.length)).setCell (p := ⟨w.heap.size + 2, 1, none⟩) (by show w.heap.size ≤ w.heap.size + 2; omega) (.int .i64 b.up.sel)).setCell (p := ⟨w.heap.size + 2, 2, none⟩) (by show w.heap.size ≤ w.heap.size + 2; omega) (.int .i64 b.up.win))
  have HO3 := Lib.hid (pls_off (j := 2) (c := w.heap.size + 2) (pls_off (j := 1) (c := w.heap.size + 2) (pls_off (j := 0) (c := w.heap.size + 2) HO.out (.slice (some ⟨g, 0, none⟩) b.up.ps.length b.up.ps.length) (fun b o s e => by cases e; omega)) (.int .i64 b.up.sel) (fun b o s e => by cases e; omega)) (.int .i64 b.up.win) (fun b o s e => by cases e; omega))
  have K03 : Hid (CW8 _ w.heap.size _ _ _ _ _ _ _ _) := cells_off (j := 2) (c := w.heap.size + 2) (cells_off (j := 1) (c := w.heap.size + 2) (cells_off (j := 0) (c := w.heap.size + 2) K0.out (.slice (some ⟨g, 0, none⟩) b.up.ps.length b.up.ps.length) (by omega)) (.int .i64 b.up.sel) (by omega)) (.int .i64 b.up.win) (by omega)
  have K13 : Hid (CW8 _ (w.heap.size + 1) _ _ _ _ _ _ _ _) := cells_off (j := 2) (c := w.heap.size + 2) (cells_off (j := 1) (c := w.heap.size + 2) (cells_off (j := 0) (c := w.heap.size + 2) K1.out (.slice (some ⟨g, 0, none⟩) b.up.ps.length b.up.ps.length) (by omega)) (.int .i64 b.up.sel) (by omega)) (.int .i64 b.up.win) (by omega)
  have K23 : Hid (CW8 _ (w.heap.size + 2) _ _ _ _ _ _ _ _) := ((CellsW.set K2.out 0 (.slice (some ⟨g, 0, none⟩) b.up.ps.length b.up.ps.length) (by simp)).set 1 (.int .i64 b.up.sel) (by simp)).set 2 (.int .i64 b.up.win) (by simp)
  have HZ3 : Hid (w.heap.size + 2 < (((w2.setCell ⟨w.heap.size + 2, 0, none⟩ (.slice (some ⟨g, 0, none⟩) b.up.ps.length b.up.ps.length)).setCell ⟨w.heap.size + 2, 1, none⟩ (.int .i64 b.up.sel)).setCell ⟨w.heap.size + 2, 2, none⟩ (.int .i64 b.up.win)).heap.size) := by
    have := HZ.out
    exact Lib.hid (by simpa [World.setCell] using this)
  clear HB HO K0 K1 K2 HZ
  go_wp2_with fail
  clear p0 p1 p2 p3 p4 p5 p6 p7 d0 d1 d2 e0 e1 e2
  obtain ⟨W3, hW3⟩ : ∃ W3, ((w2.setCell ⟨w.heap.size + 2, 0, none⟩ (.slice (some ⟨g, 0, none⟩) b.up.ps.length b.up.ps.length)).setCell ⟨w.heap.size + 2, 1, none⟩ (.int .i64 b.up.sel)).setCell ⟨w.heap.size + 2, 2, none⟩ (.int .i64 b.up.win) = W3 := ⟨_, rfl⟩
  rw [hW3] at HB3 HO3 K03 K13 K23 HZ3 ⊢
  clear hW3
  refine (to_side b.dn hm' a' c' W3 (HP'.out.kept HB3.out)).mono ?_
  rintro e w4 ⟨g', rfl, hg', ho', hb'⟩
  have HB4 := Lib.hid (HB3.out.trans (hb'.mono HB3.out.size))
  have HO4 := Lib.hid (HO3.out.kept hb')
  have HO4' := Lib.hid ho'
  have HG' := Lib.hid (show w.heap.size + 2 < g' from Nat.lt_of_lt_of_le HZ3.out hg')
  have hg' := HG'.out
  have K04 : Hid (CW8 w4 w.heap.size _ _ _ _ _ _ _ _) := CellsW.kept K03.out hb'
  have K14 : Hid (CW8 w4 (w.heap.size + 1) _ _ _ _ _ _ _ _) := CellsW.kept K13.out hb'
  have K24 : Hid (CW8 w4 (w.heap.size + 2) _ _ _ _ _ _ _ _) := CellsW.kept K23.out hb'
  obtain ⟨⟨-, -, -, -, -, -, p6, p7⟩, -⟩ := K04.out.get
  obtain ⟨⟨d0, d1, d2, d3, d4, d5, d6, d7⟩, e0, e1, e2, e3, e4, e5, e6, e7⟩ := K24.out.get
  obtain ⟨⟨c0, c1, c2, c3, c4, c5, c6, c7⟩, f0, f1, f2, f3, f4, f5, f6, f7⟩ := K14.out.get
  clear HB3 HO3 K03 K13 K23 HZ3 K04 K14 K24 ho' hb'
  go_wp2
  refine bodyPost_ret (v := .agg #[.slice (some ⟨g, 0, none⟩) b.up.ps.length b.up.ps.length, .int .i64 b.up.sel, .int .i64 b.up.win, .slice (some ⟨g', 0, none⟩) b.dn.ps.length b.dn.ps.length, .int .i64 b.dn.sel, .int .i64 b.dn.win, .int .i64 b.mn, .int .i64 b.mx]) (by simp [results, Tryz.results71, go_sem, c0, c1, c2, c3, c4, c5, c6, c7]) rfl ⟨g, g', rfl, ?_, ?_, ?_, by omega, by omega⟩
  · repeat (refine pls_off ?_ _ (fun b o s e => by cases e; omega))
    exact HO4.out
  · repeat (refine pls_off ?_ _ (fun b o s e => by cases e; omega))
    exact HO4'.out
  · repeat (refine Below.setCell ?_ (by first | exact Nat.le_add_right w.heap.size 1 | exact Nat.le_add_right w.heap.size 2) _)
    exact HB4.out
theorem to_behave (b : Bh) (hm : b.up.ps.length ≤ 1048576) (hm' : b.dn.ps.length ≤ 1048576) (a : Option Addr) (c : Nat) (a' : Option Addr) (c' : Nat) (w : World) (h : Pls w a b.up.ps) (h' : Pls w a' b.dn.ps) :
    Calls Tryz.prog 71 #[bhV b a c a' c'] w fun e w' => ∃ g g', e = .returned (.agg #[.slice (some ⟨g, 0, none⟩) b.up.ps.length b.up.ps.length, .int .i64 b.up.sel, .int .i64 b.up.win, .slice (some ⟨g', 0, none⟩) b.dn.ps.length b.dn.ps.length, .int .i64 b.dn.sel, .int .i64 b.dn.win, .int .i64 b.mn, .int .i64 b.mx]) ∧ Pls w' (some ⟨g, 0, none⟩) b.up.ps ∧ Pls w' (some ⟨g', 0, none⟩) b.dn.ps ∧ Below w.heap.size w w' :=
  (to_behave2 b hm hm' a c a' c' w h h').mono fun e w' ⟨g, g', h1, h2, h3, h4, _, _⟩ => ⟨g, g', h1, h2, h3, h4⟩
set_option maxHeartbeats 1000000 in
theorem eq_behave (b : Bh) (a1 a2 a3 a4 : Option Addr) (c1 c2 c3 c4 : Nat) (w : World) (h1 : Pls w a1 b.up.ps) (h2 : Pls w a2 b.dn.ps) (h3 : Pls w a3 b.up.ps) (h4 : Pls w a4 b.dn.ps) (hm : b.up.ps.length ≤ 1048576) (hm' : b.dn.ps.length ≤ 1048576) :
    Calls Tryz.prog 95 #[bhV b a1 c1 a2 c2, bhV b a3 c3 a4 c4] w fun e w' => e = .returned (.bool true) ∧ Below w.heap.size w w' := by
  unfold bhV
  have H1 := Lib.hid h1
  have H2 := Lib.hid h2
  have H3 := Lib.hid h3
  have H4 := Lib.hid h4
  clear h1 h2 h3 h4
  go_enter Tryz.func95, Tryz.ntmps95
  go_wp2_with fail
  refine (eq_side b.up _ _ _ _ _ (H1.out.kept (box2_below _ _ _)) (H3.out.kept (box2_below _ _ _)) hm).mono ?_
  rintro e w2 ⟨rfl, hb⟩
  obtain ⟨k1, k2, hB, hz⟩ := two_read hb
  have HB := Lib.hid hB
  have K1 : Hid (CW8 w2 w.heap.size _ _ _ _ _ _ _ _) := k1
  have K2 : Hid (CW8 w2 (w.heap.size + 1) _ _ _ _ _ _ _ _) := k2
  obtain ⟨⟨p0, p1, p2, p3, p4, p5, p6, p7⟩, -⟩ := K1.out.get
  obtain ⟨⟨q0, q1, q2, q3, q4, q5, q6, q7⟩, -⟩ := K2.out.get
  clear hb k1 k2 hB hz
  go_wp2_with fail
  refine (eq_side b.dn _ _ _ _ _ (H2.out.kept HB.out) (H4.out.kept HB.out) hm').mono ?_
  rintro e w3 ⟨rfl, hb⟩
  have HB3 := Lib.hid (HB.out.trans (hb.mono HB.out.size))
  have K13 : Hid (CW8 w3 w.heap.size _ _ _ _ _ _ _ _) := CellsW.kept K1.out hb
  have K23 : Hid (CW8 w3 (w.heap.size + 1) _ _ _ _ _ _ _ _) := CellsW.kept K2.out hb
  clear hb p0 p1 p2 p3 p4 p5 p6 p7 q0 q1 q2 q3 q4 q5 q6 q7
  obtain ⟨⟨-, -, -, -, -, -, p6, p7⟩, -⟩ := K13.out.get
  obtain ⟨⟨-, -, -, -, -, -, q6, q7⟩, -⟩ := K23.out.get
  go_wp2
  go_ret
  exact ⟨rfl, HB3.out⟩
end Go.Proofs.YtgmdfkmmbcpikaaGreat.SdT
