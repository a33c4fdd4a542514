/- laws.toSide, eqSide, toBehave, eqBehave: copies, and comparisons of equals. -/
import Derived.Test.YtcjjdnfikccnmaaDoorPl
namespace Go.Proofs.YtcjjdnfikccnmaaDoor.SdT
open Go.RowKit
open Go.Proofs.YtcjjdnfikccnmaaDoor.C1
open Go.Proofs.YtcjjdnfikccnmaaDoor.C2
open Go.Proofs.YtcjjdnfikccnmaaDoor.Smps
open Go.Proofs.YtcjjdnfikccnmaaDoor.Mem
open Go.Proofs.YtcjjdnfikccnmaaDoor.Ser2 (cells_new)
open Go.Proofs.YtcjjdnfikccnmaaDoor.Pl
set_option linter.unusedVariables false

theorem cells_off {w : World} {g c j : Nat} {vs : List Value} (h : CellsW w g vs) (u : Value) (hne : g ≠ c) : CellsW (w.setCell ⟨c, j, none⟩ u) g vs := by
  refine ⟨by simpa [World.setCell] using h.1, fun i hi => ⟨?_, by rw [World.frozen?_setCell]; exact (h.2 i hi).2⟩⟩
  rw [World.cell?_setCell_other (h := show (⟨c, j, none⟩ : Addr) ≠ ⟨g, i, none⟩ by intro hh; cases hh; exact hne rfl)]
  exact (h.2 i hi).1
theorem pls_off {w : World} {c j : Nat} {a : Option Addr} {ps : List Pl} (h : Pls w a ps) (u : Value) (hne : ∀ b o s, a = some ⟨b, o, s⟩ → b ≠ c) : Pls (w.setCell ⟨c, j, none⟩ u) a ps := by
  rcases h with h | ⟨b, off, h1, h2, h3⟩
  · exact .inl h
  · have hb := hne _ _ _ h1
    have hc : ∀ k, (w.setCell ⟨c, j, none⟩ u).cell? ⟨b, k, none⟩ = w.cell? ⟨b, k, none⟩ := fun k => by rw [World.cell?_setCell_other (h := show (⟨c, j, none⟩ : Addr) ≠ ⟨b, k, none⟩ by intro hh; cases hh; exact hb rfl)]
    exact .inr ⟨b, off, h1, by simpa [World.setCell] using h2, fun i hi => ⟨by rw [hc]; exact (h3 i hi).1, by rw [hc]; exact (h3 i hi).2.1, by rw [hc]; exact (h3 i hi).2.2⟩⟩
theorem three_read {w w2 : World} {A1 A2 A3 : Array Value} {t1 t2 t3 : TypeId} (h : Below (((w.alloc (.cells A1 t1)).alloc (.cells A2 t2)).alloc (.cells A3 t3)).heap.size (((w.alloc (.cells A1 t1)).alloc (.cells A2 t2)).alloc (.cells A3 t3)) w2) :
    CellsW w2 w.heap.size A1.toList ∧ CellsW w2 (w.heap.size + 1) A2.toList ∧ CellsW w2 (w.heap.size + 2) A3.toList ∧ Below w.heap.size w w2 ∧ w.heap.size + 2 < w2.heap.size := by
  have b1 : Below w.heap.size w (w.alloc (.cells A1 t1)) := (Below.refl _ _).alloc (Nat.le_refl _) _
  have b2 : Below (w.alloc (.cells A1 t1)).heap.size (w.alloc (.cells A1 t1)) ((w.alloc (.cells A1 t1)).alloc (.cells A2 t2)) := (Below.refl _ _).alloc (Nat.le_refl _) _
  have b3 : Below ((w.alloc (.cells A1 t1)).alloc (.cells A2 t2)).heap.size ((w.alloc (.cells A1 t1)).alloc (.cells A2 t2)) (((w.alloc (.cells A1 t1)).alloc (.cells A2 t2)).alloc (.cells A3 t3)) := (Below.refl _ _).alloc (Nat.le_refl _) _
  have e1 : (w.alloc (.cells A1 t1)).heap.size = w.heap.size + 1 := by simp
  have e2 : ((w.alloc (.cells A1 t1)).alloc (.cells A2 t2)).heap.size = w.heap.size + 2 := by simp
  have k1 := cells_new w A1 t1
  have k2 := cells_new (w.alloc (.cells A1 t1)) A2 t2
  have k3 := cells_new ((w.alloc (.cells A1 t1)).alloc (.cells A2 t2)) A3 t3
  rw [e1] at k2
  rw [e2] at k3
  have hs := h.size
  refine ⟨((k1.kept b2).kept b3).kept h, (k2.kept b3).kept h, k3.kept h, ?_, ?_⟩
  · exact b1.trans ((b2.mono b1.size).trans ((b3.mono (by omega)).trans (h.mono (by simp; omega))))
  · simp at hs; omega
set_option maxHeartbeats 1000000 in
theorem to_side (s : Sd) (hm : s.ps.length ≤ 1048576) (a : Option Addr) (cap : Nat) (w : World) (h : Pls w a s.ps) :
    Calls Tryd.prog 6 #[.agg #[.slice a s.ps.length cap, .int .i64 s.sel, .int .i64 s.win]] w fun e w' => ∃ g, e = .returned (.agg #[.slice (some ⟨g, 0, none⟩) s.ps.length s.ps.length, .int .i64 s.sel, .int .i64 s.win]) ∧ w.heap.size ≤ g ∧ Pls w' (some ⟨g, 0, none⟩) s.ps ∧ Below w.heap.size w w' := by
  have HP := Lib.hid h
  clear h
  go_enter Tryd.func6, Tryd.ntmps6
  go_wp2_with (go_at_call 12; refine (to_policies s.ps _ _ _ (HP.out.kept (box3_below _ _ _ _)) hm).mono ?_; rintro e w2 ⟨g, rfl, ho, hb⟩; obtain ⟨k0, k1, k2, hB, hz⟩ := three_read hb; have HG := Lib.hid (show w.heap.size + 2 < g by have := ho.lt.1; simp at this; omega); have HO := Lib.hid ho.pts; have HB := Lib.hid hB; obtain ⟨p0, -⟩ := k0.2 0 (by simp); obtain ⟨p1, -⟩ := k0.2 1 (by simp); obtain ⟨p2, -⟩ := k0.2 2 (by simp); obtain ⟨c0, f0⟩ := k1.2 0 (by simp); obtain ⟨c1, f1⟩ := k1.2 1 (by simp); obtain ⟨c2, f2⟩ := k1.2 2 (by simp); obtain ⟨d0, e0⟩ := k2.2 0 (by simp); obtain ⟨d1, e1⟩ := k2.2 1 (by simp); obtain ⟨d2, e2⟩ := k2.2 2 (by simp); simp at p0 p1 p2 c0 c1 c2 d0 d1 d2; clear k0 k1 k2 hB hb ho hz)
  have hg := HG.out
  refine bodyPost_ret (v := .agg #[.slice (some ⟨g, 0, none⟩) s.ps.length s.ps.length, .int .i64 s.sel, .int .i64 s.win]) (by simp [results, Tryd.results6, go_sem, c0, c1, c2]) rfl ⟨g, rfl, by omega, ?_, ?_⟩
  · exact pls_off (pls_off (pls_off (pls_off (pls_off (pls_off HO.out _ (fun b o s e => by cases e; omega)) _ (fun b o s e => by cases e; omega)) _ (fun b o s e => by cases e; omega)) _ (fun b o s e => by cases e; omega)) _ (fun b o s e => by cases e; omega)) _ (fun b o s e => by cases e; omega)
  · exact (((((HB.out.setCell (p := ⟨w.heap.size + 2, 0, none⟩) (by show w.heap.size ≤ w.heap.size + 2; omega) _).setCell (p := ⟨w.heap.size + 2, 1, none⟩) (by show w.heap.size ≤ w.heap.size + 2; omega) _).setCell (p := ⟨w.heap.size + 2, 2, none⟩) (by show w.heap.size ≤ w.heap.size + 2; omega) _).setCell (p := ⟨w.heap.size + 1, 0, none⟩) (by show w.heap.size ≤ w.heap.size + 1; omega) _).setCell (p := ⟨w.heap.size + 1, 1, none⟩) (by show w.heap.size ≤ w.heap.size + 1; omega) _).setCell (p := ⟨w.heap.size + 1, 2, none⟩) (by show w.heap.size ≤ w.heap.size + 1; omega) _
theorem eq_side (s : Sd) (a a' : Option Addr) (cap cap' : Nat) (w : World) (h : Pls w a s.ps) (h' : Pls w a' s.ps) (hm : s.ps.length ≤ 1048576) :
    Calls Tryd.prog 8 #[.agg #[.slice a s.ps.length cap, .int .i64 s.sel, .int .i64 s.win], .agg #[.slice a' s.ps.length cap', .int .i64 s.sel, .int .i64 s.win]] w fun e w' => e = .returned (.bool true) ∧ Below w.heap.size w w' := by
  have H := Lib.hid h
  have H' := Lib.hid h'
  clear h h'
  go_enter Tryd.func8, Tryd.ntmps8
  go_wp2_with (go_at_call 15; refine (eq_policies s.ps a a' cap cap' _ (H.out.kept (box2_below _ _ _)) (H'.out.kept (box2_below _ _ _)) hm).mono ?_; rintro e w2 ⟨rfl, hb⟩; obtain ⟨k1, k2, hB, hz⟩ := two_read hb; have HB := Lib.hid hB; obtain ⟨c1, f1⟩ := k1.2 1 (by simp); obtain ⟨c2, f2⟩ := k1.2 2 (by simp); obtain ⟨d1, e1⟩ := k2.2 1 (by simp); obtain ⟨d2, e2⟩ := k2.2 2 (by simp); simp at c1 c2 d1 d2; clear hb k1 k2 hB hz)
  go_ret
  exact ⟨rfl, HB.out⟩
def CW8 (w : World) (g : Nat) (v0 v1 v2 v3 v4 v5 v6 v7 : Value) : Prop := CellsW w g [v0, v1, v2, v3, v4, v5, v6, v7]
theorem CW8.get {w : World} {g : Nat} {v0 v1 v2 v3 v4 v5 v6 v7 : Value} (h : CW8 w g v0 v1 v2 v3 v4 v5 v6 v7) :
    (w.cell? ⟨g, 0, none⟩ = some v0 ∧ w.cell? ⟨g, 1, none⟩ = some v1 ∧ w.cell? ⟨g, 2, none⟩ = some v2 ∧ w.cell? ⟨g, 3, none⟩ = some v3 ∧ w.cell? ⟨g, 4, none⟩ = some v4 ∧ w.cell? ⟨g, 5, none⟩ = some v5 ∧ w.cell? ⟨g, 6, none⟩ = some v6 ∧ w.cell? ⟨g, 7, none⟩ = some v7) ∧
    (w.frozen? ⟨g, 0, none⟩ = false ∧ w.frozen? ⟨g, 1, none⟩ = false ∧ w.frozen? ⟨g, 2, none⟩ = false ∧ w.frozen? ⟨g, 3, none⟩ = false ∧ w.frozen? ⟨g, 4, none⟩ = false ∧ w.frozen? ⟨g, 5, none⟩ = false ∧ w.frozen? ⟨g, 6, none⟩ = false ∧ w.frozen? ⟨g, 7, none⟩ = false) := by
  have h' : ∀ (j : Nat) (hj : j < 8), w.cell? ⟨g, j, none⟩ = some ([v0, v1, v2, v3, v4, v5, v6, v7][j]) ∧ w.frozen? ⟨g, j, none⟩ = false := fun j hj => h.2 j hj
  exact ⟨⟨(h' 0 (by omega)).1, (h' 1 (by omega)).1, (h' 2 (by omega)).1, (h' 3 (by omega)).1, (h' 4 (by omega)).1, (h' 5 (by omega)).1, (h' 6 (by omega)).1, (h' 7 (by omega)).1⟩, (h' 0 (by omega)).2, (h' 1 (by omega)).2, (h' 2 (by omega)).2, (h' 3 (by omega)).2, (h' 4 (by omega)).2, (h' 5 (by omega)).2, (h' 6 (by omega)).2, (h' 7 (by omega)).2⟩
theorem CW8.kept {w w' : World} {g : Nat} {v0 v1 v2 v3 v4 v5 v6 v7 : Value} (h : CW8 w g v0 v1 v2 v3 v4 v5 v6 v7) (hb : Below w.heap.size w w') : CW8 w' g v0 v1 v2 v3 v4 v5 v6 v7 := CellsW.kept h hb
def CW3 (w : World) (g : Nat) (v0 v1 v2 : Value) : Prop := CellsW w g [v0, v1, v2]
theorem CW3.kept {w w' : World} {g : Nat} {v0 v1 v2 : Value} (h : CW3 w g v0 v1 v2) (hb : Below w.heap.size w w') : CW3 w' g v0 v1 v2 := CellsW.kept h hb
theorem CW3.get {w : World} {g : Nat} {v0 v1 v2 : Value} (h : CW3 w g v0 v1 v2) : (w.cell? ⟨g, 0, none⟩ = some v0 ∧ w.cell? ⟨g, 1, none⟩ = some v1 ∧ w.cell? ⟨g, 2, none⟩ = some v2) ∧ (w.frozen? ⟨g, 0, none⟩ = false ∧ w.frozen? ⟨g, 1, none⟩ = false ∧ w.frozen? ⟨g, 2, none⟩ = false) := by
  have h' : ∀ (j : Nat) (hj : j < 3), w.cell? ⟨g, j, none⟩ = some ([v0, v1, v2][j]) ∧ w.frozen? ⟨g, j, none⟩ = false := fun j hj => h.2 j hj
  exact ⟨⟨(h' 0 (by omega)).1, (h' 1 (by omega)).1, (h' 2 (by omega)).1⟩, (h' 0 (by omega)).2, (h' 1 (by omega)).2, (h' 2 (by omega)).2⟩
end Go.Proofs.YtcjjdnfikccnmaaDoor.SdT
