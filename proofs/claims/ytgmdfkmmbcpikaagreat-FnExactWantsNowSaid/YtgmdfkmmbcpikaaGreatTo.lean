/- Copies of sides, behaviours, setups, told with the rows that they own. -/
import Derived.Test.YtgmdfkmmbcpikaaGreatSet
namespace Go.Proofs.YtgmdfkmmbcpikaaGreat.To
open Go.RowKit Go.Deep
open Go.ChangeShapes Go.WideShapes
open Go.Proofs.YtgmdfkmmbcpikaaGreat.C1
open Go.Proofs.YtgmdfkmmbcpikaaGreat.C2
open Go.Proofs.YtgmdfkmmbcpikaaGreat.Smps
open Go.Proofs.YtgmdfkmmbcpikaaGreat.Mem
open Go.Proofs.YtgmdfkmmbcpikaaGreat.Pd
open Go.Proofs.YtgmdfkmmbcpikaaGreat.Gl
open Go.Proofs.YtgmdfkmmbcpikaaGreat.Gls
open Go.Proofs.YtgmdfkmmbcpikaaGreat.Pl
open Go.Proofs.YtgmdfkmmbcpikaaGreat.Set
open Go.Proofs.YtgmdfkmmbcpikaaGreat.SdT
open Go.Proofs.YtgmdfkmmbcpikaaGreat.Ser2 (cells_new)
set_option linter.unusedVariables false

theorem own_lt {B e k n len cap : Nat} {a : Option Addr} {l : List Value} {w : World} (h : w.ownsRow B e k (.slice a len cap) n l) : ∀ b o s, a = some ⟨b, o, s⟩ → b < w.heap.size := by
  intro b o s e'
  rcases h.2 with ⟨hv, _⟩ | ⟨g, cap', cur, hv, hg, hh, _⟩
  · cases hv; cases e'
  · cases hv; cases e'; exact (Array.getElem?_eq_some_iff.1 hh).1
theorem own_base {B e k n len cap : Nat} {a : Option Addr} {l : List Value} {w : World} (h : w.ownsRow B e k (.slice a len cap) n l) : ∀ b o s, a = some ⟨b, o, s⟩ → B ≤ b := by
  intro b o s e'
  rcases h.2 with ⟨hv, _⟩ | ⟨g, cap', cur, hv, hg, _⟩
  · cases hv; cases e'
  · cases hv; cases e'; exact hg
theorem row_weak {B B' e k n : Nat} {v : Value} {l : List Value} {w : World} (h : w.ownsRow B e k v n l) (hB : B' ≤ B) : w.ownsRow B' e k v n l := by
  obtain ⟨h1, h2⟩ := h
  refine ⟨h1, ?_⟩
  rcases h2 with h2 | ⟨g, cap', cur, hv, hg, r⟩
  · exact .inl h2
  · exact .inr ⟨g, cap', cur, hv, Nat.le_trans hB hg, r⟩
theorem row_kept {B e k n : Nat} {v : Value} {l : List Value} {w w' : World} (h : w.ownsRow B e k v n l) (hb : Below w.heap.size w w') : w'.ownsRow B e k v n l := by
  obtain ⟨h1, h2⟩ := h
  refine ⟨h1, ?_⟩
  rcases h2 with h2 | ⟨g, cap', cur, hv, hg, hh, r⟩
  · exact .inl h2
  · exact .inr ⟨g, cap', cur, hv, hg, by rw [hb.block g (Array.getElem?_eq_some_iff.1 hh).1]; exact hh, r⟩
theorem row_off1 {B e k n len cap c j : Nat} {a : Option Addr} {l : List Value} {w : World} (h : w.ownsRow B e k (.slice a len cap) n l) (u : Value) (hne : ∀ b o s, a = some ⟨b, o, s⟩ → b ≠ c) : (w.setCell ⟨c, j, none⟩ u).ownsRow B e k (.slice a len cap) n l := by
  obtain ⟨h1, h2⟩ := h
  refine ⟨h1, ?_⟩
  rcases h2 with h2 | ⟨g, cap', cur, hv, hg, hh, r⟩
  · exact .inl h2
  · cases hv
    exact .inr ⟨g, cap, cur, rfl, hg, by rw [Below.heap_setCell _ _ _ _ (hne g 0 none rfl)]; exact hh, r⟩
set_option maxHeartbeats 1000000 in
theorem to_sideO (s : Sd) (hm : s.ps.length ≤ 1048576) (a : Option Addr) (cap : Nat) (w : World) (h : Pls w a s.ps) :
    Calls Tryz.prog 114 #[.agg #[.slice a s.ps.length cap, .int .i64 s.sel, .int .i64 s.win]] w fun e w' => ∃ g, e = .returned (.agg #[.slice (some ⟨g, 0, none⟩) s.ps.length s.ps.length, .int .i64 s.sel, .int .i64 s.win]) ∧ w.heap.size ≤ g ∧ OwnL w' w.heap.size (.slice (some ⟨g, 0, none⟩) s.ps.length s.ps.length) s.ps ∧ Below w.heap.size w w' := by
  have HP := Lib.hid h
  clear h
  go_enter Tryz.func114, Tryz.ntmps114
  go_wp2_with (go_at_call 147; refine (to_policies s.ps _ _ _ (HP.out.kept (box3_below _ _ _ _)) hm).mono ?_; rintro e w2 ⟨g, rfl, ho, hb⟩; obtain ⟨k0, k1, k2, hB, hz⟩ := three_read hb; have HG := Lib.hid (show w.heap.size + 2 < g by have := ho.lt.1; simp at this; omega); have HO := Lib.hid (show OwnL w2 w.heap.size _ _ from row_weak ho (by simp; omega)); have HB := Lib.hid hB; obtain ⟨p0, -⟩ := k0.2 0 (by simp); obtain ⟨p1, -⟩ := k0.2 1 (by simp); obtain ⟨p2, -⟩ := k0.2 2 (by simp); obtain ⟨c0, f0⟩ := k1.2 0 (by simp); obtain ⟨c1, f1⟩ := k1.2 1 (by simp); obtain ⟨c2, f2⟩ := k1.2 2 (by simp); obtain ⟨d0, e0⟩ := k2.2 0 (by simp); obtain ⟨d1, e1⟩ := k2.2 1 (by simp); obtain ⟨d2, e2⟩ := k2.2 2 (by simp); simp at p0 p1 p2 c0 c1 c2 d0 d1 d2; clear k0 k1 k2 hB hb ho hz)
  have hg := HG.out
  refine bodyPost_ret (v := .agg #[.slice (some ⟨g, 0, none⟩) s.ps.length s.ps.length, .int .i64 s.sel, .int .i64 s.win]) (by simp [results, Tryz.results114, go_sem, c0, c1, c2]) rfl ⟨g, rfl, by omega, ?_, ?_⟩
  · exact row_off1 (row_off1 (row_off1 (row_off1 (row_off1 (row_off1 HO.out _ (fun b o s e => by cases e; omega)) _ (fun b o s e => by cases e; omega)) _ (fun b o s e => by cases e; omega)) _ (fun b o s e => by cases e; omega)) _ (fun b o s e => by cases e; omega)) _ (fun b o s e => by cases e; omega)
  · exact (((((HB.out.setCell (p := ⟨w.heap.size + 2, 0, none⟩) (by show w.heap.size ≤ w.heap.size + 2; omega) _).setCell (p := ⟨w.heap.size + 2, 1, none⟩) (by show w.heap.size ≤ w.heap.size + 2; omega) _).setCell (p := ⟨w.heap.size + 2, 2, none⟩) (by show w.heap.size ≤ w.heap.size + 2; omega) _).setCell (p := ⟨w.heap.size + 1, 0, none⟩) (by show w.heap.size ≤ w.heap.size + 1; omega) _).setCell (p := ⟨w.heap.size + 1, 1, none⟩) (by show w.heap.size ≤ w.heap.size + 1; omega) _).setCell (p := ⟨w.heap.size + 1, 2, none⟩) (by show w.heap.size ≤ w.heap.size + 1; omega) _
set_option maxHeartbeats 4000000 in
set_option maxRecDepth 20000 in
theorem to_behaveO (b : Bh) (hm : b.up.ps.length ≤ 1048576) (hm' : b.dn.ps.length ≤ 1048576) (a : Option Addr) (c : Nat) (a' : Option Addr) (c' : Nat) (w : World) (h : Pls w a b.up.ps) (h' : Pls w a' b.dn.ps) :
    Calls Tryz.prog 71 #[bhV b a c a' c'] w fun e w' => ∃ g g', e = .returned (.agg #[.slice (some ⟨g, 0, none⟩) b.up.ps.length b.up.ps.length, .int .i64 b.up.sel, .int .i64 b.up.win, .slice (some ⟨g', 0, none⟩) b.dn.ps.length b.dn.ps.length, .int .i64 b.dn.sel, .int .i64 b.dn.win, .int .i64 b.mn, .int .i64 b.mx]) ∧ OwnL w' w.heap.size (.slice (some ⟨g, 0, none⟩) b.up.ps.length b.up.ps.length) b.up.ps ∧ OwnL w' w.heap.size (.slice (some ⟨g', 0, none⟩) b.dn.ps.length b.dn.ps.length) b.dn.ps ∧ Below w.heap.size w w' ∧ w.heap.size ≤ g ∧ g < g' := by
  unfold bhV
  have HP := Lib.hid h
  have HP' := Lib.hid h'
  clear h h'
  go_enter Tryz.func71, Tryz.ntmps71
  go_wp2_with fail
  have hbx := box3_below w (.cells #[.slice a b.up.ps.length c, .int .i64 b.up.sel, .int .i64 b.up.win, .slice a' b.dn.ps.length c', .int .i64 b.dn.sel, .int .i64 b.dn.win, .int .i64 b.mn, .int .i64 b.mx] 29) (.cells #[.slice none 0 0, .int .i64 0, .int .i64 0, .slice none 0 0, .int .i64 0, .int .i64 0, .int .i64 0, .int .i64 0] 46) (.cells #[.slice none 0 0, .int .i64 0, .int .i64 0, .slice none 0 0, .int .i64 0, .int .i64 0, .int .i64 0, .int .i64 0] 46)
  have HP'3 := Lib.hid (HP'.out.kept hbx)
  refine (to_sideO b.up hm a c _ (HP.out.kept hbx)).mono ?_
  rintro e w2 ⟨g, rfl, hg, ho, hb⟩
  obtain ⟨k0, k1, k2, hB, hz⟩ := three_read hb
  have HP'4 := Lib.hid (HP'3.out.kept hb)
  have HG := Lib.hid (show w.heap.size + 2 < g by simp at hg; omega)
  have HO := Lib.hid (show OwnL w2 w.heap.size _ _ from row_weak ho (by simp; omega))
  have HB := Lib.hid hB
  have HZ := Lib.hid hz
  have K0 : Hid (CW8 w2 w.heap.size _ _ _ _ _ _ _ _) := k0
  have K1 : Hid (CW8 w2 (w.heap.size + 1) _ _ _ _ _ _ _ _) := k1
  have K2 : Hid (CW8 w2 (w.heap.size + 2) _ _ _ _ _ _ _ _) := k2
  clear k0 k1 k2 hB hz hb ho hg hbx HP'3
  have hg := HG.out
  obtain ⟨⟨p0, p1, p2, p3, p4, p5, p6, p7⟩, -⟩ := K0.out.get
  obtain ⟨⟨d0, d1, d2, -, -, -, -, -⟩, e0, e1, e2, -, -, -, -, -⟩ := K2.out.get
  have HB3 := Lib.hid (((HB.out.setCell (p := ⟨w.heap.size + 2, 0, none⟩) (by show w.heap.size ≤ w.heap.size + 2; omega) (.slice (some ⟨g, 0, none⟩) b.up.ps.length b.up.ps.length)).setCell (p := ⟨w.heap.size + 2, 1, none⟩) (by show w.heap.size ≤ w.heap.size + 2; omega) (.int .i64 b.up.sel)).setCell (p := ⟨w.heap.size + 2, 2, none⟩) (by show w.heap.size ≤ w.heap.size + 2; omega) (.int .i64 b.up.win))
  have HO3 : Hid (OwnL _ w.heap.size (.slice (some ⟨g, 0, none⟩) b.up.ps.length b.up.ps.length) b.up.ps) := Lib.hid (row_off1 (j := 2) (c := w.heap.size + 2) (row_off1 (j := 1) (c := w.heap.size + 2) (row_off1 (j := 0) (c := w.heap.size + 2) HO.out (.slice (some ⟨g, 0, none⟩) b.up.ps.length b.up.ps.length) (fun b o s e => by cases e; omega)) (.int .i64 b.up.sel) (fun b o s e => by cases e; omega)) (.int .i64 b.up.win) (fun b o s e => by cases e; omega))
  have K03 : Hid (CW8 _ w.heap.size _ _ _ _ _ _ _ _) := cells_off (j := 2) (c := w.heap.size + 2) (cells_off (j := 1) (c := w.heap.size + 2) (cells_off (j := 0) (c := w.heap.size + 2) K0.out (.slice (some ⟨g, 0, none⟩) b.up.ps.length b.up.ps.length) (by omega)) (.int .i64 b.up.sel) (by omega)) (.int .i64 b.up.win) (by omega)
  have K13 : Hid (CW8 _ (w.heap.size + 1) _ _ _ _ _ _ _ _) := cells_off (j := 2) (c := w.heap.size + 2) (cells_off (j := 1) (c := w.heap.size + 2) (cells_off (j := 0) (c := w.heap.size + 2) K1.out (.slice (some ⟨g, 0, none⟩) b.up.ps.length b.up.ps.length) (by omega)) (.int .i64 b.up.sel) (by omega)) (.int .i64 b.up.win) (by omega)
  have K23 : Hid (CW8 _ (w.heap.size + 2) _ _ _ _ _ _ _ _) := ((CellsW.set K2.out 0 (.slice (some ⟨g, 0, none⟩) b.up.ps.length b.up.ps.length) (by simp)).set 1 (.int .i64 b.up.sel) (by simp)).set 2 (.int .i64 b.up.win) (by simp)
  have HZ3 : Hid (w.heap.size + 2 < (((w2.setCell ⟨w.heap.size + 2, 0, none⟩ (.slice (some ⟨g, 0, none⟩) b.up.ps.length b.up.ps.length)).setCell ⟨w.heap.size + 2, 1, none⟩ (.int .i64 b.up.sel)).setCell ⟨w.heap.size + 2, 2, none⟩ (.int .i64 b.up.win)).heap.size) := by
    have := HZ.out
    exact Lib.hid (by simpa [World.setCell] using this)
  clear HB HO K0 K1 K2 HZ
  go_wp2_with fail
  clear p0 p1 p2 p3 p4 p5 p6 p7 d0 d1 d2 e0 e1 e2
  obtain ⟨W3, hW3⟩ : ∃ W3, ((w2.setCell ⟨w.heap.size + 2, 0, none⟩ (.slice (some ⟨g, 0, none⟩) b.up.ps.length b.up.ps.length)).setCell ⟨w.heap.size + 2, 1, none⟩ (.int .i64 b.up.sel)).setCell ⟨w.heap.size + 2, 2, none⟩ (.int .i64 b.up.win) = W3 := ⟨_, rfl⟩
  rw [hW3] at HB3 HO3 K03 K13 K23 HZ3 ⊢
  clear hW3
  refine (to_sideO b.dn hm' a' c' W3 (HP'.out.kept HB3.out)).mono ?_
  rintro e w4 ⟨g', rfl, hg', ho', hb'⟩
  have HB4 := Lib.hid (HB3.out.trans (hb'.mono HB3.out.size))
  have HO4 := Lib.hid (row_kept HO3.out hb')
  have HO4' := Lib.hid (show OwnL w4 w.heap.size _ _ from row_weak ho' (Nat.le_of_lt (Nat.lt_of_le_of_lt (Nat.le_add_right _ 2) HZ3.out)))
  have HGG := Lib.hid (show g < g' from Nat.lt_of_lt_of_le (own_lt HO3.out _ _ _ rfl) hg')
  have HG' := Lib.hid (show w.heap.size + 2 < g' from Nat.lt_of_lt_of_le HZ3.out hg')
  have hg' := HG'.out
  have K04 : Hid (CW8 w4 w.heap.size _ _ _ _ _ _ _ _) := CellsW.kept K03.out hb'
  have K14 : Hid (CW8 w4 (w.heap.size + 1) _ _ _ _ _ _ _ _) := CellsW.kept K13.out hb'
  have K24 : Hid (CW8 w4 (w.heap.size + 2) _ _ _ _ _ _ _ _) := CellsW.kept K23.out hb'
  obtain ⟨⟨-, -, -, -, -, -, p6, p7⟩, -⟩ := K04.out.get
  obtain ⟨⟨d0, d1, d2, d3, d4, d5, d6, d7⟩, e0, e1, e2, e3, e4, e5, e6, e7⟩ := K24.out.get
  obtain ⟨⟨c0, c1, c2, c3, c4, c5, c6, c7⟩, f0, f1, f2, f3, f4, f5, f6, f7⟩ := K14.out.get
  clear HB3 HO3 K03 K13 K23 HZ3 K04 K14 K24 ho' hb'
  go_wp2
  refine bodyPost_ret (v := .agg #[.slice (some ⟨g, 0, none⟩) b.up.ps.length b.up.ps.length, .int .i64 b.up.sel, .int .i64 b.up.win, .slice (some ⟨g', 0, none⟩) b.dn.ps.length b.dn.ps.length, .int .i64 b.dn.sel, .int .i64 b.dn.win, .int .i64 b.mn, .int .i64 b.mx]) (by simp [results, Tryz.results71, go_sem, c0, c1, c2, c3, c4, c5, c6, c7]) rfl ⟨g, g', rfl, ?_, ?_, ?_, by omega, HGG.out⟩
  · repeat (refine row_off1 ?_ _ (fun b o s e => by cases e; omega))
    exact HO4.out
  · repeat (refine row_off1 ?_ _ (fun b o s e => by cases e; omega))
    exact HO4'.out
  · repeat (refine Below.setCell ?_ (by first | exact Nat.le_add_right w.heap.size 1 | exact Nat.le_add_right w.heap.size 2) _)
    exact HB4.out
def ToStO (s : St) (w : World) (e : Ending) (w' : World) : Prop := ∃ g g1 g2, e = .returned (stV s (some ⟨g, 0, none⟩) s.gs.length (some ⟨g1, 0, none⟩) s.bh.up.ps.length (some ⟨g2, 0, none⟩) s.bh.dn.ps.length) ∧ OwnG w' w.heap.size (.slice (some ⟨g, 0, none⟩) s.gs.length s.gs.length) s.gs ∧ OwnL w' w.heap.size (.slice (some ⟨g1, 0, none⟩) s.bh.up.ps.length s.bh.up.ps.length) s.bh.up.ps ∧ OwnL w' w.heap.size (.slice (some ⟨g2, 0, none⟩) s.bh.dn.ps.length s.bh.dn.ps.length) s.bh.dn.ps ∧ Below w.heap.size w w' ∧ w.heap.size ≤ g ∧ g < g1 ∧ g1 < g2
set_option maxHeartbeats 4000000 in
set_option maxRecDepth 20000 in
theorem to_setupO (s : St) (hs : s.small) (a : Option Addr) (c : Nat) (a1 : Option Addr) (c1 : Nat) (a2 : Option Addr) (c2 : Nat) (w : World) (h : Gls w a s.gs) (h1 : Pls w a1 s.bh.up.ps) (h2 : Pls w a2 s.bh.dn.ps) :
    Calls Tryz.prog 32 #[stV s a c a1 c1 a2 c2] w (ToStO s w) := by
  unfold stV
  obtain ⟨hs1, hs2, hs3, -⟩ := hs
  have HP0 := Lib.hid h
  have HP1 := Lib.hid h1
  have HP2 := Lib.hid h2
  clear h h1 h2
  go_enter Tryz.func32, Tryz.ntmps32
  go_wp2_with fail
  refine (to_rules s.rl _).mono ?_
  rintro e w2 ⟨rfl, hb⟩
  unfold rlV
  obtain ⟨k0, k1, k2, hB, hz⟩ := SdT.three_read hb
  have K0 : Hid (CW12 w2 w.heap.size _ _ _ _ _ _ _ _ _ _ _ _) := k0
  have K1 : Hid (CW12 w2 (w.heap.size + 1) _ _ _ _ _ _ _ _ _ _ _ _) := k1
  have K2 : Hid (CW12 w2 (w.heap.size + 2) _ _ _ _ _ _ _ _ _ _ _ _) := k2
  have HB := Lib.hid hB
  have HZ := Lib.hid hz
  clear k0 k1 k2 hB hz hb
  obtain ⟨⟨p0, p1, p2, p3, p4, p5, p6, p7, p8, p9, p10, p11⟩, -⟩ := K0.out.get
  obtain ⟨⟨d0, d1, d2, -, -, -, -, -, -, -, -, -⟩, e0, e1, e2, -, -, -, -, -, -, -, -, -⟩ := K2.out.get
  have HZn : Hid (w.heap.size + 2 < (((w2.setCell ⟨w.heap.size + 2, 0, none⟩ (.int .i64 s.rl.dl)).setCell ⟨w.heap.size + 2, 1, none⟩ (.int .i64 s.rl.fr)).setCell ⟨w.heap.size + 2, 2, none⟩ (.int .i64 s.rl.wi)).heap.size) := by
    have := HZ.out
    exact Lib.hid (by simpa [World.setCell] using this)
  have HBn := Lib.hid ((((HB.out).setCell (p := ⟨w.heap.size + 2, 0, none⟩) (by show w.heap.size ≤ w.heap.size + 2; omega) (.int .i64 s.rl.dl)).setCell (p := ⟨w.heap.size + 2, 1, none⟩) (by show w.heap.size ≤ w.heap.size + 2; omega) (.int .i64 s.rl.fr)).setCell (p := ⟨w.heap.size + 2, 2, none⟩) (by show w.heap.size ≤ w.heap.size + 2; omega) (.int .i64 s.rl.wi))
  have K0n : Hid (CW12 _ w.heap.size _ _ _ _ _ _ _ _ _ _ _ _) := SdT.cells_off (j := 2) (c := w.heap.size + 2) (SdT.cells_off (j := 1) (c := w.heap.size + 2) (SdT.cells_off (j := 0) (c := w.heap.size + 2) (K0.out) (.int .i64 s.rl.dl) (by omega)) (.int .i64 s.rl.fr) (by omega)) (.int .i64 s.rl.wi) (by omega)
  have K1n : Hid (CW12 _ (w.heap.size + 1) _ _ _ _ _ _ _ _ _ _ _ _) := SdT.cells_off (j := 2) (c := w.heap.size + 2) (SdT.cells_off (j := 1) (c := w.heap.size + 2) (SdT.cells_off (j := 0) (c := w.heap.size + 2) (K1.out) (.int .i64 s.rl.dl) (by omega)) (.int .i64 s.rl.fr) (by omega)) (.int .i64 s.rl.wi) (by omega)
  have K2n : Hid (CW12 _ (w.heap.size + 2) _ _ _ _ _ _ _ _ _ _ _ _) := ((CellsW.set K2.out 0 (.int .i64 s.rl.dl) (by simp)).set 1 (.int .i64 s.rl.fr) (by simp)).set 2 (.int .i64 s.rl.wi) (by simp)
  clear HB HZ K0 K1 K2 
  go_wp2_with fail
  clear p0 p1 p2 p3 p4 p5 p6 p7 p8 p9 p10 p11 d0 d1 d2 e0 e1 e2
  obtain ⟨W, hW⟩ : ∃ W, (((w2.setCell ⟨w.heap.size + 2, 0, none⟩ (.int .i64 s.rl.dl)).setCell ⟨w.heap.size + 2, 1, none⟩ (.int .i64 s.rl.fr)).setCell ⟨w.heap.size + 2, 2, none⟩ (.int .i64 s.rl.wi)) = W := ⟨_, rfl⟩
  rw [hW] at HBn HZn K0n K1n K2n  ⊢
  clear hW
  have HB := HBn
  clear HBn
  have HZ := HZn
  clear HZn
  have K0 := K0n
  clear K0n
  have K1 := K1n
  clear K1n
  have K2 := K2n
  clear K2n
  refine (to_goals s.gs a c W (HP0.out.kept HB.out) hs1).mono ?_
  rintro e w4 ⟨g, rfl, ho, hb⟩
  have HG := Lib.hid (show w.heap.size + 2 < g from Nat.lt_of_lt_of_le HZ.out ho.new.1)
  have O0 := Lib.hid (show OwnG w4 w.heap.size _ _ from row_weak ho (Nat.le_of_lt (Nat.lt_of_le_of_lt (Nat.le_add_right _ 2) HZ.out)))
  have HBn := Lib.hid (HB.out.trans (hb.mono HB.out.size))
  have HZn := Lib.hid (show w.heap.size + 2 < w4.heap.size from Nat.lt_of_lt_of_le HZ.out hb.size)
  have K0n : Hid (CW12 w4 w.heap.size _ _ _ _ _ _ _ _ _ _ _ _) := CellsW.kept K0.out hb
  have K1n : Hid (CW12 w4 (w.heap.size + 1) _ _ _ _ _ _ _ _ _ _ _ _) := CellsW.kept K1.out hb
  have K2n : Hid (CW12 w4 (w.heap.size + 2) _ _ _ _ _ _ _ _ _ _ _ _) := CellsW.kept K2.out hb
  clear HB HZ K0 K1 K2 
  have HB := HBn
  clear HBn
  have HZ := HZn
  clear HZn
  have K0 := K0n
  clear K0n
  have K1 := K1n
  clear K1n
  have K2 := K2n
  clear K2n
  clear hb ho
  have hg := HG.out
  obtain ⟨⟨p0, p1, p2, p3, p4, p5, p6, p7, p8, p9, p10, p11⟩, -⟩ := K0.out.get
  obtain ⟨⟨-, -, -, d3, -, -, -, -, -, -, -, -⟩, -, -, -, e3, -, -, -, -, -, -, -, -⟩ := K2.out.get
  have HZn : Hid (w.heap.size + 2 < (w4.setCell ⟨w.heap.size + 2, 3, none⟩ (.slice (some ⟨g, 0, none⟩) s.gs.length s.gs.length)).heap.size) := by
    have := HZ.out
    exact Lib.hid (by simpa [World.setCell] using this)
  have HBn := Lib.hid ((HB.out).setCell (p := ⟨w.heap.size + 2, 3, none⟩) (by show w.heap.size ≤ w.heap.size + 2; omega) (.slice (some ⟨g, 0, none⟩) s.gs.length s.gs.length))
  have K0n : Hid (CW12 _ w.heap.size _ _ _ _ _ _ _ _ _ _ _ _) := SdT.cells_off (j := 3) (c := w.heap.size + 2) (K0.out) (.slice (some ⟨g, 0, none⟩) s.gs.length s.gs.length) (by omega)
  have K1n : Hid (CW12 _ (w.heap.size + 1) _ _ _ _ _ _ _ _ _ _ _ _) := SdT.cells_off (j := 3) (c := w.heap.size + 2) (K1.out) (.slice (some ⟨g, 0, none⟩) s.gs.length s.gs.length) (by omega)
  have K2n : Hid (CW12 _ (w.heap.size + 2) _ _ _ _ _ _ _ _ _ _ _ _) := CellsW.set K2.out 3 (.slice (some ⟨g, 0, none⟩) s.gs.length s.gs.length) (by simp)
  have O0n : Hid (OwnG _ w.heap.size (.slice (some ⟨g, 0, none⟩) s.gs.length s.gs.length) s.gs) := Lib.hid (row_off1 (j := 3) (c := w.heap.size + 2) (O0.out) (.slice (some ⟨g, 0, none⟩) s.gs.length s.gs.length) (fun b o s e => by cases e; omega))
  clear HB HZ K0 K1 K2 O0
  go_wp2_with fail
  clear p0 p1 p2 p3 p4 p5 p6 p7 p8 p9 p10 p11 d3 e3
  obtain ⟨W, hW⟩ : ∃ W, (w4.setCell ⟨w.heap.size + 2, 3, none⟩ (.slice (some ⟨g, 0, none⟩) s.gs.length s.gs.length)) = W := ⟨_, rfl⟩
  rw [hW] at HBn HZn K0n K1n K2n O0n ⊢
  clear hW
  have HB := HBn
  clear HBn
  have HZ := HZn
  clear HZn
  have K0 := K0n
  clear K0n
  have K1 := K1n
  clear K1n
  have K2 := K2n
  clear K2n
  have O0 := O0n
  clear O0n
  refine (to_behaveO s.bh hs2 hs3 a1 c1 a2 c2 W (HP1.out.kept HB.out) (HP2.out.kept HB.out)).mono ?_
  rintro e w4 ⟨g1, g2, rfl, ho, ho2, hb, hg1, hg2⟩
  have O1 := Lib.hid (show OwnL w4 w.heap.size _ _ from row_weak ho (Nat.le_of_lt (Nat.lt_of_le_of_lt (Nat.le_add_right _ 2) HZ.out)))
  have O2 := Lib.hid (show OwnL w4 w.heap.size _ _ from row_weak ho2 (Nat.le_of_lt (Nat.lt_of_le_of_lt (Nat.le_add_right _ 2) HZ.out)))
  have HGG := Lib.hid (show g < g1 from Nat.lt_of_lt_of_le (own_lt O0.out _ _ _ rfl) hg1)
  have HGH := Lib.hid hg2
  have hg1 := Nat.lt_of_lt_of_le HZ.out hg1
  have hg2 := Nat.lt_trans hg1 hg2
  have HBn := Lib.hid (HB.out.trans (hb.mono HB.out.size))
  have HZn := Lib.hid (show w.heap.size + 2 < w4.heap.size from Nat.lt_of_lt_of_le HZ.out hb.size)
  have K0n : Hid (CW12 w4 w.heap.size _ _ _ _ _ _ _ _ _ _ _ _) := CellsW.kept K0.out hb
  have K1n : Hid (CW12 w4 (w.heap.size + 1) _ _ _ _ _ _ _ _ _ _ _ _) := CellsW.kept K1.out hb
  have K2n : Hid (CW12 w4 (w.heap.size + 2) _ _ _ _ _ _ _ _ _ _ _ _) := CellsW.kept K2.out hb
  have O0n : Hid (OwnG w4 w.heap.size (.slice (some ⟨g, 0, none⟩) s.gs.length s.gs.length) s.gs) := Lib.hid (row_kept O0.out hb)
  clear HB HZ K0 K1 K2 O0
  have HB := HBn
  clear HBn
  have HZ := HZn
  clear HZn
  have K0 := K0n
  clear K0n
  have K1 := K1n
  clear K1n
  have K2 := K2n
  clear K2n
  have O0 := O0n
  clear O0n
  clear hb ho ho2
  obtain ⟨⟨d0, d1, d2, d3, d4, d5, d6, d7, d8, d9, d10, d11⟩, e0, e1, e2, e3, e4, e5, e6, e7, e8, e9, e10, e11⟩ := K2.out.get
  obtain ⟨⟨c0, c1, c2, c3, c4, c5, c6, c7, c8, c9, c10, c11⟩, f0, f1, f2, f3, f4, f5, f6, f7, f8, f9, f10, f11⟩ := K1.out.get
  clear K0 K1 K2 HZ
  go_wp2
  refine bodyPost_ret (v := .agg #[.int .i64 s.rl.dl, .int .i64 s.rl.fr, .int .i64 s.rl.wi, .slice (some ⟨g, 0, none⟩) s.gs.length s.gs.length, .slice (some ⟨g1, 0, none⟩) s.bh.up.ps.length s.bh.up.ps.length, .int .i64 s.bh.up.sel, .int .i64 s.bh.up.win, .slice (some ⟨g2, 0, none⟩) s.bh.dn.ps.length s.bh.dn.ps.length, .int .i64 s.bh.dn.sel, .int .i64 s.bh.dn.win, .int .i64 s.bh.mn, .int .i64 s.bh.mx]) (by simp [results, Tryz.results32, go_sem, c0, c1, c2, c3, c4, c5, c6, c7, c8, c9, c10, c11]) rfl ⟨g, g1, g2, rfl, ?_, ?_, ?_, ?_, Nat.le_trans (Nat.le_add_right _ 2) (Nat.le_of_lt HG.out), HGG.out, HGH.out⟩
  · repeat (refine row_off1 ?_ _ (fun b o s e => by cases e; omega))
    exact O0.out
  · repeat (refine row_off1 ?_ _ (fun b o s e => by cases e; omega))
    exact O1.out
  · repeat (refine row_off1 ?_ _ (fun b o s e => by cases e; omega))
    exact O2.out
  · repeat (refine Below.setCell ?_ (by first | exact Nat.le_add_right w.heap.size 1 | exact Nat.le_add_right w.heap.size 2) _)
    exact HB.out
end Go.Proofs.YtgmdfkmmbcpikaaGreat.To
