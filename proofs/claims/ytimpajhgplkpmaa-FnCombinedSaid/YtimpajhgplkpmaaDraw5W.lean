/- Chapter 5's draw of a tally, a goal and a count. -/
import Derived.Test.YtimpajhgplkpmaaDraw5
import Derived.Deep.RegionHeld3
import Derived.Deep.Cut
namespace Go.Proofs.Ytimpajhgplkpmaa.Draw5W
open Go.RowKit Go.Deep
open Go.Proofs.Ytimpajhgplkpmaa.C1 Go.Proofs.Ytimpajhgplkpmaa.Ints Go.Proofs.Ytimpajhgplkpmaa.Draw Go.Proofs.Ytimpajhgplkpmaa.Draw5
open Go.Proofs.Ytimpajhgplkpmaa.Mem (CellsW)
open Go.Proofs.Ytimpajhgplkpmaa.Gl
open Go.Proofs.Ytimpajhgplkpmaa.C2 (box_below)
open Go.Proofs.Ytimpajhgplkpmaa.Bd (cells_new cells3 cells4 box2_cells)
open Go.Proofs.Ytimpajhgplkpmaa.Rf (CellsW.off)
set_option linter.unusedVariables false

theorem cellsF4 {w : World} {g : Nat} {a b c d : Value} (h : CellsW w g [a, b, c, d]) : w.frozen? ⟨g, 0, none⟩ = false ∧ w.frozen? ⟨g, 1, none⟩ = false ∧ w.frozen? ⟨g, 2, none⟩ = false ∧ w.frozen? ⟨g, 3, none⟩ = false :=
  ⟨(h.2 0 (by simp)).2, (h.2 1 (by simp)).2, (h.2 2 (by simp)).2, (h.2 3 (by simp)).2⟩
theorem cellsF3 {w : World} {g : Nat} {a b c : Value} (h : CellsW w g [a, b, c]) : w.frozen? ⟨g, 0, none⟩ = false ∧ w.frozen? ⟨g, 1, none⟩ = false ∧ w.frozen? ⟨g, 2, none⟩ = false :=
  ⟨(h.2 0 (by simp)).2, (h.2 1 (by simp)).2, (h.2 2 (by simp)).2⟩
theorem set4 {w : World} {b : Nat} {u0 u1 u2 u3 : Value} (h : CellsW w b [u0, u1, u2, u3]) (v0 v1 v2 v3 : Value) :
    CellsW ((((w.setCell ⟨b, 0, none⟩ v0).setCell ⟨b, 1, none⟩ v1).setCell ⟨b, 2, none⟩ v2).setCell ⟨b, 3, none⟩ v3) b [v0, v1, v2, v3] :=
  (((h.set 0 v0 (by simp)).set 1 v1 (by simp)).set 2 v2 (by simp)).set 3 v3 (by simp)
theorem set3 {w : World} {b : Nat} {u0 u1 u2 : Value} (h : CellsW w b [u0, u1, u2]) (v0 v1 v2 : Value) :
    CellsW (((w.setCell ⟨b, 0, none⟩ v0).setCell ⟨b, 1, none⟩ v1).setCell ⟨b, 2, none⟩ v2) b [v0, v1, v2] :=
  ((h.set 0 v0 (by simp)).set 1 v1 (by simp)).set 2 v2 (by simp)
theorem off4 {w : World} {g b : Nat} {vs : List Value} (h : CellsW w g vs) (hne : g ≠ b) (v0 v1 v2 v3 : Value) :
    CellsW ((((w.setCell ⟨b, 0, none⟩ v0).setCell ⟨b, 1, none⟩ v1).setCell ⟨b, 2, none⟩ v2).setCell ⟨b, 3, none⟩ v3) g vs :=
  CellsW.off (CellsW.off (CellsW.off (CellsW.off h v0 hne) v1 hne) v2 hne) v3 hne
theorem off3 {w : World} {g b : Nat} {vs : List Value} (h : CellsW w g vs) (hne : g ≠ b) (v0 v1 v2 : Value) :
    CellsW (((w.setCell ⟨b, 0, none⟩ v0).setCell ⟨b, 1, none⟩ v1).setCell ⟨b, 2, none⟩ v2) g vs :=
  CellsW.off (CellsW.off (CellsW.off h v0 hne) v1 hne) v2 hne
theorem bel4 {a w : World} {B b : Nat} (h : Below B a w) (hb : B ≤ b) (v0 v1 v2 v3 : Value) :
    Below B a ((((w.setCell ⟨b, 0, none⟩ v0).setCell ⟨b, 1, none⟩ v1).setCell ⟨b, 2, none⟩ v2).setCell ⟨b, 3, none⟩ v3) :=
  (((h.setCell (p := ⟨b, 0, none⟩) hb _).setCell (p := ⟨b, 1, none⟩) hb _).setCell (p := ⟨b, 2, none⟩) hb _).setCell (p := ⟨b, 3, none⟩) hb _
theorem bel3 {a w : World} {B b : Nat} (h : Below B a w) (hb : B ≤ b) (v0 v1 v2 : Value) :
    Below B a (((w.setCell ⟨b, 0, none⟩ v0).setCell ⟨b, 1, none⟩ v1).setCell ⟨b, 2, none⟩ v2) :=
  ((h.setCell (p := ⟨b, 0, none⟩) hb _).setCell (p := ⟨b, 1, none⟩) hb _).setCell (p := ⟨b, 2, none⟩) hb _
theorem ret_want {fn : Func} (hr : fn.results = #[.tmp 2, .cell 3 25, .cell 4 27]) {W : World} {p q : Nat} {t : Ty} {g : Gl} {k : Int} {tmps : Array Value} (h : CellsW W p [.int .i64 t.rdy, .int .i64 t.unr, .int .i64 t.mis, .int .i64 t.sum]) (h' : CellsW W q [.string g.met, .int .i64 g.tar, .int .i64 g.tol])
    (h2 : tmps.getD 2 undef = .int .i64 k) (h3 : tmps.getD 3 undef = .pointer (some ⟨p, 0, none⟩)) (h4 : tmps.getD 4 undef = .pointer (some ⟨q, 0, none⟩)) :
    (results fn tmps).run Try.prog W = .ok (.tuple #[.int .i64 k, tyV t, glV g]) W := by
  obtain ⟨c0, c1, c2, c3⟩ := cells4 h
  obtain ⟨e0, e1, e2⟩ := cells3 h'
  have p2 : tmps[2]?.getD undef = .int .i64 k := by simpa using h2
  have p3 : tmps[3]?.getD undef = .pointer (some ⟨p, 0, none⟩) := by simpa using h3
  have p4 : tmps[4]?.getD undef = .pointer (some ⟨q, 0, none⟩) := by simpa using h4
  simp [results, hr, p2, p3, p4, asAddr, go_sem, c0, c1, c2, c3, e0, e1, e2, glV, tyV]
def TyB (t : Ty) : Prop := (-1 ≤ t.rdy ∧ t.rdy ≤ 13) ∧ (0 ≤ t.unr ∧ t.unr ≤ 2) ∧ (-1 ≤ t.mis ∧ t.mis ≤ 13) ∧ (-1 ≤ t.sum ∧ t.sum ≤ 1000000001)
def GlB (g : Gl) : Prop := g.met.size ≤ 12 ∧ (-1 ≤ g.tar ∧ g.tar ≤ 1000001) ∧ (-1 ≤ g.tol ∧ g.tol ≤ 1001)
set_option maxRecDepth 100000 in
set_option maxHeartbeats 8000000 in
theorem draw_want (a : Option Addr) (n cap : Nat) (w : World) (hb : BytesAt w a n) (hn : n ≤ 2097152) :
    Calls Try.prog 13 #[.slice a n cap] w fun e w' => ∃ (k : Int) (t : Ty) (g : Gl), ((-2 ≤ k ∧ k ≤ 1001) ∧ TyB t ∧ GlB g) ∧ e = .returned (.tuple #[.int .i64 k, tyV t, glV g]) ∧ Below w.heap.size w w' := by
  have hbx := ((Below.refl w.heap.size w).alloc (Nat.le_refl _) (.cells #[.int .i64 0, .int .i64 0, .int .i64 0, .int .i64 0] 25)).alloc (by simp) (.cells #[.string ⟨#[]⟩, .int .i64 0, .int .i64 0] 27)
  obtain ⟨hz, hz'⟩ := box2_cells w #[.int .i64 0, .int .i64 0, .int .i64 0, .int .i64 0] #[.string ⟨#[]⟩, .int .i64 0, .int .i64 0] 25 27
  have Hb := Lib.hid (hb.kept hbx)
  have HB := Lib.hid hbx
  have HZ := Lib.hid hz
  have HG := Lib.hid hz'
  obtain ⟨W0, hW0⟩ : ∃ W0, (w.alloc (.cells #[.int .i64 0, .int .i64 0, .int .i64 0, .int .i64 0] 25)).alloc (.cells #[.string ⟨#[]⟩, .int .i64 0, .int .i64 0] 27) = W0 := ⟨_, rfl⟩
  have hS : W0.heap.size = w.heap.size + 2 := by rw [← hW0]; simp
  rw [hW0] at Hb HB HZ HG
  have HW0 := Lib.hid hW0
  clear hb hbx hz hz' hW0
  go_enter Try.func13, Try.ntmps13
  go_wp2_with fail
  rw [HW0.out]
  refine (new_cur a n cap W0 Hb.out hn).mono ?_
  rintro e w0 ⟨c, rfl, hc, hC0, hB0⟩
  have HC0 := Lib.hid hC0
  have HZ0 := Lib.hid (HZ.out.kept hB0)
  have HG0 := Lib.hid (HG.out.kept hB0)
  have HB0 := Lib.hid (HB.out.trans (hB0.mono (by omega)))
  clear hC0 hB0 Hb HB HZ HG HW0
  go_wp2_with fail
  refine (draw_tally c _ HC0.out).mono ?_
  rintro e w1 ⟨t, ht, rfl, hC1, hT1⟩
  have HTB : Hid (TyB t) := Lib.hid ht
  have HZ1 := Lib.hid (CellsW.touch HZ0.out hT1 (by omega))
  have HG1 := Lib.hid (CellsW.touch HG0.out hT1 (by omega))
  have HB1 := Lib.hid (HB0.out.trans (hT1.below (by omega) HB0.out.size))
  have HC1 := Lib.hid hC1
  clear hT1 hC1 ht HC0 HZ0 HG0 HB0
  have ht := HTB.out
  unfold TyB at ht
  obtain ⟨⟨r1, r2⟩, ⟨u1, u2⟩, ⟨m1, m2⟩, s1, s2⟩ := ht
  unfold tyV
  have hbx := box_below w1 #[.int .i64 t.rdy, .int .i64 t.unr, .int .i64 t.mis, .int .i64 t.sum] 25
  have HR := Lib.hid (cells_new w1 #[.int .i64 t.rdy, .int .i64 t.unr, .int .i64 t.mis, .int .i64 t.sum] 25)
  have HC2 := Lib.hid (HC1.out.alloc (.cells #[.int .i64 t.rdy, .int .i64 t.unr, .int .i64 t.mis, .int .i64 t.sum] 25))
  have HZ2 := Lib.hid (HZ1.out.kept hbx)
  have HG2 := Lib.hid (HG1.out.kept hbx)
  have HB2 := Lib.hid (HB1.out.trans (hbx.mono HB1.out.size))
  have hclt := HC1.out.lt
  obtain ⟨b, hb⟩ : ∃ b, w1.heap.size = b := ⟨_, rfl⟩
  obtain ⟨W6, hW6⟩ : ∃ W6, w1.alloc (.cells #[.int .i64 t.rdy, .int .i64 t.unr, .int .i64 t.mis, .int .i64 t.sum] 25) = W6 := ⟨_, rfl⟩
  rw [hW6] at HR HC2 HZ2 HG2 HB2
  rw [hb] at HR hclt
  have HW := Lib.hid hW6
  have HBb := Lib.hid hb
  have HTc := Lib.hid ((Touched.refl c W6).trans (Touched.of_below (c := c) ((Below.refl W6.heap.size W6).drew)))
  have HCc : Hid (Cur W6.drew c) := Lib.hid (HC2.out.kept ((Below.refl W6.heap.size W6).drew))
  have HK : Hid (∀ W, Hid (Touched c W6 W) → (W.cell? ⟨b, 0, none⟩ = some (.int .i64 t.rdy) ∧ W.cell? ⟨b, 1, none⟩ = some (.int .i64 t.unr) ∧ W.cell? ⟨b, 2, none⟩ = some (.int .i64 t.mis) ∧ W.cell? ⟨b, 3, none⟩ = some (.int .i64 t.sum))) := fun W h => cells4 (CellsW.touch HR.out h.out (by omega))
  have HKR : Hid (∀ W, Hid (Touched c W6 W) → Hid (CellsW W b [.int .i64 t.rdy, .int .i64 t.unr, .int .i64 t.mis, .int .i64 t.sum])) := fun W h => Lib.hid (CellsW.touch HR.out h.out (by omega))
  have HKZ : Hid (∀ W, Hid (Touched c W6 W) → Hid (CellsW W w.heap.size [.int .i64 0, .int .i64 0, .int .i64 0, .int .i64 0])) := fun W h => Lib.hid (CellsW.touch HZ2.out h.out (by omega))
  have HKG : Hid (∀ W, Hid (Touched c W6 W) → Hid (CellsW W (w.heap.size + 1) [.string ⟨#[]⟩, .int .i64 0, .int .i64 0])) := fun W h => Lib.hid (CellsW.touch HG2.out h.out (by omega))
  have hbw : w.heap.size + 2 ≤ b := by omega
  clear hbx hb hW6 HC1 HZ1 HG1 HB1 HR HZ2 HG2 HC2
  have hs1 : IntKind.i64.wrap (t.rdy + t.unr) = t.rdy + t.unr := by rw [IntKind.wrap_i64]; omega
  have hs2 : IntKind.i64.wrap (t.rdy + t.unr + t.mis) = t.rdy + t.unr + t.mis := by rw [IntKind.wrap_i64]; omega
  have HFst : Hid True := Lib.hid trivial
  go_upto_region 3 with fail
  rw [HW.out, HBb.out]
  go_region_held3 (fun w' => w'.cell? ⟨b, 0, none⟩ = some (.int .i64 t.rdy) ∧ w'.cell? ⟨b, 1, none⟩ = some (.int .i64 t.unr) ∧ w'.cell? ⟨b, 2, none⟩ = some (.int .i64 t.mis) ∧ w'.cell? ⟨b, 3, none⟩ = some (.int .i64 t.sum))
    (with_reducible (first | exact HK.out _ HTc | exact HK.out _ (Lib.hid (HTc.out.alloc _)) | exact cells4 (off4 (HKR.out _ HTc).out (by omega) _ _ _ _) | exact cells4 (off3 (HKR.out _ HTc).out (by omega) _ _ _) | exact cells4 (off3 (off4 (HKR.out _ HTc).out (by omega) _ _ _ _) (by omega) _ _ _) | exact cells4 (off4 (off3 (HKR.out _ HTc).out (by omega) _ _ _) (by omega) _ _ _ _)))
    (first
      | (go_at_call 51; clear HFst; refine (below_n c _ (by omega) (by omega) _ HCc.out).mono ?_; rintro e w2 ⟨x, x1, x2, rfl, hC, hT⟩; have HTc := Lib.hid (HTc.out.trans hT); have HCc := Lib.hid hC; clear hC hT)
      | (go_at_call 51; refine (below_n c _ (by omega) (by omega) _ HCc.out).mono ?_; rintro e w3 ⟨y, y1, y2, rfl, hC, hT⟩; have HTc := Lib.hid (HTc.out.trans hT); have HCc := Lib.hid hC; clear hC hT)
      | (go_at_call 50; refine (pick_new c [t.rdy + t.unr + t.mis, x, y, 0, 1000, 1001, -1] 7 rfl _ _ HCc.out rfl (by omega) (by omega) (-2) 1001 (by intro v hv; simp at hv; omega)).mono ?_; rintro e w4 ⟨k, k1', k2', rfl, hC, hT⟩; have HTc := Lib.hid (HTc.out.trans hT); have HCc := Lib.hid hC; clear hC hT)
      | (go_at_call 52; refine (loose_goal c _ HCc.out).mono ?_; rintro e w5 ⟨g, hg, rfl, hC, hT⟩; unfold glV; have HGB : Hid (GlB g) := Lib.hid hg; have HTc := Lib.hid (HTc.out.trans hT); have HCc := Lib.hid hC; obtain ⟨z0, z1, z2, z3⟩ := cells4 (HKZ.out _ HTc).out; obtain ⟨y0, y1, y2⟩ := cells3 (HKG.out _ HTc).out; obtain ⟨f0, f1, f2, f3⟩ := cellsF4 (HKZ.out _ HTc).out; obtain ⟨g0, g1, g2⟩ := cellsF3 (HKG.out _ HTc).out; clear hC hT hg))
  have HBF := Lib.hid (HB2.out.trans (HTc.out.below (by omega) HB2.out.size))
  have HZ9 := HKZ.out _ HTc
  have HG9 := HKG.out _ HTc
  have k1 := Lib.hid (off3 (set4 HZ9.out (.int .i64 t.rdy) (.int .i64 t.unr) (.int .i64 t.mis) (.int .i64 t.sum)) (show w.heap.size ≠ w.heap.size + 1 by omega) (.string g.met) (.int .i64 g.tar) (.int .i64 g.tol))
  have k2 := Lib.hid (set3 (off4 HG9.out (show w.heap.size + 1 ≠ w.heap.size by omega) (.int .i64 t.rdy) (.int .i64 t.unr) (.int .i64 t.mis) (.int .i64 t.sum)) (.string g.met) (.int .i64 g.tar) (.int .i64 g.tol))
  have k3 := Lib.hid (bel3 (bel4 HBF.out (Nat.le_refl _) (.int .i64 t.rdy) (.int .i64 t.unr) (.int .i64 t.mis) (.int .i64 t.sum)) (show w.heap.size ≤ w.heap.size + 1 by omega) (.string g.met) (.int .i64 g.tar) (.int .i64 g.tol))
  clear z0 z1 z2 z3 y0 y1 y2 f0 f1 f2 f3 g0 g1 g2 HK HKR HKZ HKG HZ9 HG9 HW
  go_wp2
  exact bodyPost_ret (ret_want rfl k1.out k2.out rfl rfl rfl) rfl ⟨k, t, g, ⟨⟨k1', k2'⟩, HTB.out, HGB.out⟩, rfl, k3.out⟩
end Go.Proofs.Ytimpajhgplkpmaa.Draw5W
