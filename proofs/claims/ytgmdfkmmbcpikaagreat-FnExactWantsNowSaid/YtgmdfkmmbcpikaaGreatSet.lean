/- Setups (rules, goals, a behaviour; twelve cells): how they lie, how such arguments are opened; sizes, copies, comparisons of equals. -/
import Derived.Test.YtgmdfkmmbcpikaaGreatGls
import Derived.Test.YtgmdfkmmbcpikaaGreatSdT
namespace Go.Proofs.YtgmdfkmmbcpikaaGreat.Set
open Go.RowKit Go.Deep
open Go.ChangeShapes Go.WideShapes
open Go.Proofs.YtgmdfkmmbcpikaaGreat.C1
open Go.Proofs.YtgmdfkmmbcpikaaGreat.C2
open Go.Proofs.YtgmdfkmmbcpikaaGreat.Smps
open Go.Proofs.YtgmdfkmmbcpikaaGreat.Mem
open Go.Proofs.YtgmdfkmmbcpikaaGreat.Pd
open Go.Proofs.YtgmdfkmmbcpikaaGreat.Gl
open Go.Proofs.YtgmdfkmmbcpikaaGreat.Gls
open Go.Proofs.YtgmdfkmmbcpikaaGreat.Pl
open Go.Proofs.YtgmdfkmmbcpikaaGreat.Ser2 (cells_new)
set_option linter.unusedVariables false

structure St where
  rl : Rl
  gs : List Gl
  bh : Bh
structure St.wf (s : St) : Prop where
  rl : s.rl.wf
  len : s.gs.length ≤ maxLen
  gs : ∀ g ∈ s.gs, g.wf
  bh : s.bh.wf
def stV (s : St) (a : Option Addr) (c : Nat) (a1 : Option Addr) (c1 : Nat) (a2 : Option Addr) (c2 : Nat) : Value := .agg #[.int .i64 s.rl.dl, .int .i64 s.rl.fr, .int .i64 s.rl.wi, .slice a s.gs.length c, .slice a1 s.bh.up.ps.length c1, .int .i64 s.bh.up.sel, .int .i64 s.bh.up.win, .slice a2 s.bh.dn.ps.length c2, .int .i64 s.bh.dn.sel, .int .i64 s.bh.dn.win, .int .i64 s.bh.mn, .int .i64 s.bh.mx]
section
variable {H : Type} {enc : TypeId × Value → H} {P : Program} {w : World} {base : Nat} {spare : Nat → Bool} {held : Bool}
def IsSt (w : World) (v : Value) (s : St) (a : Option Addr) (c : Nat) (a1 : Option Addr) (c1 : Nat) (a2 : Option Addr) (c2 : Nat) : Prop := v = stV s a c a1 c1 a2 c2 ∧ s.wf ∧ Gls w a s.gs ∧ Pls w a1 s.bh.up.ps ∧ Pls w a2 s.bh.dn.ps
theorem array12 {α : Type} {cs : Array α} (h : cs.size = 12) : ∃ v0 v1 v2 v3 v4 v5 v6 v7 v8 v9 v10 v11, cs = #[v0, v1, v2, v3, v4, v5, v6, v7, v8, v9, v10, v11] := by
  obtain ⟨l⟩ := cs
  match l, h with
  | [v0, v1, v2, v3, v4, v5, v6, v7, v8, v9, v10, v11], _ => exact ⟨v0, v1, v2, v3, v4, v5, v6, v7, v8, v9, v10, v11, rfl⟩
theorem open_behave_cells {fuel : Nat} {tb ts : TypeId} {q0 q1 q2 q3 s0 s1 s2 : Field} {x : DataW H × List MemPlace} (hb : P.underlying tb = some (.struct #[q0, q1, q2, q3]))
    (hbo : q0.offset = 0 ∧ q1.offset = 3 ∧ q2.offset = 6 ∧ q3.offset = 7) {tp e ti : TypeId} (hbt : q0.type = ts ∧ q1.type = ts ∧ q2.type = ti ∧ q3.type = ti) (hi1 : P.cellsOf ti = 1)
    (hs : P.underlying ts = some (.struct #[s0, s1, s2])) (hsone : oneCellFields P #[s0, s1, s2] = true) (hsC : P.cellsOf ts = 3)
    {f0 f1 f2 : Field} (hst : s0.type = tp ∧ s1.type = ti ∧ s2.type = ti) (htp : P.underlying tp = some (.slice e)) (he : P.underlying e = some (.struct #[f0, f1, f2]))
    (hone : oneCellFields P #[f0, f1, f2] = true) (hC : P.cellsOf e = 3) (hf : f0.type = ti ∧ f1.type = ti ∧ f2.type = ti) (hti : P.underlying ti = some (.int .i64))
    {c0 c1 c2 c3 c4 c5 c6 c7 : Value} (h : DataW.trod enc P w base (fun _ => true) held fuel tb [c0, c1, c2, c3, c4, c5, c6, c7] = some x) :
    ∃ (b : Bh) (a : Option Addr) (c : Nat) (a' : Option Addr) (c' : Nat), b.wf ∧ c0 = .slice a b.up.ps.length c ∧ c1 = .int .i64 b.up.sel ∧ c2 = .int .i64 b.up.win ∧ c3 = .slice a' b.dn.ps.length c' ∧ c4 = .int .i64 b.dn.sel ∧ c5 = .int .i64 b.dn.win ∧ c6 = .int .i64 b.mn ∧ c7 = .int .i64 b.mx ∧ Pls w a b.up.ps ∧ Pls w a' b.dn.ps := by
  obtain ⟨y0, y1, y2, y3, n, _, _, g0, g1, g2, g3⟩ := Go.Joins.trod_struct4 hb h
  rw [hbo.1, hbt.1, hsC] at g0
  rw [hbo.2.1, hbt.2.1, hsC] at g1
  rw [hbo.2.2.1, hbt.2.2.1, hi1] at g2
  rw [hbo.2.2.2, hbt.2.2.2, hi1] at g3
  simp at g0 g1 g2 g3
  obtain ⟨s, a, c, hw, e0, e1, e2, hp⟩ := open_side_cells hs hsone hst htp he hone hC hf hti g0
  obtain ⟨s', a', c', hw', e0', e1', e2', hp'⟩ := open_side_cells hs hsone hst htp he hone hC hf hti g1
  obtain ⟨mn, e3, _, u3⟩ := DataW.trod_int hti g2
  obtain ⟨mx, e4, _, u4⟩ := DataW.trod_int hti g3
  simp at e3 e4
  subst e0 e1 e2 e0' e1' e2' e3 e4
  exact ⟨⟨s, s', mn, mx⟩, a, c, a', c', ⟨hw, hw', bounds_i64 u3, bounds_i64 u4⟩, rfl, rfl, rfl, rfl, rfl, rfl, rfl, rfl, hp, hp'⟩
theorem open_setup {r : Reach} {b0 : Nat} {tt tr tg tb ts : TypeId} {t0 t1 t2 r0 r1 r2 q0 q1 q2 q3 s0 s1 s2 h0 h1 h2 : Field} {v : Value} {d : DataW H} {p : List MemPlace} (ht : P.underlying tt = some (.struct #[t0, t1, t2])) (htC : P.cellsOf tt = 12)
    (hto : t0.offset = 0 ∧ t1.offset = 3 ∧ t2.offset = 4) (htt : t0.type = tr ∧ t1.type = tg ∧ t2.type = tb) (hg1 : P.cellsOf tg = 1) (hb8 : P.cellsOf tb = 8)
    {tp e ti ge tS : TypeId} (hr : P.underlying tr = some (.struct #[r0, r1, r2])) (hrone : oneCellFields P #[r0, r1, r2] = true) (hrC : P.cellsOf tr = 3) (hrt : r0.type = ti ∧ r1.type = ti ∧ r2.type = ti)
    (hg : P.underlying tg = some (.slice ge)) (hge : P.underlying ge = some (.struct #[h0, h1, h2])) (hgone : oneCellFields P #[h0, h1, h2] = true) (hgC : P.cellsOf ge = 3) (hgt : h0.type = tS ∧ h1.type = ti ∧ h2.type = ti) (htS : P.underlying tS = some .string)
    (hb : P.underlying tb = some (.struct #[q0, q1, q2, q3])) (hbo : q0.offset = 0 ∧ q1.offset = 3 ∧ q2.offset = 6 ∧ q3.offset = 7) (hbt : q0.type = ts ∧ q1.type = ts ∧ q2.type = ti ∧ q3.type = ti) (hi1 : P.cellsOf ti = 1)
    (hs : P.underlying ts = some (.struct #[s0, s1, s2])) (hsone : oneCellFields P #[s0, s1, s2] = true) (hsC : P.cellsOf ts = 3)
    {f0 f1 f2 : Field} (hst : s0.type = tp ∧ s1.type = ti ∧ s2.type = ti) (htp : P.underlying tp = some (.slice e)) (he : P.underlying e = some (.struct #[f0, f1, f2]))
    (hone : oneCellFields P #[f0, f1, f2] = true) (hC : P.cellsOf e = 3) (hf : f0.type = ti ∧ f1.type = ti ∧ f2.type = ti) (hti : P.underlying ti = some (.int .i64))
    (hv : Value.okWide P w r b0 tt v) (h : DataW.Trod enc P w base (fun _ => true) held tt v d p) : ∃ s a c a1 c1 a2 c2, IsSt w v s a c a1 c1 a2 c2 := by
  obtain ⟨cs, rfl, hsz⟩ := okWide_struct ht hv
  obtain ⟨v0, v1, v2, v3, v4, v5, v6, v7, v8, v9, v10, v11, rfl⟩ := array12 (hsz.trans htC)
  obtain ⟨fuel, hfu⟩ := h
  obtain ⟨y0, y1, y2, n, _, _, g0, g1, g2⟩ := trod_struct3 ht hfu
  rw [hto.1, htt.1, hrC] at g0
  rw [hto.2.1, htt.2.1, hg1] at g1
  rw [hto.2.2, htt.2.2, hb8] at g2
  simp [Value.cells] at g0 g1 g2
  obtain ⟨z0, z1, z2, n', _, _, k0, k1, k2⟩ := trod_struct3 hr g0
  obtain ⟨o0, l0⟩ := hone_of hrone 0 r0 rfl
  obtain ⟨o1, l1⟩ := hone_of hrone 1 r1 rfl
  obtain ⟨o2, l2⟩ := hone_of hrone 2 r2 rfl
  rw [o0, l0, hrt.1] at k0
  rw [o1, l1, hrt.2.1] at k1
  rw [o2, l2, hrt.2.2] at k2
  obtain ⟨dl, e0, _, u0⟩ := DataW.trod_int hti k0
  obtain ⟨fr, e1, _, u1⟩ := DataW.trod_int hti k1
  obtain ⟨wi, e2, _, u2⟩ := DataW.trod_int hti k2
  simp at e0 e1 e2
  obtain ⟨ga, glen, gcap, gs, e3, gl, gm, gw, gp⟩ := open_gls hg hge hgone hgC hgt htS hti g1
  obtain ⟨b, a, c, a', c', hw, e4, e5, e6, e7, e8, e9, e10, e11, hp, hp'⟩ := open_behave_cells hb hbo hbt hi1 hs hsone hsC hst htp he hone hC hf hti g2
  subst e0 e1 e2 e3 e4 e5 e6 e7 e8 e9 e10 e11 gl
  exact ⟨⟨⟨dl, fr, wi⟩, gs, b⟩, ga, gcap, a, c, a', c', rfl, ⟨⟨bounds_i64 u0, bounds_i64 u1, bounds_i64 u2⟩, gm, gw, hw⟩, gp, hp, hp'⟩
end
def CW12 (w : World) (g : Nat) (v0 v1 v2 v3 v4 v5 v6 v7 v8 v9 v10 v11 : Value) : Prop := CellsW w g [v0, v1, v2, v3, v4, v5, v6, v7, v8, v9, v10, v11]
theorem CW12.get {w : World} {g : Nat} {v0 v1 v2 v3 v4 v5 v6 v7 v8 v9 v10 v11 : Value} (h : CW12 w g v0 v1 v2 v3 v4 v5 v6 v7 v8 v9 v10 v11) : (w.cell? ⟨g, 0, none⟩ = some v0 ∧ w.cell? ⟨g, 1, none⟩ = some v1 ∧ w.cell? ⟨g, 2, none⟩ = some v2 ∧ w.cell? ⟨g, 3, none⟩ = some v3 ∧ w.cell? ⟨g, 4, none⟩ = some v4 ∧ w.cell? ⟨g, 5, none⟩ = some v5 ∧ w.cell? ⟨g, 6, none⟩ = some v6 ∧ w.cell? ⟨g, 7, none⟩ = some v7 ∧ w.cell? ⟨g, 8, none⟩ = some v8 ∧ w.cell? ⟨g, 9, none⟩ = some v9 ∧ w.cell? ⟨g, 10, none⟩ = some v10 ∧ w.cell? ⟨g, 11, none⟩ = some v11) ∧ (w.frozen? ⟨g, 0, none⟩ = false ∧ w.frozen? ⟨g, 1, none⟩ = false ∧ w.frozen? ⟨g, 2, none⟩ = false ∧ w.frozen? ⟨g, 3, none⟩ = false ∧ w.frozen? ⟨g, 4, none⟩ = false ∧ w.frozen? ⟨g, 5, none⟩ = false ∧ w.frozen? ⟨g, 6, none⟩ = false ∧ w.frozen? ⟨g, 7, none⟩ = false ∧ w.frozen? ⟨g, 8, none⟩ = false ∧ w.frozen? ⟨g, 9, none⟩ = false ∧ w.frozen? ⟨g, 10, none⟩ = false ∧ w.frozen? ⟨g, 11, none⟩ = false) := by
  have h' : ∀ (j : Nat) (hj : j < 12), w.cell? ⟨g, j, none⟩ = some ([v0, v1, v2, v3, v4, v5, v6, v7, v8, v9, v10, v11][j]) ∧ w.frozen? ⟨g, j, none⟩ = false := fun j hj => h.2 j hj
  exact ⟨⟨(h' 0 (by omega)).1, (h' 1 (by omega)).1, (h' 2 (by omega)).1, (h' 3 (by omega)).1, (h' 4 (by omega)).1, (h' 5 (by omega)).1, (h' 6 (by omega)).1, (h' 7 (by omega)).1, (h' 8 (by omega)).1, (h' 9 (by omega)).1, (h' 10 (by omega)).1, (h' 11 (by omega)).1⟩, (h' 0 (by omega)).2, (h' 1 (by omega)).2, (h' 2 (by omega)).2, (h' 3 (by omega)).2, (h' 4 (by omega)).2, (h' 5 (by omega)).2, (h' 6 (by omega)).2, (h' 7 (by omega)).2, (h' 8 (by omega)).2, (h' 9 (by omega)).2, (h' 10 (by omega)).2, (h' 11 (by omega)).2⟩
theorem CW12.kept {w w' : World} {g : Nat} {v0 v1 v2 v3 v4 v5 v6 v7 v8 v9 v10 v11 : Value} (h : CW12 w g v0 v1 v2 v3 v4 v5 v6 v7 v8 v9 v10 v11) (hb : Below w.heap.size w w') : CW12 w' g v0 v1 v2 v3 v4 v5 v6 v7 v8 v9 v10 v11 := CellsW.kept h hb
theorem gls_off {w : World} {c j : Nat} {a : Option Addr} {xs : List Gl} (h : Gls w a xs) (u : Value) (hne : ∀ b o s, a = some ⟨b, o, s⟩ → b ≠ c) : Gls (w.setCell ⟨c, j, none⟩ u) a xs := by
  rcases h with h | ⟨b, off, h1, h2, h3⟩
  · exact .inl h
  · have hb := hne _ _ _ h1
    have hc : ∀ k, (w.setCell ⟨c, j, none⟩ u).cell? ⟨b, k, none⟩ = w.cell? ⟨b, k, none⟩ := fun k => by rw [World.cell?_setCell_other (h := show (⟨c, j, none⟩ : Addr) ≠ ⟨b, k, none⟩ by intro hh; cases hh; exact hb rfl)]
    exact .inr ⟨b, off, h1, by simpa [World.setCell] using h2, fun i hi => ⟨by rw [hc]; exact (h3 i hi).1, by rw [hc]; exact (h3 i hi).2.1, by rw [hc]; exact (h3 i hi).2.2⟩⟩
theorem eq_rules (r : Rl) (w : World) :
    Calls Tryz.prog 93 #[rlV r, rlV r] w fun e w' => e = .returned (.bool true) ∧ Below w.heap.size w w' := by
  unfold rlV
  go_enter Tryz.func93, Tryz.ntmps93
  go_wp2
  go_ret
  exact ⟨rfl, box2_below _ _ _⟩
/-! ### Sizes. -/
def St.small (s : St) : Prop := s.gs.length ≤ 1048576 ∧ s.bh.up.ps.length ≤ 1048576 ∧ s.bh.dn.ps.length ≤ 1048576 ∧ ∀ g ∈ s.gs, (g.met.size : Int) ≤ 1048576
def SzSt (s : St) (w : World) (e : Ending) (w' : World) : Prop := ∃ r : Int, e = .returned (.int .i64 r) ∧ Below w.heap.size w w' ∧ (r < 0 ∨ 0 ≤ r ∧ s.small)
def SzStB (s : St) (w : World) (e : Ending) (w' : World) : Prop := ∃ r : Int, e = .returned (.int .i64 r) ∧ Below w.heap.size w w' ∧ (r < 0 ∨ 0 ≤ r ∧ r ≤ 1048576 ∧ s.small)
theorem sz_setupB (s : St) (hw : s.wf) (a : Option Addr) (c : Nat) (a1 : Option Addr) (c1 : Nat) (a2 : Option Addr) (c2 : Nat) (w : World) (h : Gls w a s.gs) :
    Calls Tryz.prog 19 #[stV s a c a1 c1 a2 c2, .int .i64 1048576] w (SzStB s w) := by
  unfold stV
  have hl := hw.len
  unfold maxLen at hl
  have HG := Lib.hid h
  have HW := Lib.hid hw.gs
  have HBw := Lib.hid hw.bh
  have hbl := hw.bh.up.len
  have hbl' := hw.bh.dn.len
  clear h hw
  go_enter Tryz.func19, Tryz.ntmps19
  go_wp2_with fail
  refine (sz_goals s.gs HW.out a c (by omega) _ (HG.out.kept (box_below _ _ _))).mono ?_
  rintro e w2 ⟨r, rfl, hb, hr⟩
  obtain ⟨k0, hB, hz⟩ := one_read hb
  have K0 : Hid (CW12 w2 w.heap.size _ _ _ _ _ _ _ _ _ _ _ _) := k0
  have HB := Lib.hid hB
  clear k0 hB hz hb
  rcases hr with hr | ⟨hr0, hr1, hr2, hr3⟩
  · go_wp2
    go_ret
    exact ⟨_, rfl, HB.out, .inl (by omega)⟩
  · have HR3 := Lib.hid hr3
    clear hr3
    obtain ⟨⟨p0, p1, p2, p3, p4, p5, p6, p7, p8, p9, p10, p11⟩, -⟩ := K0.out.get
    go_wp2_with fail
    refine (sz_behave s.bh HBw.out a1 c1 a2 c2 r hr0 hr1 _).mono ?_
    rintro e w3 ⟨rfl, hb⟩
    have HB3 := Lib.hid (HB.out.trans (hb.mono HB.out.size))
    clear hb K0 HB p0 p1 p2 p3 p4 p5 p6 p7 p8 p9 p10 p11
    by_cases hc : r < s.bh.len
    · rw [if_pos hc]
      go_wp2
      go_ret
      exact ⟨_, rfl, HB3.out, .inl (by omega)⟩
    · rw [if_neg hc]
      obtain ⟨r2, hr2', hr20, hr21⟩ : ∃ r2 : Int, r - s.bh.len = r2 ∧ 0 ≤ r2 ∧ r2 ≤ 1048576 := ⟨_, rfl, by omega, by unfold Bh.len; omega⟩
      rw [hr2']
      have HC := Lib.hid hc
      clear hr2' hc
      go_wp2
      go_ret
      exact ⟨_, rfl, HB3.out, .inr ⟨by omega, by omega, hr2, by have := HC.out; unfold Bh.len at this; omega, by have := HC.out; unfold Bh.len at this; omega, HR3.out⟩⟩
theorem sz_setup (s : St) (hw : s.wf) (a : Option Addr) (c : Nat) (a1 : Option Addr) (c1 : Nat) (a2 : Option Addr) (c2 : Nat) (w : World) (h : Gls w a s.gs) :
    Calls Tryz.prog 19 #[stV s a c a1 c1 a2 c2, .int .i64 1048576] w (SzSt s w) :=
  (sz_setupB s hw a c a1 c1 a2 c2 w h).mono fun e w' ⟨r, he, hb, hr⟩ => ⟨r, he, hb, hr.imp id fun ⟨h0, h1, h2⟩ => ⟨h0, h2⟩⟩
/-! ### Copies. -/
def ToSt (s : St) (w : World) (e : Ending) (w' : World) : Prop := ∃ g g1 g2, e = .returned (stV s (some ⟨g, 0, none⟩) s.gs.length (some ⟨g1, 0, none⟩) s.bh.up.ps.length (some ⟨g2, 0, none⟩) s.bh.dn.ps.length) ∧ Gls w' (some ⟨g, 0, none⟩) s.gs ∧ Pls w' (some ⟨g1, 0, none⟩) s.bh.up.ps ∧ Pls w' (some ⟨g2, 0, none⟩) s.bh.dn.ps ∧ Below w.heap.size w w'
set_option maxHeartbeats 4000000 in
set_option maxRecDepth 20000 in
theorem to_setup (s : St) (hs : s.small) (a : Option Addr) (c : Nat) (a1 : Option Addr) (c1 : Nat) (a2 : Option Addr) (c2 : Nat) (w : World) (h : Gls w a s.gs) (h1 : Pls w a1 s.bh.up.ps) (h2 : Pls w a2 s.bh.dn.ps) :
    Calls Tryz.prog 32 #[stV s a c a1 c1 a2 c2] w (ToSt s w) := by
  unfold stV
  obtain ⟨hs1, hs2, hs3, -⟩ := hs
  have HP0 := Lib.hid h
  have HP1 := Lib.hid h1
  have HP2 := Lib.hid h2
  clear h h1 h2
  go_enter Tryz.func32, Tryz.ntmps32
  go_wp2_with fail
  refine (to_rules s.rl _).mono ?_
  rintro e w2 ⟨rfl, hb⟩
  unfold rlV
  obtain ⟨k0, k1, k2, hB, hz⟩ := SdT.three_read hb
  have K0 : Hid (CW12 w2 w.heap.size _ _ _ _ _ _ _ _ _ _ _ _) := k0
  have K1 : Hid (CW12 w2 (w.heap.size + 1) _ _ _ _ _ _ _ _ _ _ _ _) := k1
  have K2 : Hid (CW12 w2 (w.heap.size + 2) _ _ _ _ _ _ _ _ _ _ _ _) := k2
  have HB := Lib.hid hB
  have HZ := Lib.hid hz
  clear k0 k1 k2 hB hz hb
  obtain ⟨⟨p0, p1, p2, p3, p4, p5, p6, p7, p8, p9, p10, p11⟩, -⟩ := K0.out.get
  obtain ⟨⟨d0, d1, d2, -, -, -, -, -, -, -, -, -⟩, e0, e1, e2, -, -, -, -, -, -, -, -, -⟩ := K2.out.get
  have HZn : Hid (w.heap.size + 2 < (((w2.setCell ⟨w.heap.size + 2, 0, none⟩ (.int .i64 s.rl.dl)).setCell ⟨w.heap.size + 2, 1, none⟩ (.int .i64 s.rl.fr)).setCell ⟨w.heap.size + 2, 2, none⟩ (.int .i64 s.rl.wi)).heap.size) := by
    have := HZ.out
    exact Lib.hid (by simpa [World.setCell] using this)
  have HBn := Lib.hid ((((HB.out).setCell (p := ⟨w.heap.size + 2, 0, none⟩) (by show w.heap.size ≤ w.heap.size + 2; omega) (.int .i64 s.rl.dl)).setCell (p := ⟨w.heap.size + 2, 1, none⟩) (by show w.heap.size ≤ w.heap.size + 2; omega) (.int .i64 s.rl.fr)).setCell (p := ⟨w.heap.size + 2, 2, none⟩) (by show w.heap.size ≤ w.heap.size + 2; omega) (.int .i64 s.rl.wi))
  have K0n : Hid (CW12 _ w.heap.size _ _ _ _ _ _ _ _ _ _ _ _) := SdT.cells_off (j := 2) (c := w.heap.size + 2) (SdT.cells_off (j := 1) (c := w.heap.size + 2) (SdT.cells_off (j := 0) (c := w.heap.size + 2) (K0.out) (.int .i64 s.rl.dl) (by omega)) (.int .i64 s.rl.fr) (by omega)) (.int .i64 s.rl.wi) (by omega)
  have K1n : Hid (CW12 _ (w.heap.size + 1) _ _ _ _ _ _ _ _ _ _ _ _) := SdT.cells_off (j := 2) (c := w.heap.size + 2) (SdT.cells_off (j := 1) (c := w.heap.size + 2) (SdT.cells_off (j := 0) (c := w.heap.size + 2) (K1.out) (.int .i64 s.rl.dl) (by omega)) (.int .i64 s.rl.fr) (by omega)) (.int .i64 s.rl.wi) (by omega)
  have K2n : Hid (CW12 _ (w.heap.size + 2) _ _ _ _ _ _ _ _ _ _ _ _) := ((CellsW.set K2.out 0 (.int .i64 s.rl.dl) (by simp)).set 1 (.int .i64 s.rl.fr) (by simp)).set 2 (.int .i64 s.rl.wi) (by simp)
  clear HB HZ K0 K1 K2 
  go_wp2_with fail
  clear p0 p1 p2 p3 p4 p5 p6 p7 p8 p9 p10 p11 d0 d1 d2 e0 e1 e2
  obtain ⟨W, hW⟩ : ∃ W, (((w2.setCell ⟨w.heap.size + 2, 0, none⟩ (.int .i64 s.rl.dl)).setCell ⟨w.heap.size + 2, 1, none⟩ (.int .i64 s.rl.fr)).setCell ⟨w.heap.size + 2, 2, none⟩ (.int .i64 s.rl.wi)) = W := ⟨_, rfl⟩
  rw [hW] at HBn HZn K0n K1n K2n  ⊢
  clear hW
  have HB := HBn
  clear HBn
  have HZ := HZn
  clear HZn
  have K0 := K0n
  clear K0n
  have K1 := K1n
  clear K1n
  have K2 := K2n
  clear K2n
  refine (to_goals s.gs a c W (HP0.out.kept HB.out) hs1).mono ?_
  rintro e w4 ⟨g, rfl, ho, hb⟩
  have HG := Lib.hid (show w.heap.size + 2 < g from Nat.lt_of_lt_of_le HZ.out ho.new.1)
  have O0 := Lib.hid (gls_of ho)
  have HBn := Lib.hid (HB.out.trans (hb.mono HB.out.size))
  have HZn := Lib.hid (show w.heap.size + 2 < w4.heap.size from Nat.lt_of_lt_of_le HZ.out hb.size)
  have K0n : Hid (CW12 w4 w.heap.size _ _ _ _ _ _ _ _ _ _ _ _) := CellsW.kept K0.out hb
  have K1n : Hid (CW12 w4 (w.heap.size + 1) _ _ _ _ _ _ _ _ _ _ _ _) := CellsW.kept K1.out hb
  have K2n : Hid (CW12 w4 (w.heap.size + 2) _ _ _ _ _ _ _ _ _ _ _ _) := CellsW.kept K2.out hb
  clear HB HZ K0 K1 K2 
  have HB := HBn
  clear HBn
  have HZ := HZn
  clear HZn
  have K0 := K0n
  clear K0n
  have K1 := K1n
  clear K1n
  have K2 := K2n
  clear K2n
  clear hb ho
  have hg := HG.out
  obtain ⟨⟨p0, p1, p2, p3, p4, p5, p6, p7, p8, p9, p10, p11⟩, -⟩ := K0.out.get
  obtain ⟨⟨-, -, -, d3, -, -, -, -, -, -, -, -⟩, -, -, -, e3, -, -, -, -, -, -, -, -⟩ := K2.out.get
  have HZn : Hid (w.heap.size + 2 < (w4.setCell ⟨w.heap.size + 2, 3, none⟩ (.slice (some ⟨g, 0, none⟩) s.gs.length s.gs.length)).heap.size) := by
    have := HZ.out
    exact Lib.hid (by simpa [World.setCell] using this)
  have HBn := Lib.hid ((HB.out).setCell (p := ⟨w.heap.size + 2, 3, none⟩) (by show w.heap.size ≤ w.heap.size + 2; omega) (.slice (some ⟨g, 0, none⟩) s.gs.length s.gs.length))
  have K0n : Hid (CW12 _ w.heap.size _ _ _ _ _ _ _ _ _ _ _ _) := SdT.cells_off (j := 3) (c := w.heap.size + 2) (K0.out) (.slice (some ⟨g, 0, none⟩) s.gs.length s.gs.length) (by omega)
  have K1n : Hid (CW12 _ (w.heap.size + 1) _ _ _ _ _ _ _ _ _ _ _ _) := SdT.cells_off (j := 3) (c := w.heap.size + 2) (K1.out) (.slice (some ⟨g, 0, none⟩) s.gs.length s.gs.length) (by omega)
  have K2n : Hid (CW12 _ (w.heap.size + 2) _ _ _ _ _ _ _ _ _ _ _ _) := CellsW.set K2.out 3 (.slice (some ⟨g, 0, none⟩) s.gs.length s.gs.length) (by simp)
  have O0n := Lib.hid (gls_off (j := 3) (c := w.heap.size + 2) (O0.out) (.slice (some ⟨g, 0, none⟩) s.gs.length s.gs.length) (fun b o s e => by cases e; omega))
  clear HB HZ K0 K1 K2 O0
  go_wp2_with fail
  clear p0 p1 p2 p3 p4 p5 p6 p7 p8 p9 p10 p11 d3 e3
  obtain ⟨W, hW⟩ : ∃ W, (w4.setCell ⟨w.heap.size + 2, 3, none⟩ (.slice (some ⟨g, 0, none⟩) s.gs.length s.gs.length)) = W := ⟨_, rfl⟩
  rw [hW] at HBn HZn K0n K1n K2n O0n ⊢
  clear hW
  have HB := HBn
  clear HBn
  have HZ := HZn
  clear HZn
  have K0 := K0n
  clear K0n
  have K1 := K1n
  clear K1n
  have K2 := K2n
  clear K2n
  have O0 := O0n
  clear O0n
  refine (SdT.to_behave2 s.bh hs2 hs3 a1 c1 a2 c2 W (HP1.out.kept HB.out) (HP2.out.kept HB.out)).mono ?_
  rintro e w4 ⟨g1, g2, rfl, ho, ho2, hb, hg1, hg2⟩
  have O1 := Lib.hid ho
  have O2 := Lib.hid ho2
  have hg1 := Nat.lt_of_lt_of_le HZ.out hg1
  have hg2 := Nat.lt_of_lt_of_le HZ.out hg2
  have HBn := Lib.hid (HB.out.trans (hb.mono HB.out.size))
  have HZn := Lib.hid (show w.heap.size + 2 < w4.heap.size from Nat.lt_of_lt_of_le HZ.out hb.size)
  have K0n : Hid (CW12 w4 w.heap.size _ _ _ _ _ _ _ _ _ _ _ _) := CellsW.kept K0.out hb
  have K1n : Hid (CW12 w4 (w.heap.size + 1) _ _ _ _ _ _ _ _ _ _ _ _) := CellsW.kept K1.out hb
  have K2n : Hid (CW12 w4 (w.heap.size + 2) _ _ _ _ _ _ _ _ _ _ _ _) := CellsW.kept K2.out hb
  have O0n := Lib.hid (O0.out.kept hb)
  clear HB HZ K0 K1 K2 O0
  have HB := HBn
  clear HBn
  have HZ := HZn
  clear HZn
  have K0 := K0n
  clear K0n
  have K1 := K1n
  clear K1n
  have K2 := K2n
  clear K2n
  have O0 := O0n
  clear O0n
  clear hb ho ho2
  obtain ⟨⟨d0, d1, d2, d3, d4, d5, d6, d7, d8, d9, d10, d11⟩, e0, e1, e2, e3, e4, e5, e6, e7, e8, e9, e10, e11⟩ := K2.out.get
  obtain ⟨⟨c0, c1, c2, c3, c4, c5, c6, c7, c8, c9, c10, c11⟩, f0, f1, f2, f3, f4, f5, f6, f7, f8, f9, f10, f11⟩ := K1.out.get
  clear K0 K1 K2 HZ
  go_wp2
  refine bodyPost_ret (v := .agg #[.int .i64 s.rl.dl, .int .i64 s.rl.fr, .int .i64 s.rl.wi, .slice (some ⟨g, 0, none⟩) s.gs.length s.gs.length, .slice (some ⟨g1, 0, none⟩) s.bh.up.ps.length s.bh.up.ps.length, .int .i64 s.bh.up.sel, .int .i64 s.bh.up.win, .slice (some ⟨g2, 0, none⟩) s.bh.dn.ps.length s.bh.dn.ps.length, .int .i64 s.bh.dn.sel, .int .i64 s.bh.dn.win, .int .i64 s.bh.mn, .int .i64 s.bh.mx]) (by simp [results, Tryz.results32, go_sem, c0, c1, c2, c3, c4, c5, c6, c7, c8, c9, c10, c11]) rfl ⟨g, g1, g2, rfl, ?_, ?_, ?_, ?_⟩
  · repeat (refine gls_off ?_ _ (fun b o s e => by cases e; omega))
    exact O0.out
  · repeat (refine SdT.pls_off ?_ _ (fun b o s e => by cases e; omega))
    exact O1.out
  · repeat (refine SdT.pls_off ?_ _ (fun b o s e => by cases e; omega))
    exact O2.out
  · repeat (refine Below.setCell ?_ (by first | exact Nat.le_add_right w.heap.size 1 | exact Nat.le_add_right w.heap.size 2) _)
    exact HB.out
set_option maxHeartbeats 1000000 in
theorem eq_setup (s : St) (hs : s.small) (a : Option Addr) (c : Nat) (a1 : Option Addr) (c1 : Nat) (a2 : Option Addr) (c2 : Nat) (b : Option Addr) (d : Nat) (b1 : Option Addr) (d1 : Nat) (b2 : Option Addr) (d2 : Nat) (w : World) (h : Gls w a s.gs) (h1 : Pls w a1 s.bh.up.ps) (h2 : Pls w a2 s.bh.dn.ps) (k : Gls w b s.gs) (k1 : Pls w b1 s.bh.up.ps) (k2 : Pls w b2 s.bh.dn.ps) :
    Calls Tryz.prog 42 #[stV s a c a1 c1 a2 c2, stV s b d b1 d1 b2 d2] w fun e w' => e = .returned (.bool true) ∧ Below w.heap.size w w' := by
  unfold stV
  obtain ⟨hs1, hs2, hs3, -⟩ := hs
  have H0 := Lib.hid h
  have H1 := Lib.hid h1
  have H2 := Lib.hid h2
  have L0 := Lib.hid k
  have L1 := Lib.hid k1
  have L2 := Lib.hid k2
  clear h h1 h2 k k1 k2
  go_enter Tryz.func42, Tryz.ntmps42
  go_wp2_with fail
  refine (eq_rules s.rl _).mono ?_
  rintro e w2 ⟨rfl, hb⟩
  obtain ⟨k1, k2, hB, hz⟩ := two_read hb
  have HB := Lib.hid hB
  have K1 : Hid (CW12 w2 w.heap.size _ _ _ _ _ _ _ _ _ _ _ _) := k1
  have K2 : Hid (CW12 w2 (w.heap.size + 1) _ _ _ _ _ _ _ _ _ _ _ _) := k2
  clear hb k1 k2 hB hz
  obtain ⟨⟨p0, p1, p2, p3, p4, p5, p6, p7, p8, p9, p10, p11⟩, -⟩ := K1.out.get
  obtain ⟨⟨q0, q1, q2, q3, q4, q5, q6, q7, q8, q9, q10, q11⟩, -⟩ := K2.out.get
  go_wp2_with fail
  refine (eq_goals s.gs _ _ _ _ _ (H0.out.kept HB.out) (L0.out.kept HB.out) hs1).mono ?_
  rintro e w3 ⟨rfl, hb⟩
  have HB3 := Lib.hid (HB.out.trans (hb.mono HB.out.size))
  have K13 : Hid (CW12 w3 w.heap.size _ _ _ _ _ _ _ _ _ _ _ _) := CellsW.kept K1.out hb
  have K23 : Hid (CW12 w3 (w.heap.size + 1) _ _ _ _ _ _ _ _ _ _ _ _) := CellsW.kept K2.out hb
  clear hb HB K1 K2 p0 p1 p2 p3 p4 p5 p6 p7 p8 p9 p10 p11 q0 q1 q2 q3 q4 q5 q6 q7 q8 q9 q10 q11
  obtain ⟨⟨p0, p1, p2, p3, p4, p5, p6, p7, p8, p9, p10, p11⟩, -⟩ := K13.out.get
  obtain ⟨⟨q0, q1, q2, q3, q4, q5, q6, q7, q8, q9, q10, q11⟩, -⟩ := K23.out.get
  go_wp2_with fail
  refine (SdT.eq_behave s.bh _ _ _ _ _ _ _ _ _ (H1.out.kept HB3.out) (H2.out.kept HB3.out) (L1.out.kept HB3.out) (L2.out.kept HB3.out) hs2 hs3).mono ?_
  rintro e w4 ⟨rfl, hb⟩
  have HB4 := Lib.hid (HB3.out.trans (hb.mono HB3.out.size))
  clear hb HB3 K13 K23 p0 p1 p2 p3 p4 p5 p6 p7 p8 p9 p10 p11 q0 q1 q2 q3 q4 q5 q6 q7 q8 q9 q10 q11
  go_wp2
  go_ret
  exact ⟨rfl, HB4.out⟩
end Go.Proofs.YtgmdfkmmbcpikaaGreat.Set
