/- Policies (three integers), sides, behaviours: how they lie, how such arguments are opened; copies, comparisons of equals, sizes. -/
import Derived.Test.YtgmdfkmmbcpikaaGreatSer2
import Derived.Lib.SmallJoins
namespace Go.Proofs.YtgmdfkmmbcpikaaGreat.Pl
open Go.RowKit Go.Deep
open Go.ChangeShapes Go.WideShapes
open Go.Proofs.YtgmdfkmmbcpikaaGreat.C1
open Go.Proofs.YtgmdfkmmbcpikaaGreat.C2
open Go.Proofs.YtgmdfkmmbcpikaaGreat.Smps
open Go.Proofs.YtgmdfkmmbcpikaaGreat.Mem
open Go.Proofs.YtgmdfkmmbcpikaaGreat.Ser (gf gf_len gf_get gf_append gf_cons made_gf)
open Go.Proofs.YtgmdfkmmbcpikaaGreat.Ser2 (take_set fill_len Off off_lt cells_new)
set_option linter.unusedVariables false

structure Pl where
  kd : Int
  va : Int
  pe : Int
instance : Inhabited Pl := ⟨⟨0, 0, 0⟩⟩
structure Pl.wf (p : Pl) : Prop where
  kd : -9223372036854775808 ≤ p.kd ∧ p.kd ≤ 9223372036854775807
  va : -9223372036854775808 ≤ p.va ∧ p.va ≤ 9223372036854775807
  pe : -9223372036854775808 ≤ p.pe ∧ p.pe ≤ 9223372036854775807
def encL (p : Pl) : List Value := [.int .i64 p.kd, .int .i64 p.va, .int .i64 p.pe]
def plV (p : Pl) : Value := .agg #[.int .i64 p.kd, .int .i64 p.va, .int .i64 p.pe]
def zeroL : Pl := ⟨0, 0, 0⟩
theorem encL_len (p : Pl) : (encL p).length = 3 := rfl
def At3L (w : World) (b o : Nat) (p : Pl) : Prop := w.cell? ⟨b, o, none⟩ = some (.int .i64 p.kd) ∧ w.cell? ⟨b, o + 1, none⟩ = some (.int .i64 p.va) ∧ w.cell? ⟨b, o + 2, none⟩ = some (.int .i64 p.pe)
theorem At3L.kept {w w' : World} {b o : Nat} {p : Pl} (h : At3L w b o p) {B : Nat} (hb : Below B w w') (hlt : b < B) : At3L w' b o p := by
  have hc : ∀ j, w'.cell? ⟨b, j, none⟩ = w.cell? ⟨b, j, none⟩ := fun j => hb.cell (p := ⟨b, j, none⟩) hlt
  exact ⟨by rw [hc]; exact h.1, by rw [hc]; exact h.2.1, by rw [hc]; exact h.2.2⟩
/-- The slice at a holds the policies ps. -/
def Pls (w : World) (a : Option Addr) (ps : List Pl) : Prop :=
  ps = [] ∨ ∃ b off, a = some ⟨b, off, none⟩ ∧ b < w.heap.size ∧ ∀ (i : Nat) (h : i < ps.length), At3L w b (off + i * 3) ps[i]
theorem Pls.kept {w w' : World} {a : Option Addr} {ps : List Pl} (h : Pls w a ps) (hb : Below w.heap.size w w') : Pls w' a ps := by
  rcases h with h | ⟨b, off, h1, h2, h3⟩
  · exact .inl h
  · exact .inr ⟨b, off, h1, Nat.lt_of_lt_of_le h2 hb.size, fun i hi => (h3 i hi).kept hb h2⟩
theorem Pls.cells {w : World} {a : Option Addr} {ps : List Pl} (h : Pls w a ps) : ∃ b off, (0 < ps.length → a = some ⟨b, off, none⟩) ∧ (0 < ps.length → b < w.heap.size) ∧ ∀ (i : Nat) (h : i < ps.length), At3L w b (off + i * 3) ps[i] := by
  rcases h with h | ⟨b, off, h1, h2, h3⟩
  · subst h
    exact ⟨0, 0, by simp, by simp, fun i h => absurd h (by simp)⟩
  · exact ⟨b, off, fun _ => h1, fun _ => h2, h3⟩
/-- A side, and where its policies lie. -/
structure Sd where
  ps : List Pl
  sel : Int
  win : Int
instance : Inhabited Sd := ⟨⟨[], 0, 0⟩⟩
structure Sd.wf (s : Sd) : Prop where
  len : s.ps.length ≤ maxLen
  ps : ∀ p ∈ s.ps, p.wf
  sel : -9223372036854775808 ≤ s.sel ∧ s.sel ≤ 9223372036854775807
  win : -9223372036854775808 ≤ s.win ∧ s.win ≤ 9223372036854775807
def sdV (s : Sd) (a : Option Addr) (cap : Nat) : Value := .agg #[.slice a s.ps.length cap, .int .i64 s.sel, .int .i64 s.win]
structure Bh where
  up : Sd
  dn : Sd
  mn : Int
  mx : Int
structure Bh.wf (b : Bh) : Prop where
  up : b.up.wf
  dn : b.dn.wf
  mn : -9223372036854775808 ≤ b.mn ∧ b.mn ≤ 9223372036854775807
  mx : -9223372036854775808 ≤ b.mx ∧ b.mx ≤ 9223372036854775807
def bhV (b : Bh) (a : Option Addr) (c : Nat) (a' : Option Addr) (c' : Nat) : Value := .agg #[.slice a b.up.ps.length c, .int .i64 b.up.sel, .int .i64 b.up.win, .slice a' b.dn.ps.length c', .int .i64 b.dn.sel, .int .i64 b.dn.win, .int .i64 b.mn, .int .i64 b.mx]

/-! ### Arguments opened. -/
section
variable {H : Type} {enc : TypeId × Value → H} {P : Program} {w : World} {base : Nat} {spare : Nat → Bool} {held : Bool}
theorem open_pls {t e : TypeId} {f0 f1 f2 : Field} {fuel : Nat} {v : Value} {x : DataW H × List MemPlace} (ht : P.underlying t = some (.slice e)) (he : P.underlying e = some (.struct #[f0, f1, f2]))
    (hone : oneCellFields P #[f0, f1, f2] = true) (hC : P.cellsOf e = 3) {ti : TypeId} (hf : f0.type = ti ∧ f1.type = ti ∧ f2.type = ti) (hti : P.underlying ti = some (.int .i64))
    (h : DataW.trod enc P w base (fun _ => true) held fuel t [v] = some x) : ∃ a len cap ps, v = .slice a len cap ∧ ps.length = len ∧ len ≤ maxLen ∧ (∀ p ∈ ps, p.wf) ∧ Pls w a ps := by
  obtain ⟨z0, z1, z2⟩ := hf
  rcases open_slice ht h with ⟨hcs, _⟩ | ⟨x, l, c, m, n, D, pls, hcs, _, hl, hm, hmm, _, hi⟩
  · simp at hcs
    subst hcs
    exact ⟨none, 0, 0, [], rfl, rfl, Nat.zero_le _, fun _ h => absurd h (by simp), .inl rfl⟩
  · simp at hcs
    subst hcs
    have key : ∀ i, i < l → ∃ p : Pl, p.wf ∧ w.cell? (x.add (i * 3)) = some (.int .i64 p.kd) ∧ w.cell? ((x.add (i * 3)).add 1) = some (.int .i64 p.va) ∧ w.cell? ((x.add (i * 3)).add 2) = some (.int .i64 p.pe) := by
      intro i hil
      obtain ⟨cs', hc, ht'⟩ := hi i (by rw [hmm]; simp; omega)
      rw [hC] at hc
      obtain ⟨_, hcl, hat⟩ := World.cells?_some hc
      obtain ⟨y0, y1, y2, n', _, _, g0, g1, g2⟩ := trod_struct3 he ht'
      obtain ⟨o0, k0⟩ := hone_of hone 0 f0 rfl
      obtain ⟨o1, k1⟩ := hone_of hone 1 f1 rfl
      obtain ⟨o2, k2⟩ := hone_of hone 2 f2 rfl
      rw [o0, k0, z0] at g0
      rw [o1, k1, z1] at g1
      rw [o2, k2, z2] at g2
      match cs', hcl with
      | [c0, c1, c2], _ =>
        obtain ⟨p, e0, _, u0⟩ := DataW.trod_int hti g0
        obtain ⟨q, e1, _, u1⟩ := DataW.trod_int hti g1
        obtain ⟨r, e2, _, u2⟩ := DataW.trod_int hti g2
        simp at e0 e1 e2
        subst e0 e1 e2
        refine ⟨⟨p, q, r⟩, ⟨bounds_i64 u0, bounds_i64 u1, bounds_i64 u2⟩, ?_, ?_, ?_⟩
        · have := hat 0 (by omega); simpa [Addr.add] using this
        · have := hat 1 (by omega); simpa using this
        · have := hat 2 (by omega); simpa using this
    obtain ⟨f, hf⟩ := choose_lt key
    refine ⟨some x, l, c, (List.range l).map f, rfl, by simp, Nat.le_trans hl hm, fun s hs => ?_, ?_⟩
    · obtain ⟨i, hi2, rfl⟩ := List.mem_map.1 hs
      exact (hf i (List.mem_range.1 hi2)).1
    · by_cases h0 : l = 0
      · exact .inl (by simp [h0])
      · obtain ⟨b, off, spot⟩ := x
        have hspot : spot = none := by
          have := (hf 0 (by omega)).2.1
          simpa [Addr.add] using World.cell?_spot this
        subst hspot
        refine .inr ⟨b, off, rfl, ?_, fun i hi2 => ?_⟩
        · have := (hf 0 (by omega)).2.1
          simp [Addr.add] at this
          exact World.block_lt_of_cell? _ _ this
        · have hil : i < l := by simpa using hi2
          obtain ⟨_, c0, c1, c2⟩ := hf i hil
          rw [Go.WideShapes.add_plain] at c0 c1 c2
          rw [Go.WideShapes.add_plain] at c1 c2
          simp only [List.getElem_map, List.getElem_range]
          exact ⟨c0, c1, c2⟩
def IsPts (w : World) (a : Option Addr) (len cap : Nat) (ps : List Ser.Pt) : Prop := ps.length = len ∧ len ≤ maxLen ∧ (∀ p ∈ ps, p.wf) ∧ Ser.Pts w a ps
theorem open_row2 {t e : TypeId} {f0 f1 : Field} {fuel : Nat} {a : Option Addr} {len cap : Nat} {x : DataW H × List MemPlace} (ht : P.underlying t = some (.slice e)) (he : P.underlying e = some (.struct #[f0, f1]))
    (hone : oneCellFields P #[f0, f1] = true) (hC : P.cellsOf e = 2) {ti : TypeId} (hf : f0.type = ti ∧ f1.type = ti) (hti : P.underlying ti = some (.int .i64))
    (h : DataW.trod enc P w base (fun _ => true) held fuel t (Value.slice a len cap).cells.toList = some x) : ∃ ps, IsPts w a len cap ps := by
  obtain ⟨a', l', c', ps, e, hl, hm, hw, hp⟩ := Ser.open_pts ht he hone hC hf hti (v := .slice a len cap) (by simpa [Value.cells] using h)
  cases e
  exact ⟨ps, hl, hm, hw, hp⟩
/-- The three cells of a side. -/
theorem open_side_cells {ts : TypeId} {s0 s1 s2 : Field} {fuel : Nat} {c0 c1 c2 : Value} {x : DataW H × List MemPlace} (hs : P.underlying ts = some (.struct #[s0, s1, s2])) (hsone : oneCellFields P #[s0, s1, s2] = true)
    {tp e ti : TypeId} {f0 f1 f2 : Field} (hst : s0.type = tp ∧ s1.type = ti ∧ s2.type = ti) (htp : P.underlying tp = some (.slice e)) (he : P.underlying e = some (.struct #[f0, f1, f2]))
    (hone : oneCellFields P #[f0, f1, f2] = true) (hC : P.cellsOf e = 3) (hf : f0.type = ti ∧ f1.type = ti ∧ f2.type = ti) (hti : P.underlying ti = some (.int .i64))
    (h : DataW.trod enc P w base (fun _ => true) held fuel ts [c0, c1, c2] = some x) : ∃ (s : Sd) (a : Option Addr) (cap : Nat), s.wf ∧ c0 = .slice a s.ps.length cap ∧ c1 = .int .i64 s.sel ∧ c2 = .int .i64 s.win ∧ Pls w a s.ps := by
  obtain ⟨y0, y1, y2, n', _, _, g0, g1, g2⟩ := trod_struct3 hs h
  obtain ⟨o0, k0⟩ := hone_of hsone 0 s0 rfl
  obtain ⟨o1, k1⟩ := hone_of hsone 1 s1 rfl
  obtain ⟨o2, k2⟩ := hone_of hsone 2 s2 rfl
  rw [o0, k0, hst.1] at g0
  rw [o1, k1, hst.2.1] at g1
  rw [o2, k2, hst.2.2] at g2
  obtain ⟨q, e1, _, u1⟩ := DataW.trod_int hti g1
  obtain ⟨r, e2, _, u2⟩ := DataW.trod_int hti g2
  simp at e1 e2 g0
  obtain ⟨a, len, cap, ps, e0, hl, hm, hw, hp⟩ := open_pls htp he hone hC hf hti g0
  subst e0 e1 e2 hl
  exact ⟨⟨ps, q, r⟩, a, cap, ⟨hm, hw, bounds_i64 u1, bounds_i64 u2⟩, rfl, rfl, rfl, hp⟩
def IsSd (w : World) (v : Value) (s : Sd) (a : Option Addr) (cap : Nat) : Prop := v = sdV s a cap ∧ s.wf ∧ Pls w a s.ps
theorem open_side {r : Reach} {b0 : Nat} {ts : TypeId} {s0 s1 s2 : Field} {v : Value} {d : DataW H} {p : List MemPlace} (hs : P.underlying ts = some (.struct #[s0, s1, s2])) (hsone : oneCellFields P #[s0, s1, s2] = true) (hsC : P.cellsOf ts = 3)
    {tp e ti : TypeId} {f0 f1 f2 : Field} (hst : s0.type = tp ∧ s1.type = ti ∧ s2.type = ti) (htp : P.underlying tp = some (.slice e)) (he : P.underlying e = some (.struct #[f0, f1, f2]))
    (hone : oneCellFields P #[f0, f1, f2] = true) (hC : P.cellsOf e = 3) (hf : f0.type = ti ∧ f1.type = ti ∧ f2.type = ti) (hti : P.underlying ti = some (.int .i64))
    (hv : Value.okWide P w r b0 ts v) (h : DataW.Trod enc P w base (fun _ => true) held ts v d p) : ∃ s a cap, IsSd w v s a cap := by
  obtain ⟨cs, rfl, hsz⟩ := okWide_struct hs hv
  obtain ⟨c0, c1, c2, rfl⟩ := Go.Joins.array3 (hsz.trans hsC)
  obtain ⟨fuel, hfu⟩ := h
  obtain ⟨s, a, cap, hw, e0, e1, e2, hp⟩ := open_side_cells hs hsone hst htp he hone hC hf hti (by simpa [Value.cells] using hfu)
  subst e0 e1 e2
  exact ⟨s, a, cap, rfl, hw, hp⟩
def IsBh (w : World) (v : Value) (b : Bh) (a : Option Addr) (c : Nat) (a' : Option Addr) (c' : Nat) : Prop := v = bhV b a c a' c' ∧ b.wf ∧ Pls w a b.up.ps ∧ Pls w a' b.dn.ps
theorem array8 {α : Type} {cs : Array α} (h : cs.size = 8) : ∃ c0 c1 c2 c3 c4 c5 c6 c7, cs = #[c0, c1, c2, c3, c4, c5, c6, c7] := by
  obtain ⟨l⟩ := cs
  match l, h with
  | [c0, c1, c2, c3, c4, c5, c6, c7], _ => exact ⟨c0, c1, c2, c3, c4, c5, c6, c7, rfl⟩
theorem open_behave {r : Reach} {b0 : Nat} {tb ts : TypeId} {q0 q1 q2 q3 s0 s1 s2 : Field} {v : Value} {d : DataW H} {p : List MemPlace} (hb : P.underlying tb = some (.struct #[q0, q1, q2, q3])) (hbC : P.cellsOf tb = 8)
    (hbo : q0.offset = 0 ∧ q1.offset = 3 ∧ q2.offset = 6 ∧ q3.offset = 7) {tp e ti : TypeId} (hbt : q0.type = ts ∧ q1.type = ts ∧ q2.type = ti ∧ q3.type = ti) (hi1 : P.cellsOf ti = 1)
    (hs : P.underlying ts = some (.struct #[s0, s1, s2])) (hsone : oneCellFields P #[s0, s1, s2] = true) (hsC : P.cellsOf ts = 3)
    {f0 f1 f2 : Field} (hst : s0.type = tp ∧ s1.type = ti ∧ s2.type = ti) (htp : P.underlying tp = some (.slice e)) (he : P.underlying e = some (.struct #[f0, f1, f2]))
    (hone : oneCellFields P #[f0, f1, f2] = true) (hC : P.cellsOf e = 3) (hf : f0.type = ti ∧ f1.type = ti ∧ f2.type = ti) (hti : P.underlying ti = some (.int .i64))
    (hv : Value.okWide P w r b0 tb v) (h : DataW.Trod enc P w base (fun _ => true) held tb v d p) : ∃ b a c a' c', IsBh w v b a c a' c' := by
  obtain ⟨cs, rfl, hsz⟩ := okWide_struct hb hv
  obtain ⟨c0, c1, c2, c3, c4, c5, c6, c7, rfl⟩ := array8 (hsz.trans hbC)
  obtain ⟨fuel, hfu⟩ := h
  obtain ⟨y0, y1, y2, y3, n, _, _, g0, g1, g2, g3⟩ := Go.Joins.trod_struct4 hb hfu
  rw [hbo.1, hbt.1, hsC] at g0
  rw [hbo.2.1, hbt.2.1, hsC] at g1
  rw [hbo.2.2.1, hbt.2.2.1, hi1] at g2
  rw [hbo.2.2.2, hbt.2.2.2, hi1] at g3
  simp [Value.cells] at g0 g1 g2 g3
  obtain ⟨s, a, c, hw, e0, e1, e2, hp⟩ := open_side_cells hs hsone hst htp he hone hC hf hti g0
  obtain ⟨s', a', c', hw', e0', e1', e2', hp'⟩ := open_side_cells hs hsone hst htp he hone hC hf hti g1
  obtain ⟨mn, e3, _, u3⟩ := DataW.trod_int hti g2
  obtain ⟨mx, e4, _, u4⟩ := DataW.trod_int hti g3
  simp at e3 e4
  subst e0 e1 e2 e0' e1' e2' e3 e4
  exact ⟨⟨s, s', mn, mx⟩, a, c, a', c', rfl, ⟨hw, hw', bounds_i64 u3, bounds_i64 u4⟩, hp, hp'⟩
end

/-! ### Policies: sizes, copies, comparisons. -/
theorem sz_policies (n : Nat) (a : Option Addr) (cap : Nat) (hn : n ≤ 9223372036854775807) (left : Int) (h0 : 0 ≤ left) (h1 : left ≤ 1048576) (w : World) :
    Calls Tryz.prog 146 #[.slice a n cap, .int .i64 left] w fun e w' => e = .returned (.int .i64 (if left < n then -1 else left - n)) ∧ w' = w := by
  by_cases a1 : left < n
  · rw [if_pos a1]
    go_enter Tryz.func146, Tryz.ntmps146
    go_wp2
    go_ret
    exact ⟨rfl, rfl⟩
  · rw [if_neg a1]
    go_enter Tryz.func146, Tryz.ntmps146
    go_wp2
    go_ret
    exact ⟨ret1I (by first | rfl | omega), rfl⟩
def OwnL (w : World) (B : Nat) (v : Value) (ps : List Pl) : Prop := w.ownsRow B 195 3 v ps.length (gf encL ps)
theorem OwnL.len {w : World} {B n cap : Nat} {a : Option Addr} {ps : List Pl} (h : OwnL w B (.slice a n cap) ps) : n = ps.length := by
  rcases h.2 with ⟨hv, h0⟩ | ⟨g, cap', cur, hv, hg, hh, _⟩
  · cases hv; exact h0.symm
  · cases hv; rfl
theorem OwnL.at3 {w : World} {B g n cap : Nat} {ps : List Pl} (h : OwnL w B (.slice (some ⟨g, 0, none⟩) n cap) ps) (i : Nat) (hi : i < ps.length) : At3L w g (i * 3) ps[i] := by
  obtain rfl := h.len
  have hc : ∀ j, j < 3 → w.cell? ⟨g, i * 3 + j, none⟩ = (encL ps[i])[j]? := fun j hj => by
    have := World.ownsRow.cellAt h (i * 3 + j) (by omega)
    rw [this, gf_get encL 3 encL_len ps i j hi hj]
  exact ⟨hc 0 (by omega), hc 1 (by omega), hc 2 (by omega)⟩
theorem OwnL.frozen {w : World} {B g n cap : Nat} {ps : List Pl} (h : OwnL w B (.slice (some ⟨g, 0, none⟩) n cap) ps) (j : Nat) : w.frozen? ⟨g, j, none⟩ = false := by
  obtain rfl := h.len
  exact World.ownsRow.frozenAt h j
theorem OwnL.pts {w : World} {B n cap : Nat} {a : Option Addr} {ps : List Pl} (h : OwnL w B (.slice a n cap) ps) : Pls w a ps := by
  have h' : w.ownsRow B 195 3 (.slice a n cap) ps.length (gf encL ps) := h
  rcases h.2 with ⟨hv, h0⟩ | ⟨g, cap', cur, hv, hg, hh, _⟩
  · exact .inl (List.length_eq_zero_iff.1 h0)
  · cases hv
    exact .inr ⟨g, 0, rfl, (Array.getElem?_eq_some_iff.1 hh).1, fun i hi => by rw [Nat.zero_add]; exact OwnL.at3 h' i hi⟩
theorem OwnL.kept {w w' : World} {B : Nat} {v : Value} {ps : List Pl} (h : OwnL w B v ps) (hb : Below w.heap.size w w') : OwnL w' B v ps := by
  obtain ⟨h1, h2⟩ := h
  refine ⟨h1, ?_⟩
  rcases h2 with h2 | ⟨g, cap, cur, hv, hg, hh, r⟩
  · exact .inl h2
  · exact .inr ⟨g, cap, cur, hv, hg, by rw [hb.block g (Array.getElem?_eq_some_iff.1 hh).1]; exact hh, r⟩
theorem OwnL.off {w w' : World} {B n cap g : Nat} {a : Option Addr} {ps : List Pl} (h : OwnL w B (.slice a n cap) ps) (ho : Only g w w') (hg : Off g a) : OwnL w' B (.slice a n cap) ps := by
  obtain ⟨h1, h2⟩ := h
  refine ⟨h1, ?_⟩
  rcases h2 with h2 | ⟨g', cap, cur, hv, hg', hh, r⟩
  · exact .inl h2
  · cases hv
    exact .inr ⟨g', cap, cur, rfl, hg', by rw [ho.block g' (Array.getElem?_eq_some_iff.1 hh).1 (hg _ _ _ rfl)]; exact hh, r⟩
theorem OwnL.lt {w : World} {B n cap b o : Nat} {s} {ps : List Pl} (h : OwnL w B (.slice (some ⟨b, o, s⟩) n cap) ps) : B ≤ b ∧ b < w.heap.size := by
  rcases h.2 with ⟨hv, h0⟩ | ⟨g, cap', cur, hv, hg, hh, _⟩
  · cases hv
  · cases hv
    exact ⟨hg, (Array.getElem?_eq_some_iff.1 hh).1⟩
theorem to_policy (p : Pl) (w : World) :
    Calls Tryz.prog 174 #[plV p] w fun e w' => e = .returned (plV p) ∧ Below w.heap.size w w' := by
  unfold plV
  go_enter Tryz.func174, Tryz.ntmps174
  go_wp2
  exact bodyPost_ret (v := .agg #[.int .i64 p.kd, .int .i64 p.va, .int .i64 p.pe]) (by simp [results, Tryz.results174, go_sem]) rfl ⟨rfl, box3_below _ _ _ _⟩
theorem info_pl : (Tryz.prog.info? 195).map (fun i => (i.zero, i.size, i.bytes)) = some (some (plV zeroL), 3, 24) := by kernel_rfl
theorem make_pls (n : Nat) (hn : n ≤ 1048576) : ∀ w : World, (Instr.makeSlice 42 (.int .i64 (n : Int)) (.int .i64 (n : Int))).run Tryz.prog w = .ok (.slice (some ⟨w.heap.size, 0, none⟩) n n) (w.alloc (.cells (madeCells (plV zeroL).cells (n * 3)) 195)) := by
  obtain ⟨i, hi, hzz⟩ := Option.map_eq_some_iff.1 info_pl
  simp only [Prod.mk.injEq] at hzz
  obtain ⟨hz, hs, hby⟩ := hzz
  have := fun w : World => run_make (P := Tryz.prog) w 42 195 i (plV zeroL) Tryz.underlying42 hi hz .i64 .i64 (n : Int) (n : Int) (by omega) (by omega) (by rw [hby]; omega) (by omega)
  intro w
  rw [this w, hs]
  simp
theorem made_pls (n : Nat) (hn : n ≤ 1048576) (w : World) : OwnL (w.alloc (.cells (madeCells (plV zeroL).cells (n * 3)) 195)) w.heap.size (.slice (some ⟨w.heap.size, 0, none⟩) n n) (List.replicate n zeroL) := by
  unfold OwnL
  rw [List.length_replicate, ← made_gf encL 3 encL_len (by omega) zeroL n]
  exact World.ownsRow_lit (e := 195) (size := 3) (base := w.heap.size) w (madeCells (plV zeroL).cells (n * 3)) n (Nat.le_refl _) (by unfold maxLen; omega) (by rw [size_madeCells])
theorem gf_set3 : ∀ (ps : List Pl) (i : Nat) (p : Pl), i < ps.length → ((((gf encL ps).set (i * 3) (.int .i64 p.kd)).set (i * 3 + 1) (.int .i64 p.va)).set (i * 3 + 2) (.int .i64 p.pe)) = gf encL (ps.set i p)
  | x :: r, 0, s, _ => by simp [gf, encL]
  | x :: r, i + 1, s, hi => by
    have ih := gf_set3 r i s (by simpa using hi)
    have e : (i + 1) * 3 = i * 3 + 3 := by omega
    show (((encL x ++ gf encL r).set _ _).set _ _).set _ _ = encL x ++ gf encL (r.set i s)
    rw [← ih, e]
    simp [encL]
theorem OwnL.put {w : World} {B g n cap : Nat} {ps : List Pl} (h : OwnL w B (.slice (some ⟨g, 0, none⟩) n cap) ps) (k : Nat) (hk : k < ps.length) (p : Pl) :
    OwnL (((w.setCell ⟨g, k * 3, none⟩ (.int .i64 p.kd)).setCell ⟨g, k * 3 + 1, none⟩ (.int .i64 p.va)).setCell ⟨g, k * 3 + 2, none⟩ (.int .i64 p.pe)) B (.slice (some ⟨g, 0, none⟩) n cap) (ps.set k p) := by
  obtain rfl := h.len
  have h1 := (World.ownsRow.stored h (k * 3) (.int .i64 p.kd)).1
  have h2 := (World.ownsRow.stored h1 (k * 3 + 1) (.int .i64 p.va)).1
  have h3 := (World.ownsRow.stored h2 (k * 3 + 2) (.int .i64 p.pe)).1
  rw [gf_set3 ps k p hk] at h3
  unfold OwnL
  rw [List.length_set]
  exact h3
set_option maxHeartbeats 1000000 in
theorem to_policies (ps : List Pl) (a : Option Addr) (cap : Nat) (w : World) (h : Pls w a ps) (hm : ps.length ≤ 1048576) :
    Calls Tryz.prog 147 #[.slice a ps.length cap] w fun e w' => ∃ g, e = .returned (.slice (some ⟨g, 0, none⟩) ps.length ps.length) ∧ OwnL w' w.heap.size (.slice (some ⟨g, 0, none⟩) ps.length ps.length) ps ∧ Below w.heap.size w w' := by
  obtain ⟨b, off, ha, hb, hcell⟩ := h.cells
  have hmk := make_pls ps.length hm
  have hmade : OwnL (w.alloc (.cells (madeCells (plV zeroL).cells (ps.length * 3)) 195)) w.heap.size (.slice (some ⟨w.heap.size, 0, none⟩) ps.length ps.length) (ps.take 0 ++ List.replicate (ps.length - 0) zeroL) := by
    have := made_pls ps.length hm w
    simpa using this
  have hbel : Below w.heap.size w (w.alloc (.cells (madeCells (plV zeroL).cells (ps.length * 3)) 195)) := (Below.refl _ _).alloc (Nat.le_refl _) _
  have Hm := Lib.hid hmade
  have Hc := Lib.hid hcell
  have Ha := Lib.hid ha
  have Hb := Lib.hid hb
  clear hmade hcell ha hb h
  generalize hM : madeCells (plV zeroL).cells (ps.length * 3) = M at hmk hbel Hm
  go_enter Tryz.func147, Tryz.ntmps147
  go_wp2
  go_loopw [4] (fun i wr => ∃ k : Nat, k ≤ ps.length ∧ i = .int .i64 k ∧ OwnL wr w.heap.size (.slice (some ⟨w.heap.size, 0, none⟩) ps.length ps.length) (ps.take k ++ List.replicate (ps.length - k) zeroL) ∧ Below w.heap.size w wr)
    (fun i _ => ps.length - (intOf i).toNat)
  case atStart => exact ⟨0, Nat.zero_le _, rfl, Hm.out, hbel⟩
  case round =>
    clear hmk hbel
    obtain ⟨k, hk, rfl, hown, hbw⟩ := hrel
    by_cases hlt : k < ps.length
    · obtain rfl := Ha.out (by omega)
      obtain ⟨q0, q1, q2⟩ := (Hc.out k hlt).kept hbw (Hb.out (by omega))
      have HB := Lib.hid hbw
      have HO := Lib.hid hown
      clear hbw hown
      have hxl := fill_len ps zeroL k hk
      go_wp2_with (go_at_call 174; refine (to_policy ps[k] _).mono ?_; unfold plV; rintro e w2 ⟨rfl, hb2⟩; obtain ⟨p0, p1, p2⟩ := (HO.out.kept hb2).at3 k (by omega); have f0 := (HO.out.kept hb2).frozen (k * 3); have f1 := (HO.out.kept hb2).frozen (k * 3 + 1); have f2 := (HO.out.kept hb2).frozen (k * 3 + 2))
      have HO2 := Lib.hid ((HO.out.kept hb2).put k (by omega) ps[k])
      have HB2 := Lib.hid ((((HB.out.trans (hb2.mono HB.out.size)).setCell (p := ⟨w.heap.size, k * 3, none⟩) (Nat.le_refl w.heap.size) (.int .i64 ps[k].kd)).setCell (p := ⟨w.heap.size, k * 3 + 1, none⟩) (Nat.le_refl w.heap.size) (.int .i64 ps[k].va)).setCell (p := ⟨w.heap.size, k * 3 + 2, none⟩) (Nat.le_refl w.heap.size) (.int .i64 ps[k].pe))
      have hso := take_set ps zeroL k hlt
      go_roundw
      case rel => exact ⟨k + 1, by omega, by go_num, by rw [← hso]; exact HO2.out, HB2.out⟩
      case measure => simp [intOf]; omega
    · obtain rfl : k = ps.length := by omega
      have HO : Hid (OwnL wr w.heap.size (.slice (some ⟨w.heap.size, 0, none⟩) ps.length ps.length) ps) := by
        show OwnL wr w.heap.size (.slice (some ⟨w.heap.size, 0, none⟩) ps.length ps.length) ps
        simpa using hown
      have HB := Lib.hid hbw
      clear hown hbw
      go_wp2
      go_ret
      exact ⟨w.heap.size, rfl, HO.out, HB.out⟩

theorem OwnL.mono {w : World} {B B' : Nat} {v : Value} {ps : List Pl} (h : OwnL w B v ps) (hB : B' ≤ B) : OwnL w B' v ps := by
  obtain ⟨h1, h2⟩ := h
  refine ⟨h1, ?_⟩
  rcases h2 with h2 | ⟨g, cap, cur, hv, hg, r⟩
  · exact .inl h2
  · exact .inr ⟨g, cap, cur, hv, by omega, r⟩
theorem OwnL.set {w : World} {B n cap c j : Nat} {a : Option Addr} {ps : List Pl} (h : OwnL w B (.slice a n cap) ps) (u : Value) (hg : Off c a) : OwnL (w.setCell ⟨c, j, none⟩ u) B (.slice a n cap) ps := h.off ((Only.refl c w).setCell j u) hg
theorem eq_policy_g (p : Pl) (w : World) :
    Calls Tryz.prog 193 #[plV p, plV p] w fun e w' => e = .returned (.bool true) ∧ ∃ q os', w' = Go.Sort.grow (w.drewN q) os' := by
  unfold plV
  go_enter Tryz.func193, Tryz.ntmps193
  go_wp2
  go_ret
  exact ⟨rfl, 0, _, grown2 _ _ _⟩
theorem eq_policy (p : Pl) (w : World) : Calls Tryz.prog 193 #[plV p, plV p] w fun e w' => e = .returned (.bool true) ∧ Below w.heap.size w w' :=
  (eq_policy_g p w).mono fun e w' ⟨he, q, os, hw⟩ => ⟨he, by rw [hw]; exact below_grow (Below.refl _ _) (Nat.le_refl _) q os⟩
theorem at3_grown {w : World} {b o : Nat} {p : Pl} (h : At3L w b o p) (hb : b < w.heap.size) :
    (∀ n os, (Go.Sort.grow (w.drewN n) os).cell? ⟨b, o, none⟩ = some (.int .i64 p.kd)) ∧ (∀ n os, (Go.Sort.grow (w.drewN n) os).cell? ⟨b, o + 1, none⟩ = some (.int .i64 p.va)) ∧ (∀ n os, (Go.Sort.grow (w.drewN n) os).cell? ⟨b, o + 2, none⟩ = some (.int .i64 p.pe)) :=
  ⟨fun n os => cell_grown hb h.1 n os, fun n os => cell_grown hb h.2.1 n os, fun n os => cell_grown hb h.2.2 n os⟩
theorem eq_policies (ps : List Pl) (a a' : Option Addr) (cap cap' : Nat) (w : World) (h : Pls w a ps) (h' : Pls w a' ps) (hm : ps.length ≤ 1048576) :
    Calls Tryz.prog 159 #[.slice a ps.length cap, .slice a' ps.length cap'] w fun e w' => e = .returned (.bool true) ∧ Below w.heap.size w w' := by
  obtain ⟨b, off, ha, hb, hcell⟩ := h.cells
  obtain ⟨b', off', ha', hb', hcell'⟩ := h'.cells
  have Hc := Lib.hid hcell
  have Ha := Lib.hid ha
  have Hb := Lib.hid hb
  have Hc' := Lib.hid hcell'
  have Ha' := Lib.hid ha'
  have Hb' := Lib.hid hb'
  clear hcell ha hb hcell' ha' hb' h h'
  go_enter Tryz.func159, Tryz.ntmps159
  go_wp2
  go_loopw [5] (fun i wr => ∃ k : Nat, k ≤ ps.length ∧ i = .int .i64 k ∧ Hid (Below w.heap.size w wr)) (fun i _ => ps.length - (intOf i).toNat)
  case atStart => exact ⟨0, Nat.zero_le _, rfl, Below.refl _ _⟩
  case round =>
    obtain ⟨k, hk, rfl, HB⟩ := hrel
    by_cases hlt : k < ps.length
    · obtain rfl := Ha.out (by omega)
      obtain rfl := Ha'.out (by omega)
      have hbb := Nat.lt_of_lt_of_le (Hb.out (by omega)) HB.out.size
      have hbb' := Nat.lt_of_lt_of_le (Hb'.out (by omega)) HB.out.size
      obtain ⟨q0, q1, q2⟩ := at3_grown ((Hc.out k hlt).kept HB.out (Hb.out (by omega))) hbb
      obtain ⟨p0, p1, p2⟩ := at3_grown ((Hc'.out k hlt).kept HB.out (Hb'.out (by omega))) hbb'
      clear hbb hbb'
      have hcall : ∀ n' os', Calls Tryz.prog 193 #[.agg #[.int .i64 ps[k].kd, .int .i64 ps[k].va, .int .i64 ps[k].pe], .agg #[.int .i64 ps[k].kd, .int .i64 ps[k].va, .int .i64 ps[k].pe]] (Go.Sort.grow (wr.drewN n') os') _ := fun n' os' => eq_policy_g ps[k] _
      have mixed : Tryz.prog.follows .mixedOrders = true := by kernel_rfl
      go_wp2_with fail
      go_quiet_grown (first | (go_at_call 193; refine Calls.grown_of (hcall _ _)))
      have HB2 := Lib.hid (below_grow HB.out HB.out.size nq osq)
      clear hcall q0 q1 q2 p0 p1 p2
      go_wp2
      go_roundw
      case rel => exact ⟨k + 1, by omega, by go_num, HB2⟩
      case measure => simp [intOf]; omega
    · obtain rfl : k = ps.length := by omega
      go_wp2
      go_ret
      exact ⟨rfl, HB.out⟩
theorem one_read {w w2 : World} {A : Array Value} {t : TypeId} (h : Below (w.alloc (.cells A t)).heap.size (w.alloc (.cells A t)) w2) :
    CellsW w2 w.heap.size A.toList ∧ Below w.heap.size w w2 ∧ w.heap.size < w2.heap.size := by
  have b1 : Below w.heap.size w (w.alloc (.cells A t)) := (Below.refl _ _).alloc (Nat.le_refl _) _
  refine ⟨(cells_new w A t).kept h, b1.trans (h.mono b1.size), ?_⟩
  have := h.size
  simp at this
  omega

theorem two_read {w w2 : World} {A2 A3 : Array Value} {t2 t3 : TypeId} (h : Below ((w.alloc (.cells A2 t2)).alloc (.cells A3 t3)).heap.size ((w.alloc (.cells A2 t2)).alloc (.cells A3 t3)) w2) :
    CellsW w2 w.heap.size A2.toList ∧ CellsW w2 (w.heap.size + 1) A3.toList ∧ Below w.heap.size w w2 ∧ w.heap.size + 1 < w2.heap.size := by
  have b1 : Below w.heap.size w (w.alloc (.cells A2 t2)) := (Below.refl _ _).alloc (Nat.le_refl _) _
  have b2 : Below (w.alloc (.cells A2 t2)).heap.size (w.alloc (.cells A2 t2)) ((w.alloc (.cells A2 t2)).alloc (.cells A3 t3)) := (Below.refl _ _).alloc (Nat.le_refl _) _
  have e1 : (w.alloc (.cells A2 t2)).heap.size = w.heap.size + 1 := by simp
  have k3 := cells_new (w.alloc (.cells A2 t2)) A3 t3
  rw [e1] at k3
  have hs := h.size
  refine ⟨((cells_new w A2 t2).kept b2).kept h, k3.kept h, b1.trans ((b2.mono b1.size).trans (h.mono (by simp; omega))), ?_⟩
  simp at hs
  omega

/-! ### Sides, behaviours. -/
theorem sz_side (s : Sd) (hw : s.wf) (a : Option Addr) (cap : Nat) (left : Int) (h0 : 0 ≤ left) (h1 : left ≤ 1048576) (w : World) :
    Calls Tryz.prog 110 #[sdV s a cap, .int .i64 left] w fun e w' => e = .returned (.int .i64 (if left < s.ps.length then -1 else left - s.ps.length)) ∧ Below w.heap.size w w' := by
  unfold sdV
  have hl := hw.len
  unfold maxLen at hl
  by_cases a1 : left < s.ps.length
  · rw [if_pos a1]
    go_enter Tryz.func110, Tryz.ntmps110
    go_wp2_with (go_at_call 146; refine (sz_policies s.ps.length _ _ (by omega) left h0 h1 _).mono ?_; rw [if_pos a1]; rintro e w2 ⟨rfl, rfl⟩)
    go_ret
    exact ⟨rfl, box_below _ _ _⟩
  · rw [if_neg a1]
    obtain ⟨r2, hr2, hr3, hr4⟩ : ∃ r2 : Int, left - (s.ps.length : Int) = r2 ∧ 0 ≤ r2 ∧ r2 ≤ 1048576 := ⟨_, rfl, by omega, by omega⟩
    rw [hr2]
    go_enter Tryz.func110, Tryz.ntmps110
    go_wp2_with (go_at_call 146; refine (sz_policies s.ps.length _ _ (by omega) left h0 h1 _).mono ?_; rw [if_neg a1, hr2]; rintro e w2 ⟨rfl, rfl⟩)
    go_ret
    exact ⟨rfl, box_below _ _ _⟩
def Bh.len (b : Bh) : Int := b.up.ps.length + b.dn.ps.length
theorem sz_behave (b : Bh) (hw : b.wf) (a : Option Addr) (c : Nat) (a' : Option Addr) (c' : Nat) (left : Int) (h0 : 0 ≤ left) (h1 : left ≤ 1048576) (w : World) :
    Calls Tryz.prog 58 #[bhV b a c a' c', .int .i64 left] w fun e w' => e = .returned (.int .i64 (if left < b.len then -1 else left - b.len)) ∧ Below w.heap.size w w' := by
  unfold bhV Bh.len
  have hl := hw.up.len
  have hl' := hw.dn.len
  unfold maxLen at hl hl'
  have U := Lib.hid hw.up
  have D := Lib.hid hw.dn
  by_cases a1 : left < b.up.ps.length
  · rw [if_pos (by omega)]
    go_enter Tryz.func58, Tryz.ntmps58
    go_wp2_with (go_at_call 110; refine (sz_side b.up U.out a c left h0 h1 _).mono ?_; rw [if_pos a1]; rintro e w2 ⟨rfl, hb2⟩; have HB2 := Lib.hid ((box_below _ _ _).trans (hb2.mono (box_below _ _ _).size)); clear hb2)
    go_ret
    exact ⟨rfl, HB2.out⟩
  · obtain ⟨r2, hr2, hr3, hr4⟩ : ∃ r2 : Int, left - (b.up.ps.length : Int) = r2 ∧ 0 ≤ r2 ∧ r2 ≤ 1048576 := ⟨_, rfl, by omega, by omega⟩
    have hcu : ∀ w, Calls Tryz.prog 110 #[sdV b.up a c, .int .i64 left] w fun e w' => e = .returned (.int .i64 r2) ∧ Below w.heap.size w w' := fun w => by
      have := sz_side b.up U.out a c left h0 h1 w
      rw [if_neg a1, hr2] at this
      exact this
    have HCU := Lib.hid hcu
    have hcd := fun w => sz_side b.dn D.out a' c' r2 hr3 hr4 w
    clear hcu
    by_cases a2 : r2 < b.dn.ps.length
    · rw [if_pos (by omega)]
      simp only [if_pos a2] at hcd
      have HCD := Lib.hid hcd
      clear hcd
      go_enter Tryz.func58, Tryz.ntmps58
      go_wp2_with (go_at_call 110; refine (HCU.out _).mono ?_; rintro e w2 ⟨rfl, hb2⟩; obtain ⟨k0, hB, hle⟩ := one_read hb2; have HB2 := Lib.hid hB; have hle2 := hB.size; obtain ⟨c0, f0⟩ := k0.2 0 (by simp); obtain ⟨c1, f1⟩ := k0.2 1 (by simp); obtain ⟨c2, f2⟩ := k0.2 2 (by simp); obtain ⟨c3, f3⟩ := k0.2 3 (by simp); obtain ⟨c4, f4⟩ := k0.2 4 (by simp); obtain ⟨c5, f5⟩ := k0.2 5 (by simp); obtain ⟨c6, f6⟩ := k0.2 6 (by simp); obtain ⟨c7, f7⟩ := k0.2 7 (by simp); simp at c0 c1 c2 c3 c4 c5 c6 c7; clear k0 hb2 HCU hB)
      go_wp2_with (go_at_call 110; refine (HCD.out _).mono ?_; rintro e w3 ⟨rfl, hb3⟩; have HB3 := Lib.hid (HB2.out.trans (hb3.mono HB2.out.size)); clear hb3)
      go_ret
      exact ⟨rfl, HB3.out⟩
    · rw [if_neg (by omega)]
      obtain ⟨r3, hr5, hr6, hr7⟩ : ∃ r3 : Int, r2 - (b.dn.ps.length : Int) = r3 ∧ 0 ≤ r3 ∧ r3 ≤ 1048576 := ⟨_, rfl, by omega, by omega⟩
      simp only [if_neg a2, hr5] at hcd
      have HCD := Lib.hid hcd
      clear hcd
      have hfin : left - ((b.up.ps.length : Int) + b.dn.ps.length) = r3 := by omega
      rw [hfin]
      go_enter Tryz.func58, Tryz.ntmps58
      go_wp2_with (go_at_call 110; refine (HCU.out _).mono ?_; rintro e w2 ⟨rfl, hb2⟩; obtain ⟨k0, hB, hle⟩ := one_read hb2; have HB2 := Lib.hid hB; have hle2 := hB.size; obtain ⟨c0, f0⟩ := k0.2 0 (by simp); obtain ⟨c1, f1⟩ := k0.2 1 (by simp); obtain ⟨c2, f2⟩ := k0.2 2 (by simp); obtain ⟨c3, f3⟩ := k0.2 3 (by simp); obtain ⟨c4, f4⟩ := k0.2 4 (by simp); obtain ⟨c5, f5⟩ := k0.2 5 (by simp); obtain ⟨c6, f6⟩ := k0.2 6 (by simp); obtain ⟨c7, f7⟩ := k0.2 7 (by simp); simp at c0 c1 c2 c3 c4 c5 c6 c7; clear k0 hb2 HCU hB)
      go_wp2_with (go_at_call 110; refine (HCD.out _).mono ?_; rintro e w3 ⟨rfl, hb3⟩; have HB3 := Lib.hid (HB2.out.trans (hb3.mono HB2.out.size)); clear hb3)
      go_ret
      exact ⟨rfl, HB3.out⟩
end Go.Proofs.YtgmdfkmmbcpikaaGreat.Pl
