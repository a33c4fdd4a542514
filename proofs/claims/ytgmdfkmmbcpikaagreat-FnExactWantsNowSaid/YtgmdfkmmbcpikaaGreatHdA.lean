/- Herds (a setup, numbers, pods, a store, notes, moves; 21 cells): how they lie; sizes, copies, comparisons of equals. -/
import Derived.Test.YtgmdfkmmbcpikaaGreatTo
import Derived.Test.YtgmdfkmmbcpikaaGreatPds
import Derived.Test.YtgmdfkmmbcpikaaGreatSzT
import Derived.Test.YtgmdfkmmbcpikaaGreatNt
import Derived.Test.YtgmdfkmmbcpikaaGreatMv
import Derived.Deep.MidRow
import Derived.Test.YtgmdfkmmbcpikaaGreatRing
import Derived.Deep.Cut
import Derived.Lib.SmallJoins
namespace Go.Proofs.YtgmdfkmmbcpikaaGreat.Hd
open Go.RowKit Go.Deep
open Go.ChangeShapes Go.WideShapes
open Go.Proofs.YtgmdfkmmbcpikaaGreat.C1
open Go.Proofs.YtgmdfkmmbcpikaaGreat.C2
open Go.Proofs.YtgmdfkmmbcpikaaGreat.Smps
open Go.Proofs.YtgmdfkmmbcpikaaGreat.Mem
open Go.Proofs.YtgmdfkmmbcpikaaGreat.Ser
open Go.Proofs.YtgmdfkmmbcpikaaGreat.Pd
open Go.Proofs.YtgmdfkmmbcpikaaGreat.Pds
open Go.Proofs.YtgmdfkmmbcpikaaGreat.Gl
open Go.Proofs.YtgmdfkmmbcpikaaGreat.Gls
open Go.Proofs.YtgmdfkmmbcpikaaGreat.Pl
open Go.Proofs.YtgmdfkmmbcpikaaGreat.Set
open Go.Proofs.YtgmdfkmmbcpikaaGreat.To
open Go.Proofs.YtgmdfkmmbcpikaaGreat.Ser2 (cells_new OwnR)
set_option linter.unusedVariables false

structure Hd where
  st : St
  now : Int
  cnt : Int
  rev : Int
  ps : List Pd
  ss : List Ser
  ns : List Pt
  ms : List Pt
  cnd : Int
  flt : Int
structure Ad where
  a0 : Option Addr
  c0 : Nat
  a1 : Option Addr
  c1 : Nat
  a2 : Option Addr
  c2 : Nat
  a3 : Option Addr
  c3 : Nat
  a4 : Option Addr
  c4 : Nat
  a5 : Option Addr
  c5 : Nat
  a6 : Option Addr
  c6 : Nat
def I64 (x : Int) : Prop := -9223372036854775808 ≤ x ∧ x ≤ 9223372036854775807
structure Hd.wf (h : Hd) : Prop where
  st : h.st.wf
  now : I64 h.now
  cnt : I64 h.cnt
  rev : I64 h.rev
  psl : h.ps.length ≤ maxLen
  ps : ∀ p ∈ h.ps, p.wf
  ssl : h.ss.length ≤ maxLen
  ss : ∀ s ∈ h.ss, s.wf
  nsl : h.ns.length ≤ maxLen
  ns : ∀ p ∈ h.ns, p.wf
  msl : h.ms.length ≤ maxLen
  ms : ∀ p ∈ h.ms, p.wf
  cnd : I64 h.cnd
  flt : I64 h.flt
def remS (ss : List Ser) : Nat := (ss.map fun s => 2 + 2 * s.pts.length).sum
theorem rem_eq (ms : List Sv) : MarkS.rem ms 0 = remS (ms.map Sv.s) := by
  unfold MarkS.rem remS
  rw [List.drop_zero, List.map_map]
  rfl
/-- What the size's law leaves. -/
structure Hd.small (h : Hd) : Prop where
  st : h.st.small
  ps : h.ps.length ≤ 1048576
  ss : h.ss.length ≤ 1048576
  pt : ∀ s ∈ h.ss, s.pts.length ≤ 1048576
  rm : remS h.ss ≤ 4194304
  ns : h.ns.length ≤ 1048576
  ms : h.ms.length ≤ 1048576
def hdV (h : Hd) (A : Ad) : Value := .agg #[.int .i64 h.st.rl.dl, .int .i64 h.st.rl.fr, .int .i64 h.st.rl.wi, .slice A.a0 h.st.gs.length A.c0, .slice A.a1 h.st.bh.up.ps.length A.c1, .int .i64 h.st.bh.up.sel, .int .i64 h.st.bh.up.win, .slice A.a2 h.st.bh.dn.ps.length A.c2, .int .i64 h.st.bh.dn.sel, .int .i64 h.st.bh.dn.win, .int .i64 h.st.bh.mn, .int .i64 h.st.bh.mx, .int .i64 h.now, .int .i64 h.cnt, .int .i64 h.rev, .slice A.a3 h.ps.length A.c3, .slice A.a4 h.ss.length A.c4, .slice A.a5 h.ns.length A.c5, .slice A.a6 h.ms.length A.c6, .int .i64 h.cnd, .int .i64 h.flt]
structure HdAt (w : World) (h : Hd) (A : Ad) : Prop where
  g : Gls w A.a0 h.st.gs
  u : Pls w A.a1 h.st.bh.up.ps
  d : Pls w A.a2 h.st.bh.dn.ps
  p : Pds w A.a3 h.ps
  s : ∃ ls : List Sv, ls.map Sv.s = h.ss ∧ Srs w A.a4 ls
  n : Pts w A.a5 h.ns
  m : Pts w A.a6 h.ms
theorem HdAt.kept {w w' : World} {h : Hd} {A : Ad} (k : HdAt w h A) (hb : Below w.heap.size w w') : HdAt w' h A := by
  obtain ⟨g, u, d, p, ⟨ls, e, s⟩, n, m⟩ := k
  exact ⟨g.kept hb, u.kept hb, d.kept hb, p.kept hb, ⟨ls, e, s.kept hb⟩, n.kept hb, m.kept hb⟩
def CW21 (w : World) (g : Nat) (v0 v1 v2 v3 v4 v5 v6 v7 v8 v9 v10 v11 v12 v13 v14 v15 v16 v17 v18 v19 v20 : Value) : Prop := CellsW w g [v0, v1, v2, v3, v4, v5, v6, v7, v8, v9, v10, v11, v12, v13, v14, v15, v16, v17, v18, v19, v20]
theorem CW21.get {w : World} {g : Nat} {v0 v1 v2 v3 v4 v5 v6 v7 v8 v9 v10 v11 v12 v13 v14 v15 v16 v17 v18 v19 v20 : Value} (h : CW21 w g v0 v1 v2 v3 v4 v5 v6 v7 v8 v9 v10 v11 v12 v13 v14 v15 v16 v17 v18 v19 v20) : (w.cell? ⟨g, 0, none⟩ = some v0 ∧ w.cell? ⟨g, 1, none⟩ = some v1 ∧ w.cell? ⟨g, 2, none⟩ = some v2 ∧ w.cell? ⟨g, 3, none⟩ = some v3 ∧ w.cell? ⟨g, 4, none⟩ = some v4 ∧ w.cell? ⟨g, 5, none⟩ = some v5 ∧ w.cell? ⟨g, 6, none⟩ = some v6 ∧ w.cell? ⟨g, 7, none⟩ = some v7 ∧ w.cell? ⟨g, 8, none⟩ = some v8 ∧ w.cell? ⟨g, 9, none⟩ = some v9 ∧ w.cell? ⟨g, 10, none⟩ = some v10 ∧ w.cell? ⟨g, 11, none⟩ = some v11 ∧ w.cell? ⟨g, 12, none⟩ = some v12 ∧ w.cell? ⟨g, 13, none⟩ = some v13 ∧ w.cell? ⟨g, 14, none⟩ = some v14 ∧ w.cell? ⟨g, 15, none⟩ = some v15 ∧ w.cell? ⟨g, 16, none⟩ = some v16 ∧ w.cell? ⟨g, 17, none⟩ = some v17 ∧ w.cell? ⟨g, 18, none⟩ = some v18 ∧ w.cell? ⟨g, 19, none⟩ = some v19 ∧ w.cell? ⟨g, 20, none⟩ = some v20) ∧ (w.frozen? ⟨g, 0, none⟩ = false ∧ w.frozen? ⟨g, 1, none⟩ = false ∧ w.frozen? ⟨g, 2, none⟩ = false ∧ w.frozen? ⟨g, 3, none⟩ = false ∧ w.frozen? ⟨g, 4, none⟩ = false ∧ w.frozen? ⟨g, 5, none⟩ = false ∧ w.frozen? ⟨g, 6, none⟩ = false ∧ w.frozen? ⟨g, 7, none⟩ = false ∧ w.frozen? ⟨g, 8, none⟩ = false ∧ w.frozen? ⟨g, 9, none⟩ = false ∧ w.frozen? ⟨g, 10, none⟩ = false ∧ w.frozen? ⟨g, 11, none⟩ = false ∧ w.frozen? ⟨g, 12, none⟩ = false ∧ w.frozen? ⟨g, 13, none⟩ = false ∧ w.frozen? ⟨g, 14, none⟩ = false ∧ w.frozen? ⟨g, 15, none⟩ = false ∧ w.frozen? ⟨g, 16, none⟩ = false ∧ w.frozen? ⟨g, 17, none⟩ = false ∧ w.frozen? ⟨g, 18, none⟩ = false ∧ w.frozen? ⟨g, 19, none⟩ = false ∧ w.frozen? ⟨g, 20, none⟩ = false) := by
  have h' : ∀ (j : Nat) (hj : j < 21), w.cell? ⟨g, j, none⟩ = some ([v0, v1, v2, v3, v4, v5, v6, v7, v8, v9, v10, v11, v12, v13, v14, v15, v16, v17, v18, v19, v20][j]) ∧ w.frozen? ⟨g, j, none⟩ = false := fun j hj => h.2 j hj
  exact ⟨⟨(h' 0 (by omega)).1, (h' 1 (by omega)).1, (h' 2 (by omega)).1, (h' 3 (by omega)).1, (h' 4 (by omega)).1, (h' 5 (by omega)).1, (h' 6 (by omega)).1, (h' 7 (by omega)).1, (h' 8 (by omega)).1, (h' 9 (by omega)).1, (h' 10 (by omega)).1, (h' 11 (by omega)).1, (h' 12 (by omega)).1, (h' 13 (by omega)).1, (h' 14 (by omega)).1, (h' 15 (by omega)).1, (h' 16 (by omega)).1, (h' 17 (by omega)).1, (h' 18 (by omega)).1, (h' 19 (by omega)).1, (h' 20 (by omega)).1⟩, (h' 0 (by omega)).2, (h' 1 (by omega)).2, (h' 2 (by omega)).2, (h' 3 (by omega)).2, (h' 4 (by omega)).2, (h' 5 (by omega)).2, (h' 6 (by omega)).2, (h' 7 (by omega)).2, (h' 8 (by omega)).2, (h' 9 (by omega)).2, (h' 10 (by omega)).2, (h' 11 (by omega)).2, (h' 12 (by omega)).2, (h' 13 (by omega)).2, (h' 14 (by omega)).2, (h' 15 (by omega)).2, (h' 16 (by omega)).2, (h' 17 (by omega)).2, (h' 18 (by omega)).2, (h' 19 (by omega)).2, (h' 20 (by omega)).2⟩
theorem CW21.kept {w w' : World} {g : Nat} {v0 v1 v2 v3 v4 v5 v6 v7 v8 v9 v10 v11 v12 v13 v14 v15 v16 v17 v18 v19 v20 : Value} (h : CW21 w g v0 v1 v2 v3 v4 v5 v6 v7 v8 v9 v10 v11 v12 v13 v14 v15 v16 v17 v18 v19 v20) (hb : Below w.heap.size w w') : CW21 w' g v0 v1 v2 v3 v4 v5 v6 v7 v8 v9 v10 v11 v12 v13 v14 v15 v16 v17 v18 v19 v20 := CellsW.kept h hb
/-- The blocks from L on are kept. -/
structure Upper (L : Nat) (w w' : World) : Prop where
  size : w.heap.size ≤ w'.heap.size
  block : ∀ k, L ≤ k → k < w.heap.size → w'.heap[k]? = w.heap[k]?
theorem Upper.refl (L : Nat) (w : World) : Upper L w w := ⟨Nat.le_refl _, fun _ _ _ => rfl⟩
theorem Upper.trans {L : Nat} {a b d : World} (h : Upper L a b) (k : Upper L b d) : Upper L a d :=
  ⟨Nat.le_trans h.size k.size, fun i hL hi => (k.block i hL (Nat.lt_of_lt_of_le hi h.size)).trans (h.block i hL hi)⟩
theorem Upper.below {L : Nat} {a w w' : World} (h : Upper L a w) (hb : Below w.heap.size w w') : Upper L a w' := h.trans ⟨hb.size, fun k _ hk => hb.block k hk⟩
theorem Upper.setCell {L : Nat} {a w : World} (h : Upper L a w) {c : Nat} (hc : c < L) (j : Nat) (u : Value) : Upper L a (w.setCell ⟨c, j, none⟩ u) :=
  h.trans ⟨by simp [World.setCell], fun k hL hk => Below.heap_setCell _ _ _ _ (by show k ≠ c; omega)⟩
theorem Upper.cell {L : Nat} {w w' : World} (h : Upper L w w') {b j : Nat} (hL : L ≤ b) (hb : b < w.heap.size) : w'.cell? ⟨b, j, none⟩ = w.cell? ⟨b, j, none⟩ := World.cell?_of_block (w := w) (h.block b hL hb)
def From (L : Nat) (a : Option Addr) : Prop := ∀ b o s, a = some ⟨b, o, s⟩ → L ≤ b
theorem gls_up {L : Nat} {w w' : World} {a : Option Addr} {xs : List Gl} (h : Gls w a xs) (hL : From L a) (hu : Upper L w w') : Gls w' a xs := by
  rcases h with h | ⟨b, off, h1, h2, h3⟩
  · exact .inl h
  · have hc : ∀ k, w'.cell? ⟨b, k, none⟩ = w.cell? ⟨b, k, none⟩ := fun k => hu.cell (hL _ _ _ h1) h2
    exact .inr ⟨b, off, h1, Nat.lt_of_lt_of_le h2 hu.size, fun i hi => ⟨by rw [hc]; exact (h3 i hi).1, by rw [hc]; exact (h3 i hi).2.1, by rw [hc]; exact (h3 i hi).2.2⟩⟩
theorem pls_up {L : Nat} {w w' : World} {a : Option Addr} {xs : List Pl} (h : Pls w a xs) (hL : From L a) (hu : Upper L w w') : Pls w' a xs := by
  rcases h with h | ⟨b, off, h1, h2, h3⟩
  · exact .inl h
  · have hc : ∀ k, w'.cell? ⟨b, k, none⟩ = w.cell? ⟨b, k, none⟩ := fun k => hu.cell (hL _ _ _ h1) h2
    exact .inr ⟨b, off, h1, Nat.lt_of_lt_of_le h2 hu.size, fun i hi => ⟨by rw [hc]; exact (h3 i hi).1, by rw [hc]; exact (h3 i hi).2.1, by rw [hc]; exact (h3 i hi).2.2⟩⟩
theorem pds_up {L : Nat} {w w' : World} {a : Option Addr} {xs : List Pd} (h : Pds w a xs) (hL : From L a) (hu : Upper L w w') : Pds w' a xs := by
  rcases h with h | ⟨b, off, h1, h2, h3⟩
  · exact .inl h
  · have hc : ∀ k, w'.cell? ⟨b, k, none⟩ = w.cell? ⟨b, k, none⟩ := fun k => hu.cell (hL _ _ _ h1) h2
    exact .inr ⟨b, off, h1, Nat.lt_of_lt_of_le h2 hu.size, fun i hi => ⟨by rw [hc]; exact (h3 i hi).1, by rw [hc]; exact (h3 i hi).2.1, by rw [hc]; exact (h3 i hi).2.2.1, by rw [hc]; exact (h3 i hi).2.2.2⟩⟩
theorem pts_up {L : Nat} {w w' : World} {a : Option Addr} {xs : List Pt} (h : Pts w a xs) (hL : From L a) (hu : Upper L w w') : Pts w' a xs := by
  rcases h with h | ⟨b, off, h1, h2, h3⟩
  · exact .inl h
  · have hc : ∀ k, w'.cell? ⟨b, k, none⟩ = w.cell? ⟨b, k, none⟩ := fun k => hu.cell (hL _ _ _ h1) h2
    exact .inr ⟨b, off, h1, Nat.lt_of_lt_of_le h2 hu.size, fun i hi => ⟨by rw [hc]; exact (h3 i hi).1, by rw [hc]; exact (h3 i hi).2⟩⟩
theorem srs_up {L : Nat} {w w' : World} {a : Option Addr} {xs : List Sv} (h : Srs w a xs) (hL : From L a) (hin : ∀ l ∈ xs, From L l.a) (hu : Upper L w w') : Srs w' a xs := by
  rcases h with h | ⟨b, off, h1, h2, h3⟩
  · exact .inl h
  · have hc : ∀ k, w'.cell? ⟨b, k, none⟩ = w.cell? ⟨b, k, none⟩ := fun k => hu.cell (hL _ _ _ h1) h2
    exact .inr ⟨b, off, h1, Nat.lt_of_lt_of_le h2 hu.size, fun i hi => ⟨⟨by rw [hc]; exact (h3 i hi).1.1, by rw [hc]; exact (h3 i hi).1.2.1, by rw [hc]; exact (h3 i hi).1.2.2⟩, pts_up (h3 i hi).2 (hin _ (List.getElem_mem hi)) hu⟩⟩
theorem good_from {w : World} {B g L : Nat} {ms : List Sv} (h : Ser2.Good w B g ms) (hL : L ≤ B) : ∀ l ∈ ms, From L l.a := fun l hl b o s e => by
  have := h.own l hl
  rw [e] at this
  exact Nat.le_trans hL this.lt.1
theorem row_up {L B e k n : Nat} {v : Value} {l : List Value} {w w' : World} (h : w.ownsRow B e k v n l) (hL : L ≤ B) (hu : Upper L w w') : w'.ownsRow B e k v n l := by
  obtain ⟨h1, h2⟩ := h
  refine ⟨h1, ?_⟩
  rcases h2 with h2 | ⟨g, cap', cur, hv, hg, hh, r⟩
  · exact .inl h2
  · exact .inr ⟨g, cap', cur, hv, hg, by rw [hu.block g (Nat.le_trans hL hg) (Array.getElem?_eq_some_iff.1 hh).1]; exact hh, r⟩
theorem good_up {L B g : Nat} {ms : List Sv} {w w' : World} (h : Ser2.Good w B g ms) (hL : L ≤ B) (hu : Upper L w w') : Ser2.Good w' B g ms := ⟨fun l hl => row_up (h.own l hl) hL hu, h.off, h.apart⟩
def Und (T : Nat) (a : Option Addr) : Prop := ∀ b o s, a = some ⟨b, o, s⟩ → b < T
theorem good_und {w : World} {B g : Nat} {ms : List Sv} (h : Ser2.Good w B g ms) : ∀ l ∈ ms, Und w.heap.size l.a := fun l hl b o s e => own_lt (h.own l hl) b o s e
/-- A herd whose rows are the call's own, each part in blocks between two bounds. -/
structure HdOwn (w : World) (B : Nat) (h : Hd) (A : Ad) (T1 T2 T3 T4 T5 : Nat) : Prop where
  g : OwnG w B (.slice A.a0 h.st.gs.length A.c0) h.st.gs
  u : OwnL w B (.slice A.a1 h.st.bh.up.ps.length A.c1) h.st.bh.up.ps
  d : OwnL w B (.slice A.a2 h.st.bh.dn.ps.length A.c2) h.st.bh.dn.ps
  g1 : ∃ g0 g1 g2, A.a0 = some ⟨g0, 0, none⟩ ∧ A.a1 = some ⟨g1, 0, none⟩ ∧ A.a2 = some ⟨g2, 0, none⟩ ∧ g0 < g1 ∧ g1 < g2 ∧ g2 < T1
  p : OwnD w T1 (.slice A.a3 h.ps.length A.c3) h.ps
  p1 : ∃ g, A.a3 = some ⟨g, 0, none⟩ ∧ g < T2
  s : ∃ g ls, A.a4 = some ⟨g, 0, none⟩ ∧ ls.map Sv.s = h.ss ∧ OwnR w T2 (.slice A.a4 h.ss.length A.c4) ls ∧ Ser2.Good w T2 g ls ∧ g < T3 ∧ ∀ l ∈ ls, Und T3 l.a
  n : Nt.OwnP w T3 (.slice A.a5 h.ns.length A.c5) h.ns
  n1 : ∃ g, A.a5 = some ⟨g, 0, none⟩ ∧ g < T4
  m : Mv.OwnP w T4 (.slice A.a6 h.ms.length A.c6) h.ms
  m1 : ∃ g, A.a6 = some ⟨g, 0, none⟩ ∧ g < T5
  o : B ≤ T1 ∧ T1 ≤ T2 ∧ T2 ≤ T3 ∧ T3 ≤ T4 ∧ T4 ≤ T5 ∧ T5 ≤ w.heap.size
theorem HdOwn.kept {w w' : World} {B : Nat} {h : Hd} {A : Ad} {T1 T2 T3 T4 T5 : Nat} (k : HdOwn w B h A T1 T2 T3 T4 T5) (hb : Below w.heap.size w w') : HdOwn w' B h A T1 T2 T3 T4 T5 := by
  obtain ⟨g, u, d, g1, p, p1, ⟨x, ls, e1, e2, o, gd, r⟩, n, n1, m, m1, ⟨o1, o2, o3, o4, o5, o6⟩⟩ := k
  exact ⟨row_kept g hb, row_kept u hb, row_kept d hb, g1, row_kept p hb, p1, ⟨x, ls, e1, e2, row_kept o hb, gd.kept hb, r⟩, row_kept n hb, n1, row_kept m hb, m1, ⟨o1, o2, o3, o4, o5, Nat.le_trans o6 hb.size⟩⟩
/-! ### Whole stores. -/
theorem cells_only {w w' : World} {g c : Nat} {vs : List Value} (h : CellsW w g vs) (ho : Only c w w') (hne : g ≠ c) : CellsW w' g vs := by
  have hb := ho.block g h.1 hne
  refine ⟨Nat.lt_of_lt_of_le h.1 ho.size, fun j hj => ⟨(World.cell?_of_block (w := w) hb).trans (h.2 j hj).1, ?_⟩⟩
  have hf := (h.2 j hj).2
  simp only [World.frozen?, hb] at hf ⊢
  exact hf
theorem up_only {L g : Nat} {w w' : World} (h : Only g w w') (hg : g < L) : Upper L w w' := ⟨h.size, fun k hk hs => h.block k hs (by omega)⟩
theorem cells_part {g : Nat} : ∀ (us old pre post : List Value) (w : World), CellsW w g (pre ++ (old ++ post)) → old.length = us.length → CellsW (w.setCells g pre.length us) g (pre ++ (us ++ post))
  | [], [], pre, post, w, h, _ => h
  | [], _ :: _, pre, post, w, h, hl => by simp at hl
  | _ :: _, [], pre, post, w, h, hl => by simp at hl
  | u :: r, o :: old, pre, post, w, h, hl => by
    have h1 := CellsW.set h pre.length u (by simp)
    have e : (pre ++ (o :: old ++ post)).set pre.length u = (pre ++ [u]) ++ (old ++ post) := by simp
    rw [e] at h1
    have h2 := cells_part r old (pre ++ [u]) post _ h1 (by simpa using hl)
    have e2 : (pre ++ [u]).length = pre.length + 1 := by simp
    rw [e2] at h2
    have e3 : pre ++ [u] ++ (r ++ post) = pre ++ (u :: r ++ post) := by simp
    rw [e3] at h2
    exact h2
theorem only_cells (g : Nat) : ∀ (us : List Value) (o : Nat) (a w : World), Only g a w → Only g a (w.setCells g o us)
  | [], _, _, _, h => h
  | u :: r, o, a, w, h => only_cells g r (o + 1) a _ (h.setCell o u)
/-- A store of several cells at a block's head. -/
theorem store_head {P : Program} {ops : Array Oper} {rest : List Oper} {op : Oper} {a : Act} {w : World} {Q : Exit → Act → World → Prop} (hgd : op.guard = none) (ty : TypeId) (x y : Operand) (ho : op.op = .store ty x y)
    (g : Nat) (cells : Array Value) (hx : a.eval x = .pointer (some ⟨g, 0, none⟩)) (hy : a.eval y = .agg cells) (old post : List Value) (hc : CellsW w g (old ++ post)) (hl : old.length = cells.toList.length)
    (hi : (P.info? ty).map (·.size) = some cells.size) (h1 : cells.all (·.oneCell') = true)
    (h : ∀ V, CellsW V g (cells.toList ++ post) → Only g w V → wpList P ops Q rest (a.put op.dst undef) V) : wpList P ops Q (op :: rest) a w := by
  have k1 := cells_part cells.toList old [] post w hc hl
  have k2 := only_cells g cells.toList 0 w w (Only.refl g w)
  refine wpList_store_mid hgd ty x y ho g 0 cells hx hy ?_ hi h1 (h _ k1 k2)
  intro j hj
  have hjl : j < (old ++ post).length := by simp at hl ⊢; omega
  rw [Nat.zero_add]
  exact ⟨by rw [(hc.2 j hjl).1]; rfl, (hc.2 j hjl).2⟩
theorem range_all {w : World} {g : Nat} {vs : List Value} (h : CellsW w g vs) : w.rangeAt g 0 vs := fun j v hv => by
  obtain ⟨hj, e⟩ := List.getElem?_eq_some_iff.1 hv
  rw [Nat.zero_add, (h.2 j hj).1, e]
theorem info_hd : (Tryz.prog.info? 54).map (·.size) = some 21 := by kernel_rfl
theorem info_stp : (Tryz.prog.info? 48).map (·.size) = some 12 := by kernel_rfl
/-! ### Stores told by their series. -/
theorem sz_store (L : Int) (hL0 : 0 ≤ L) (hL1 : L ≤ 1048576) (ss : List Ser) (hwf : ∀ l ∈ ss, l.wf) (ms : List Sv) (hs : ms.map Sv.s = ss) (a : Option Addr) (cap : Nat) (hm : ss.length ≤ 9223372036854775807) (w : World) (h : Srs w a ms) :
    Calls Tryz.prog 21 #[.slice a ss.length cap, .int .i64 L] w fun e w' => ∃ r : Int, e = .returned (.int .i64 r) ∧ Below w.heap.size w w' ∧ (r < 0 ∨ 0 ≤ r ∧ r ≤ 1048576 ∧ ss.length ≤ 1048576 ∧ (∀ l ∈ ss, l.pts.length ≤ 1048576) ∧ remS ss ≤ 4194304) := by
  subst hs
  rw [List.length_map] at *
  refine (SzT.sz_totalL L hL0 hL1 ms (fun l hl => hwf _ (List.mem_map_of_mem hl)) a cap hm w h).mono ?_
  rintro e w' ⟨r, he, hb, hr⟩
  refine ⟨r, he, hb, hr.imp id fun ⟨h0, h1, h2, h3, h4⟩ => ⟨h0, h1, h2, fun l hl => ?_, by rw [← rem_eq]; exact h4⟩⟩
  obtain ⟨x, hx, rfl⟩ := List.mem_map.1 hl
  exact h3 x hx
theorem to_store (ss : List Ser) (ms : List Sv) (hs : ms.map Sv.s = ss) (a : Option Addr) (cap : Nat) (w : World) (h : Srs w a ms) (hm : ss.length ≤ 1048576) (hp : ∀ s ∈ ss, s.pts.length ≤ 1048576) :
    Calls Tryz.prog 34 #[.slice a ss.length cap] w fun e w' => ∃ g ns, e = .returned (.slice (some ⟨g, 0, none⟩) ss.length ss.length) ∧ ns.map Sv.s = ss ∧ Ser2.OwnR w' w.heap.size (.slice (some ⟨g, 0, none⟩) ss.length ss.length) ns ∧ Ser2.Good w' w.heap.size g ns ∧ Below w.heap.size w w' := by
  subst hs
  rw [List.length_map] at *
  exact Ser2.to_series ms a cap w h hm (fun l hl => hp _ (List.mem_map_of_mem hl))
theorem eq_store (ss : List Ser) (ms ns : List Sv) (hs : ms.map Sv.s = ss) (hs' : ns.map Sv.s = ss) (a a' : Option Addr) (cap cap' : Nat) (w : World) (h : Srs w a ms) (h' : Srs w a' ns) (hm : ss.length ≤ 1048576) (hp : ∀ s ∈ ss, s.pts.length ≤ 1048576) :
    Calls Tryz.prog 44 #[.slice a ss.length cap, .slice a' ss.length cap'] w fun e w' => e = .returned (.bool true) ∧ Below w.heap.size w w' := by
  subst hs
  rw [List.length_map] at *
  exact Ser2.eq_series ms ns a a' cap cap' w hs' h h' hm (fun l hl => hp _ (List.mem_map_of_mem hl))
/-! ### Sizes. -/
theorem sz_podsL (L : Int) (hL0 : 0 ≤ L) (hL1 : L ≤ 1048576) (xs : List Pd) (hwf : ∀ s ∈ xs, s.wf) (a : Option Addr) (cap : Nat) (hm : xs.length ≤ 9223372036854775807) (w : World) (h : Pds w a xs) :
    Calls Tryz.prog 20 #[.slice a xs.length cap, .int .i64 L] w fun e w' => ∃ r : Int, e = .returned (.int .i64 r) ∧ Below w.heap.size w w' ∧ (r < 0 ∨ 0 ≤ r ∧ r ≤ 1048576 ∧ xs.length ≤ 1048576) := by
  obtain ⟨b, off, ha, hb, hcell⟩ := h.cells
  by_cases hbig : L < xs.length
  · go_enter Tryz.func20, Tryz.ntmps20
    go_wp2
    go_ret
    exact ⟨_, rfl, Below.refl _ _, .inl (by omega)⟩
  · have Hc := Lib.hid hcell
    have Ha := Lib.hid ha
    have Hw := Lib.hid hwf
    have Hb := Lib.hid hb
    clear hcell ha hwf hb h
    go_enter Tryz.func20, Tryz.ntmps20
    go_wp2
    go_loopw [1, 5] (fun l i wr => ∃ (k : Nat) (r : Int), k ≤ xs.length ∧ i = .int .i64 k ∧ l = .int .i64 r ∧ 0 ≤ r ∧ r ≤ 1048576 ∧ Below w.heap.size w wr) (fun _ i _ => xs.length - (intOf i).toNat)
    case atStart => exact ⟨0, L - xs.length, Nat.zero_le _, rfl, rfl, by omega, by omega, Below.refl _ _⟩
    case round =>
      obtain ⟨k, r, hk, rfl, rfl, hr0, hr1, hbw⟩ := hrel
      by_cases hlt : k < xs.length
      · obtain rfl := Ha.out (by omega)
        obtain ⟨q0, q1, q2, q3⟩ := (Hc.out k hlt).kept hbw (Hb.out (by omega))
        have hw1 := Lib.hid (Hw.out xs[k] (List.getElem_mem hlt))
        have hlw := hbw.size
        by_cases hc : r < xs[k].nm.size
        · go_wp2_with (go_at_call 59; refine (sz_pod xs[k] hw1.out r hr0 hr1 _).mono ?_; rw [if_pos hc]; rintro e w2 ⟨rfl, hb2⟩)
          go_ret
          exact ⟨_, rfl, hbw.trans (hb2.mono hlw), .inl (by omega)⟩
        · obtain ⟨r2, hr2, hr3, hr4⟩ : ∃ r2 : Int, r2 = r - xs[k].nm.size ∧ 0 ≤ r2 ∧ r2 ≤ 1048576 := ⟨_, rfl, by omega, by omega⟩
          go_wp2_with (go_at_call 59; refine (sz_pod xs[k] hw1.out r hr0 hr1 _).mono ?_; rw [if_neg hc, ← hr2]; rintro e w2 ⟨rfl, hb2⟩)
          go_roundw
          case rel => exact ⟨k + 1, r2, by omega, by go_num, int_eq hr2.symm, hr3, hr4, hbw.trans (hb2.mono hlw)⟩
          case measure => simp [intOf]; omega
      · obtain rfl : k = xs.length := by omega
        go_wp2
        go_ret
        exact ⟨_, rfl, hbw, .inr ⟨hr0, hr1, by omega⟩⟩
def SzHd (h : Hd) (w : World) (e : Ending) (w' : World) : Prop := ∃ r : Int, e = .returned (.int .i64 r) ∧ Below w.heap.size w w' ∧ (r < 0 ∨ 0 ≤ r ∧ h.small)
theorem sum_pts {s : Ser} (h : s.sum ≤ 1048576) : s.pts.length ≤ 1048576 := by unfold Ser.sum at h; omega
set_option maxHeartbeats 1000000 in
theorem sz_herd (h : Hd) (hw : h.wf) (A : Ad) (w : World) (k : HdAt w h A) :
    Calls Tryz.prog 6 #[hdV h A, .int .i64 1048576] w (SzHd h w) := by
  unfold hdV
  have HK := Lib.hid k
  have HW := Lib.hid hw
  have l1 := hw.psl
  have l2 := hw.ssl
  have l3 := hw.nsl
  have l4 := hw.msl
  unfold maxLen at l1 l2 l3 l4
  clear k hw
  go_enter Tryz.func6, Tryz.ntmps6
  go_wp2_with fail
  refine (sz_setupB h.st HW.out.st A.a0 A.c0 A.a1 A.c1 A.a2 A.c2 _ (HK.out.g.kept (box_below _ _ _))).mono ?_
  rintro e w2 ⟨r, rfl, hb, hr⟩
  obtain ⟨k0, hB, hz⟩ := one_read hb
  have K0 : Hid (CW21 w2 w.heap.size _ _ _ _ _ _ _ _ _ _ _ _ _ _ _ _ _ _ _ _ _) := k0
  have HB := Lib.hid hB
  clear k0 hB hz hb
  rcases hr with hr | ⟨hr0, hr1, hsm⟩
  · go_wp2
    go_ret
    exact ⟨_, rfl, HB.out, .inl (by omega)⟩
  · skip
    have HSM := Lib.hid hsm
    clear hsm
    obtain ⟨⟨p0, p1, p2, p3, p4, p5, p6, p7, p8, p9, p10, p11, p12, p13, p14, p15, p16, p17, p18, p19, p20⟩, -⟩ := K0.out.get
    go_wp2_with fail
    refine (sz_podsL r hr0 hr1 h.ps HW.out.ps A.a3 A.c3 (by omega) _ (HK.out.p.kept HB.out)).mono ?_
    rintro e w3 ⟨r2, rfl, hb, hr⟩
    have HBn := Lib.hid (HB.out.trans (hb.mono HB.out.size))
    have K0n : Hid (CW21 w3 w.heap.size _ _ _ _ _ _ _ _ _ _ _ _ _ _ _ _ _ _ _ _ _) := CW21.kept K0.out hb
    clear HB K0 hb p0 p1 p2 p3 p4 p5 p6 p7 p8 p9 p10 p11 p12 p13 p14 p15 p16 p17 p18 p19 p20
    have HB := HBn
    have K0 := K0n
    clear HBn K0n
    rcases hr with hr | ⟨hq0, hq1, hq2⟩
    · go_wp2
      go_ret
      exact ⟨_, rfl, HB.out, .inl (by omega)⟩
    · skip
      clear hr0 hr1
      have HP := Lib.hid hq2
      clear hq2
      obtain ⟨ls, hls, hsr⟩ := HK.out.s
      have HLS := Lib.hid hls
      have HSR := Lib.hid hsr
      clear hls hsr
      obtain ⟨⟨p0, p1, p2, p3, p4, p5, p6, p7, p8, p9, p10, p11, p12, p13, p14, p15, p16, p17, p18, p19, p20⟩, -⟩ := K0.out.get
      go_wp2_with fail
      refine (sz_store r2 hq0 hq1 h.ss HW.out.ss ls HLS.out A.a4 A.c4 (by omega) _ (HSR.out.kept HB.out)).mono ?_
      rintro e w4 ⟨r3, rfl, hb, hr⟩
      have HBn := Lib.hid (HB.out.trans (hb.mono HB.out.size))
      have K0n : Hid (CW21 w4 w.heap.size _ _ _ _ _ _ _ _ _ _ _ _ _ _ _ _ _ _ _ _ _) := CW21.kept K0.out hb
      clear HB K0 hb p0 p1 p2 p3 p4 p5 p6 p7 p8 p9 p10 p11 p12 p13 p14 p15 p16 p17 p18 p19 p20
      have HB := HBn
      have K0 := K0n
      clear HBn K0n
      rcases hr with hr | ⟨hr0, hr1, hs2, hs3, hs4⟩
      · go_wp2
        go_ret
        exact ⟨_, rfl, HB.out, .inl (by omega)⟩
      · skip
        clear hq0 hq1
        have HS2 := Lib.hid hs2
        have HS3 := Lib.hid hs3
        have HS4 := Lib.hid hs4
        clear hs2 hs3 hs4
        obtain ⟨⟨p0, p1, p2, p3, p4, p5, p6, p7, p8, p9, p10, p11, p12, p13, p14, p15, p16, p17, p18, p19, p20⟩, -⟩ := K0.out.get
        go_wp2_with fail
        by_cases hc : r3 < h.ns.length
        · refine (Nt.sz_points h.ns.length A.a5 A.c5 (by omega) r3 hr0 hr1 _).mono ?_
          rw [if_pos hc]
          rintro e w9 ⟨rfl, rfl⟩
          go_wp2
          go_ret
          exact ⟨_, rfl, HB.out, .inl (by omega)⟩
        · skip
          refine (Nt.sz_points h.ns.length A.a5 A.c5 (by omega) r3 hr0 hr1 _).mono ?_
          rw [if_neg hc]
          obtain ⟨r4, hr4, hz0, hz1⟩ : ∃ x : Int, r3 - h.ns.length = x ∧ 0 ≤ x ∧ x ≤ 1048576 := ⟨_, rfl, by omega, by omega⟩
          rw [hr4]
          rintro e w9 ⟨rfl, rfl⟩
          have HN := Lib.hid (show h.ns.length ≤ 1048576 by omega)
          clear hr0 hr1 hc hr4 p0 p1 p2 p3 p4 p5 p6 p7 p8 p9 p10 p11 p12 p13 p14 p15 p16 p17 p18 p19 p20
          have hr0 := hz0
          have hr1 := hz1
          clear hz0 hz1
          obtain ⟨⟨p0, p1, p2, p3, p4, p5, p6, p7, p8, p9, p10, p11, p12, p13, p14, p15, p16, p17, p18, p19, p20⟩, -⟩ := K0.out.get
          go_wp2_with fail
          by_cases hc : r4 < h.ms.length
          · refine (Mv.sz_points h.ms.length A.a6 A.c6 (by omega) r4 hr0 hr1 _).mono ?_
            rw [if_pos hc]
            rintro e w9 ⟨rfl, rfl⟩
            go_wp2
            go_ret
            exact ⟨_, rfl, HB.out, .inl (by omega)⟩
          · skip
            refine (Mv.sz_points h.ms.length A.a6 A.c6 (by omega) r4 hr0 hr1 _).mono ?_
            rw [if_neg hc]
            obtain ⟨r5, hr5, hz0, hz1⟩ : ∃ x : Int, r4 - h.ms.length = x ∧ 0 ≤ x ∧ x ≤ 1048576 := ⟨_, rfl, by omega, by omega⟩
            rw [hr5]
            rintro e w9 ⟨rfl, rfl⟩
            have HM := Lib.hid (show h.ms.length ≤ 1048576 by omega)
            clear hr0 hr1 hc hr5 p0 p1 p2 p3 p4 p5 p6 p7 p8 p9 p10 p11 p12 p13 p14 p15 p16 p17 p18 p19 p20
            have hr0 := hz0
            have hr1 := hz1
            clear hz0 hz1
            go_wp2
            go_ret
            exact ⟨_, rfl, HB.out, .inr ⟨by omega, HSM.out, HP.out, HS2.out, HS3.out, HS4.out, HN.out, HM.out⟩⟩
end Go.Proofs.YtgmdfkmmbcpikaaGreat.Hd

/- laws.toHerd: a copy of a herd, with the rows that it owns. -/
namespace Go.Proofs.YtgmdfkmmbcpikaaGreat.Hd
open Go.RowKit Go.Deep
open Go.ChangeShapes Go.WideShapes
open Go.Proofs.YtgmdfkmmbcpikaaGreat.C1
open Go.Proofs.YtgmdfkmmbcpikaaGreat.C2
open Go.Proofs.YtgmdfkmmbcpikaaGreat.Smps
open Go.Proofs.YtgmdfkmmbcpikaaGreat.Mem
open Go.Proofs.YtgmdfkmmbcpikaaGreat.Ser
open Go.Proofs.YtgmdfkmmbcpikaaGreat.Pd
open Go.Proofs.YtgmdfkmmbcpikaaGreat.Pds
open Go.Proofs.YtgmdfkmmbcpikaaGreat.Gl
open Go.Proofs.YtgmdfkmmbcpikaaGreat.Gls
open Go.Proofs.YtgmdfkmmbcpikaaGreat.Pl
open Go.Proofs.YtgmdfkmmbcpikaaGreat.Set
open Go.Proofs.YtgmdfkmmbcpikaaGreat.To
open Go.Proofs.YtgmdfkmmbcpikaaGreat.Ser2 (cells_new OwnR)
set_option linter.unusedVariables false

/-! ### Copies. -/
def ToHd (h : Hd) (w : World) (e : Ending) (w' : World) : Prop := ∃ (A : Ad) (T1 T2 T3 T4 T5 : Nat), e = .returned (hdV h A) ∧ HdAt w' h A ∧ HdOwn w' w.heap.size h A T1 T2 T3 T4 T5 ∧ (A.c0 = h.st.gs.length ∧ A.c1 = h.st.bh.up.ps.length ∧ A.c2 = h.st.bh.dn.ps.length ∧ A.c3 = h.ps.length ∧ A.c4 = h.ss.length ∧ A.c5 = h.ns.length ∧ A.c6 = h.ms.length) ∧ Below w.heap.size w w'
theorem ToHd_mk {h : Hd} {w w2 w3 w4 w5 w6 w' : World} {g0 g1 g2 g3 g4 g5 g6 x1 x2 x3 x4 : Nat} {ns : List Sv}
    (U0 : Upper (w.heap.size + 3) w2 w') (U3 : Upper (w.heap.size + 3) w3 w') (U4 : Upper (w.heap.size + 3) w4 w') (U5 : Upper (w.heap.size + 3) w5 w') (U6 : Upper (w.heap.size + 3) w6 w') (HB : Below w.heap.size w w')
    (F1 : g0 < g1) (F2 : g1 < g2) (F3 : g2 < w2.heap.size)
    (O0 : OwnG w2 (w.heap.size + 3) (.slice (some ⟨g0, 0, none⟩) h.st.gs.length h.st.gs.length) h.st.gs) (O1 : OwnL w2 (w.heap.size + 3) (.slice (some ⟨g1, 0, none⟩) h.st.bh.up.ps.length h.st.bh.up.ps.length) h.st.bh.up.ps) (O2 : OwnL w2 (w.heap.size + 3) (.slice (some ⟨g2, 0, none⟩) h.st.bh.dn.ps.length h.st.bh.dn.ps.length) h.st.bh.dn.ps)
    (O3 : OwnD w3 x1 (.slice (some ⟨g3, 0, none⟩) h.ps.length h.ps.length) h.ps) (HNS : ns.map Sv.s = h.ss) (O4 : OwnR w4 x2 (.slice (some ⟨g4, 0, none⟩) h.ss.length h.ss.length) ns) (G4 : Ser2.Good w4 x2 g4 ns) (O5 : Nt.OwnP w5 x3 (.slice (some ⟨g5, 0, none⟩) h.ns.length h.ns.length) h.ns) (O6 : Mv.OwnP w6 x4 (.slice (some ⟨g6, 0, none⟩) h.ms.length h.ms.length) h.ms)
    (Q1 : w2.heap.size ≤ x1) (S3 : x1 ≤ w3.heap.size) (Q2 : w3.heap.size ≤ x2) (S4 : x2 ≤ w4.heap.size) (Q3 : w4.heap.size ≤ x3) (S5 : x3 ≤ w5.heap.size) (Q4 : w5.heap.size ≤ x4) (S6 : x4 ≤ w6.heap.size) (V1 : w.heap.size + 3 ≤ x1) :
    ToHd h w (.returned (.agg #[.int .i64 h.st.rl.dl, .int .i64 h.st.rl.fr, .int .i64 h.st.rl.wi, .slice (some ⟨g0, 0, none⟩) h.st.gs.length h.st.gs.length, .slice (some ⟨g1, 0, none⟩) h.st.bh.up.ps.length h.st.bh.up.ps.length, .int .i64 h.st.bh.up.sel, .int .i64 h.st.bh.up.win, .slice (some ⟨g2, 0, none⟩) h.st.bh.dn.ps.length h.st.bh.dn.ps.length, .int .i64 h.st.bh.dn.sel, .int .i64 h.st.bh.dn.win, .int .i64 h.st.bh.mn, .int .i64 h.st.bh.mx, .int .i64 h.now, .int .i64 h.cnt, .int .i64 h.rev, .slice (some ⟨g3, 0, none⟩) h.ps.length h.ps.length, .slice (some ⟨g4, 0, none⟩) h.ss.length h.ss.length, .slice (some ⟨g5, 0, none⟩) h.ns.length h.ns.length, .slice (some ⟨g6, 0, none⟩) h.ms.length h.ms.length, .int .i64 h.cnd, .int .i64 h.flt])) w' := by
  have P0 := row_up O0 (Nat.le_refl _) U0
  have P1 := row_up O1 (Nat.le_refl _) U0
  have P2 := row_up O2 (Nat.le_refl _) U0
  have P3 := row_up O3 V1 U3
  have P4 := row_up O4 (by omega) U4
  have PG := good_up G4 (by omega) U4
  have P5 := row_up O5 (by omega) U5
  have P6 := row_up O6 (by omega) U6
  have e4 : ns.length = h.ss.length := by have := congrArg List.length HNS; simpa using this
  have P4' : OwnR w' x2 (.slice (some ⟨g4, 0, none⟩) ns.length ns.length) ns := by rw [e4]; exact P4
  refine ⟨⟨some ⟨g0, 0, none⟩, h.st.gs.length, some ⟨g1, 0, none⟩, h.st.bh.up.ps.length, some ⟨g2, 0, none⟩, h.st.bh.dn.ps.length, some ⟨g3, 0, none⟩, h.ps.length, some ⟨g4, 0, none⟩, h.ss.length, some ⟨g5, 0, none⟩, h.ns.length, some ⟨g6, 0, none⟩, h.ms.length⟩, x1, x2, x3, x4, w6.heap.size, rfl, ⟨gls_of P0, OwnL.pts P1, OwnL.pts P2, pds_of P3, ⟨ns, HNS, Ser2.srs_of P4' PG⟩, Nt.OwnP.pts P5, Mv.OwnP.pts P6⟩, ?_, ⟨rfl, rfl, rfl, rfl, rfl, rfl, rfl⟩, HB⟩
  have l3 := own_lt O3 _ _ _ rfl
  have l4 := own_lt O4 _ _ _ rfl
  have l5 := own_lt O5 _ _ _ rfl
  have l6 := own_lt O6 _ _ _ rfl
  exact ⟨row_weak P0 (by omega), row_weak P1 (by omega), row_weak P2 (by omega), ⟨g0, g1, g2, rfl, rfl, rfl, F1, F2, by omega⟩, P3, ⟨g3, rfl, by omega⟩, ⟨g4, ns, rfl, HNS, P4, PG, by omega, fun l hl b o s e => Nat.lt_of_lt_of_le (good_und G4 l hl b o s e) Q3⟩, P5, ⟨g5, rfl, by omega⟩, P6, ⟨g6, rfl, l6⟩, by omega, by omega, by omega, by omega, S6, U6.size⟩
set_option maxHeartbeats 8000000 in
set_option maxRecDepth 20000 in
theorem to_herd (h : Hd) (hs : h.small) (A : Ad) (w : World) (k : HdAt w h A) : Calls Tryz.prog 8 #[hdV h A] w (ToHd h w) := by
  unfold hdV
  have HK := Lib.hid k
  have HS := Lib.hid hs
  clear k hs
  go_enter Tryz.func8, Tryz.ntmps8
  go_wp2_with fail
  refine (to_setupO h.st HS.out.st A.a0 A.c0 A.a1 A.c1 A.a2 A.c2 _ ?_ ?_ ?_).mono ?_
  · exact HK.out.g.kept (box3_below _ _ _ _)
  · exact HK.out.u.kept (box3_below _ _ _ _)
  · exact HK.out.d.kept (box3_below _ _ _ _)
  rintro e w2 ⟨g0, g1, g2, rfl, hg, hu, hd, hb, q0, q1, q2⟩
  obtain ⟨k0, k1, k2, hB, hz⟩ := SdT.three_read hb
  have K0 : Hid (CW21 w2 w.heap.size _ _ _ _ _ _ _ _ _ _ _ _ _ _ _ _ _ _ _ _ _) := k0
  have K1 : Hid (CW21 w2 (w.heap.size + 1) _ _ _ _ _ _ _ _ _ _ _ _ _ _ _ _ _ _ _ _ _) := k1
  have K2 : Hid (CW21 w2 (w.heap.size + 2) _ _ _ _ _ _ _ _ _ _ _ _ _ _ _ _ _ _ _ _ _) := k2
  have HB := Lib.hid hB
  have HZ := Lib.hid hz
  clear k0 k1 k2 hB hz hb
  unfold stV
  have O0 : Hid (OwnG w2 (w.heap.size + 3) (.slice (some ⟨g0, 0, none⟩) h.st.gs.length h.st.gs.length) h.st.gs) := row_weak hg (by simp)
  have O1 : Hid (OwnL w2 (w.heap.size + 3) (.slice (some ⟨g1, 0, none⟩) h.st.bh.up.ps.length h.st.bh.up.ps.length) h.st.bh.up.ps) := row_weak hu (by simp)
  have O2 : Hid (OwnL w2 (w.heap.size + 3) (.slice (some ⟨g2, 0, none⟩) h.st.bh.dn.ps.length h.st.bh.dn.ps.length) h.st.bh.dn.ps) := row_weak hd (by simp)
  have U0 := Lib.hid (Upper.refl (w.heap.size + 3) w2)
  have F1 := Lib.hid q1
  have F2 := Lib.hid q2
  have F3 := Lib.hid (own_lt hd g2 0 none rfl)
  clear hg hu hd q0 q1 q2
  obtain ⟨⟨p0, p1, p2, p3, p4, p5, p6, p7, p8, p9, p10, p11, p12, p13, p14, p15, p16, p17, p18, p19, p20⟩, -⟩ := K0.out.get
  go_upto_region 3 with (first | (refine store_head rfl 48 _ _ rfl (w.heap.size + 2) #[.int .i64 h.st.rl.dl, .int .i64 h.st.rl.fr, .int .i64 h.st.rl.wi, .slice (some ⟨g0, 0, none⟩) h.st.gs.length h.st.gs.length, .slice (some ⟨g1, 0, none⟩) h.st.bh.up.ps.length h.st.bh.up.ps.length, .int .i64 h.st.bh.up.sel, .int .i64 h.st.bh.up.win, .slice (some ⟨g2, 0, none⟩) h.st.bh.dn.ps.length h.st.bh.dn.ps.length, .int .i64 h.st.bh.dn.sel, .int .i64 h.st.bh.dn.win, .int .i64 h.st.bh.mn, .int .i64 h.st.bh.mx] rfl rfl [.int .i64 0, .int .i64 0, .int .i64 0, .slice none 0 0, .slice none 0 0, .int .i64 0, .int .i64 0, .slice none 0 0, .int .i64 0, .int .i64 0, .int .i64 0, .int .i64 0] [.int .i64 0, .int .i64 0, .int .i64 0, .slice none 0 0, .slice none 0 0, .slice none 0 0, .slice none 0 0, .int .i64 0, .int .i64 0] K2.out rfl info_stp (by simp [Value.oneCell']) ?_; intro V hc ho))
  clear p0 p1 p2 p3 p4 p5 p6 p7 p8 p9 p10 p11 p12 p13 p14 p15 p16 p17 p18 p19 p20
  have HBn := Lib.hid (HB.out.trans (Only.below ho (show w.heap.size ≤ w.heap.size + 2 by omega) HB.out.size))
  have HZn := Lib.hid (show w.heap.size + 2 < V.heap.size from Nat.lt_of_lt_of_le HZ.out ho.size)
  have K0n : Hid (CW21 V w.heap.size _ _ _ _ _ _ _ _ _ _ _ _ _ _ _ _ _ _ _ _ _) := cells_only K0.out ho (by omega)
  have K1n : Hid (CW21 V (w.heap.size + 1) _ _ _ _ _ _ _ _ _ _ _ _ _ _ _ _ _ _ _ _ _) := cells_only K1.out ho (by omega)
  have K2n : Hid (CW21 V (w.heap.size + 2) _ _ _ _ _ _ _ _ _ _ _ _ _ _ _ _ _ _ _ _ _) := hc
  have HV0 := Lib.hid ho.size
  have U0n := Lib.hid (U0.out.trans (up_only ho (by omega)))
  clear HB HZ K0 K1 K2 ho hc U0
  have HB := HBn
  have HZ := HZn
  have K0 := K0n
  have K1 := K1n
  have K2 := K2n
  have U0 := U0n
  clear HBn HZn K0n K1n K2n U0n
  obtain ⟨⟨p0, p1, p2, p3, p4, p5, p6, p7, p8, p9, p10, p11, p12, p13, p14, p15, p16, p17, p18, p19, p20⟩, -⟩ := K0.out.get
  obtain ⟨⟨-, -, -, -, -, -, -, -, -, -, -, -, d12, d13, d14, -, -, -, -, -, -⟩, -, -, -, -, -, -, -, -, -, -, -, -, e12, e13, e14, -, -, -, -, -, -⟩ := K2.out.get
  have HZn : Hid (w.heap.size + 2 < (((V.setCell ⟨w.heap.size + 2, 12, none⟩ (.int .i64 h.now)).setCell ⟨w.heap.size + 2, 13, none⟩ (.int .i64 h.cnt)).setCell ⟨w.heap.size + 2, 14, none⟩ (.int .i64 h.rev)).heap.size) := by
    have := HZ.out
    exact Lib.hid (by simpa [World.setCell] using this)
  have HQn : Hid (V.heap.size ≤ (((V.setCell ⟨w.heap.size + 2, 12, none⟩ (.int .i64 h.now)).setCell ⟨w.heap.size + 2, 13, none⟩ (.int .i64 h.cnt)).setCell ⟨w.heap.size + 2, 14, none⟩ (.int .i64 h.rev)).heap.size) := Lib.hid (Nat.le_of_eq (by simp [World.setCell]))
  have HBn := Lib.hid ((((HB.out).setCell (p := ⟨w.heap.size + 2, 12, none⟩) (by show w.heap.size ≤ w.heap.size + 2; omega) (.int .i64 h.now)).setCell (p := ⟨w.heap.size + 2, 13, none⟩) (by show w.heap.size ≤ w.heap.size + 2; omega) (.int .i64 h.cnt)).setCell (p := ⟨w.heap.size + 2, 14, none⟩) (by show w.heap.size ≤ w.heap.size + 2; omega) (.int .i64 h.rev))
  have K0n : Hid (CW21 _ w.heap.size _ _ _ _ _ _ _ _ _ _ _ _ _ _ _ _ _ _ _ _ _) := SdT.cells_off (j := 14) (c := w.heap.size + 2) (SdT.cells_off (j := 13) (c := w.heap.size + 2) (SdT.cells_off (j := 12) (c := w.heap.size + 2) (K0.out) (.int .i64 h.now) (by omega)) (.int .i64 h.cnt) (by omega)) (.int .i64 h.rev) (by omega)
  have K1n : Hid (CW21 _ (w.heap.size + 1) _ _ _ _ _ _ _ _ _ _ _ _ _ _ _ _ _ _ _ _ _) := SdT.cells_off (j := 14) (c := w.heap.size + 2) (SdT.cells_off (j := 13) (c := w.heap.size + 2) (SdT.cells_off (j := 12) (c := w.heap.size + 2) (K1.out) (.int .i64 h.now) (by omega)) (.int .i64 h.cnt) (by omega)) (.int .i64 h.rev) (by omega)
  have K2n : Hid (CW21 _ (w.heap.size + 2) _ _ _ _ _ _ _ _ _ _ _ _ _ _ _ _ _ _ _ _ _) := ((CellsW.set K2.out 12 (.int .i64 h.now) (by simp)).set 13 (.int .i64 h.cnt) (by simp)).set 14 (.int .i64 h.rev) (by simp)
  have HUn := Lib.hid ((((Upper.refl (w.heap.size + 3) V).setCell (c := w.heap.size + 2) (by omega) 12 (.int .i64 h.now)).setCell (c := w.heap.size + 2) (by omega) 13 (.int .i64 h.cnt)).setCell (c := w.heap.size + 2) (by omega) 14 (.int .i64 h.rev))
  clear HB HZ K0 K1 K2
  go_wp2_with fail
  clear p0 p1 p2 p3 p4 p5 p6 p7 p8 p9 p10 p11 p12 p13 p14 p15 p16 p17 p18 p19 p20 d12 e12 d13 e13 d14 e14
  obtain ⟨x1, hW⟩ : ∃ W, (((V.setCell ⟨w.heap.size + 2, 12, none⟩ (.int .i64 h.now)).setCell ⟨w.heap.size + 2, 13, none⟩ (.int .i64 h.cnt)).setCell ⟨w.heap.size + 2, 14, none⟩ (.int .i64 h.rev)) = W := ⟨_, rfl⟩
  rw [hW] at HBn HZn HQn K0n K1n K2n HUn ⊢
  clear hW
  have HB := HBn
  clear HBn
  have HZ := HZn
  clear HZn
  have K0 := K0n
  clear K0n
  have K1 := K1n
  clear K1n
  have K2 := K2n
  clear K2n
  have Qx1 := HQn
  clear HQn
  have U0n := Lib.hid (U0.out.trans HUn.out)
  clear U0
  have U0 := U0n
  clear U0n
  clear HUn
  have Qx1n : Hid (w2.heap.size ≤ x1.heap.size) := Lib.hid (Nat.le_trans HV0.out Qx1.out)
  clear Qx1 HV0
  have Qx1 := Qx1n
  clear Qx1n
  refine (to_pods h.ps A.a3 A.c3 x1 (HK.out.p.kept HB.out) HS.out.ps).mono ?_
  rintro e w3 ⟨g3, rfl, ho, hb⟩
  have V1 := Lib.hid (show w.heap.size + 3 ≤ x1.heap.size from HZ.out)
  have O3 := Lib.hid ho
  clear ho
  have HBn := Lib.hid (HB.out.trans (hb.mono HB.out.size))
  have HZn := Lib.hid (show w.heap.size + 2 < w3.heap.size from Nat.lt_of_lt_of_le HZ.out hb.size)
  have K0n : Hid (CW21 w3 w.heap.size _ _ _ _ _ _ _ _ _ _ _ _ _ _ _ _ _ _ _ _ _) := CW21.kept K0.out hb
  have K1n : Hid (CW21 w3 (w.heap.size + 1) _ _ _ _ _ _ _ _ _ _ _ _ _ _ _ _ _ _ _ _ _) := CW21.kept K1.out hb
  have K2n : Hid (CW21 w3 (w.heap.size + 2) _ _ _ _ _ _ _ _ _ _ _ _ _ _ _ _ _ _ _ _ _) := CW21.kept K2.out hb
  have U0n := Lib.hid (U0.out.below hb)
  clear U0
  have U0 := U0n
  clear U0n
  clear HB HZ K0 K1 K2
  have HB := HBn
  clear HBn
  have HZ := HZn
  clear HZn
  have K0 := K0n
  clear K0n
  have K1 := K1n
  clear K1n
  have K2 := K2n
  clear K2n
  have Sw3 := Lib.hid hb.size
  clear hb
  have U3 := Lib.hid (Upper.refl (w.heap.size + 3) w3)
  obtain ⟨⟨p0, p1, p2, p3, p4, p5, p6, p7, p8, p9, p10, p11, p12, p13, p14, p15, p16, p17, p18, p19, p20⟩, -⟩ := K0.out.get
  obtain ⟨⟨-, -, -, -, -, -, -, -, -, -, -, -, -, -, -, d15, -, -, -, -, -⟩, -, -, -, -, -, -, -, -, -, -, -, -, -, -, -, e15, -, -, -, -, -⟩ := K2.out.get
  have HZn : Hid (w.heap.size + 2 < (w3.setCell ⟨w.heap.size + 2, 15, none⟩ (.slice (some ⟨g3, 0, none⟩) h.ps.length h.ps.length)).heap.size) := by
    have := HZ.out
    exact Lib.hid (by simpa [World.setCell] using this)
  have HQn : Hid (w3.heap.size ≤ (w3.setCell ⟨w.heap.size + 2, 15, none⟩ (.slice (some ⟨g3, 0, none⟩) h.ps.length h.ps.length)).heap.size) := Lib.hid (Nat.le_of_eq (by simp [World.setCell]))
  have HBn := Lib.hid ((HB.out).setCell (p := ⟨w.heap.size + 2, 15, none⟩) (by show w.heap.size ≤ w.heap.size + 2; omega) (.slice (some ⟨g3, 0, none⟩) h.ps.length h.ps.length))
  have K0n : Hid (CW21 _ w.heap.size _ _ _ _ _ _ _ _ _ _ _ _ _ _ _ _ _ _ _ _ _) := SdT.cells_off (j := 15) (c := w.heap.size + 2) (K0.out) (.slice (some ⟨g3, 0, none⟩) h.ps.length h.ps.length) (by omega)
  have K1n : Hid (CW21 _ (w.heap.size + 1) _ _ _ _ _ _ _ _ _ _ _ _ _ _ _ _ _ _ _ _ _) := SdT.cells_off (j := 15) (c := w.heap.size + 2) (K1.out) (.slice (some ⟨g3, 0, none⟩) h.ps.length h.ps.length) (by omega)
  have K2n : Hid (CW21 _ (w.heap.size + 2) _ _ _ _ _ _ _ _ _ _ _ _ _ _ _ _ _ _ _ _ _) := CellsW.set K2.out 15 (.slice (some ⟨g3, 0, none⟩) h.ps.length h.ps.length) (by simp)
  have HUn := Lib.hid ((Upper.refl (w.heap.size + 3) w3).setCell (c := w.heap.size + 2) (by omega) 15 (.slice (some ⟨g3, 0, none⟩) h.ps.length h.ps.length))
  clear HB HZ K0 K1 K2
  go_wp2_with fail
  clear p0 p1 p2 p3 p4 p5 p6 p7 p8 p9 p10 p11 p12 p13 p14 p15 p16 p17 p18 p19 p20 d15 e15
  obtain ⟨x2, hW⟩ : ∃ W, (w3.setCell ⟨w.heap.size + 2, 15, none⟩ (.slice (some ⟨g3, 0, none⟩) h.ps.length h.ps.length)) = W := ⟨_, rfl⟩
  rw [hW] at HBn HZn HQn K0n K1n K2n HUn ⊢
  clear hW
  have HB := HBn
  clear HBn
  have HZ := HZn
  clear HZn
  have K0 := K0n
  clear K0n
  have K1 := K1n
  clear K1n
  have K2 := K2n
  clear K2n
  have Qx2 := HQn
  clear HQn
  have U0n := Lib.hid (U0.out.trans HUn.out)
  clear U0
  have U0 := U0n
  clear U0n
  have U3n := Lib.hid (U3.out.trans HUn.out)
  clear U3
  have U3 := U3n
  clear U3n
  clear HUn
  obtain ⟨ls, hls, hsr⟩ := HK.out.s
  have HLS := Lib.hid hls
  have HSR := Lib.hid hsr
  clear hls hsr
  refine (to_store h.ss ls HLS.out A.a4 A.c4 x2 (HSR.out.kept HB.out) HS.out.ss HS.out.pt).mono ?_
  rintro e w4 ⟨g4, ns, rfl, hns, ho, hgd, hb⟩
  have V2 := Lib.hid (show w.heap.size + 3 ≤ x2.heap.size from HZ.out)
  have O4 := Lib.hid ho
  have G4 := Lib.hid hgd
  have HNS := Lib.hid hns
  clear ho hgd hns HLS HSR
  have HBn := Lib.hid (HB.out.trans (hb.mono HB.out.size))
  have HZn := Lib.hid (show w.heap.size + 2 < w4.heap.size from Nat.lt_of_lt_of_le HZ.out hb.size)
  have K0n : Hid (CW21 w4 w.heap.size _ _ _ _ _ _ _ _ _ _ _ _ _ _ _ _ _ _ _ _ _) := CW21.kept K0.out hb
  have K1n : Hid (CW21 w4 (w.heap.size + 1) _ _ _ _ _ _ _ _ _ _ _ _ _ _ _ _ _ _ _ _ _) := CW21.kept K1.out hb
  have K2n : Hid (CW21 w4 (w.heap.size + 2) _ _ _ _ _ _ _ _ _ _ _ _ _ _ _ _ _ _ _ _ _) := CW21.kept K2.out hb
  have U0n := Lib.hid (U0.out.below hb)
  clear U0
  have U0 := U0n
  clear U0n
  have U3n := Lib.hid (U3.out.below hb)
  clear U3
  have U3 := U3n
  clear U3n
  clear HB HZ K0 K1 K2
  have HB := HBn
  clear HBn
  have HZ := HZn
  clear HZn
  have K0 := K0n
  clear K0n
  have K1 := K1n
  clear K1n
  have K2 := K2n
  clear K2n
  have Sw4 := Lib.hid hb.size
  clear hb
  have U4 := Lib.hid (Upper.refl (w.heap.size + 3) w4)
  obtain ⟨⟨p0, p1, p2, p3, p4, p5, p6, p7, p8, p9, p10, p11, p12, p13, p14, p15, p16, p17, p18, p19, p20⟩, -⟩ := K0.out.get
  obtain ⟨⟨-, -, -, -, -, -, -, -, -, -, -, -, -, -, -, -, d16, -, -, -, -⟩, -, -, -, -, -, -, -, -, -, -, -, -, -, -, -, -, e16, -, -, -, -⟩ := K2.out.get
  have HZn : Hid (w.heap.size + 2 < (w4.setCell ⟨w.heap.size + 2, 16, none⟩ (.slice (some ⟨g4, 0, none⟩) h.ss.length h.ss.length)).heap.size) := by
    have := HZ.out
    exact Lib.hid (by simpa [World.setCell] using this)
  have HQn : Hid (w4.heap.size ≤ (w4.setCell ⟨w.heap.size + 2, 16, none⟩ (.slice (some ⟨g4, 0, none⟩) h.ss.length h.ss.length)).heap.size) := Lib.hid (Nat.le_of_eq (by simp [World.setCell]))
  have HBn := Lib.hid ((HB.out).setCell (p := ⟨w.heap.size + 2, 16, none⟩) (by show w.heap.size ≤ w.heap.size + 2; omega) (.slice (some ⟨g4, 0, none⟩) h.ss.length h.ss.length))
  have K0n : Hid (CW21 _ w.heap.size _ _ _ _ _ _ _ _ _ _ _ _ _ _ _ _ _ _ _ _ _) := SdT.cells_off (j := 16) (c := w.heap.size + 2) (K0.out) (.slice (some ⟨g4, 0, none⟩) h.ss.length h.ss.length) (by omega)
  have K1n : Hid (CW21 _ (w.heap.size + 1) _ _ _ _ _ _ _ _ _ _ _ _ _ _ _ _ _ _ _ _ _) := SdT.cells_off (j := 16) (c := w.heap.size + 2) (K1.out) (.slice (some ⟨g4, 0, none⟩) h.ss.length h.ss.length) (by omega)
  have K2n : Hid (CW21 _ (w.heap.size + 2) _ _ _ _ _ _ _ _ _ _ _ _ _ _ _ _ _ _ _ _ _) := CellsW.set K2.out 16 (.slice (some ⟨g4, 0, none⟩) h.ss.length h.ss.length) (by simp)
  have HUn := Lib.hid ((Upper.refl (w.heap.size + 3) w4).setCell (c := w.heap.size + 2) (by omega) 16 (.slice (some ⟨g4, 0, none⟩) h.ss.length h.ss.length))
  clear HB HZ K0 K1 K2
  go_wp2_with fail
  clear p0 p1 p2 p3 p4 p5 p6 p7 p8 p9 p10 p11 p12 p13 p14 p15 p16 p17 p18 p19 p20 d16 e16
  obtain ⟨x3, hW⟩ : ∃ W, (w4.setCell ⟨w.heap.size + 2, 16, none⟩ (.slice (some ⟨g4, 0, none⟩) h.ss.length h.ss.length)) = W := ⟨_, rfl⟩
  rw [hW] at HBn HZn HQn K0n K1n K2n HUn ⊢
  clear hW
  have HB := HBn
  clear HBn
  have HZ := HZn
  clear HZn
  have K0 := K0n
  clear K0n
  have K1 := K1n
  clear K1n
  have K2 := K2n
  clear K2n
  have Qx3 := HQn
  clear HQn
  have U0n := Lib.hid (U0.out.trans HUn.out)
  clear U0
  have U0 := U0n
  clear U0n
  have U3n := Lib.hid (U3.out.trans HUn.out)
  clear U3
  have U3 := U3n
  clear U3n
  have U4n := Lib.hid (U4.out.trans HUn.out)
  clear U4
  have U4 := U4n
  clear U4n
  clear HUn
  refine (Nt.to_points h.ns A.a5 A.c5 x3 (HK.out.n.kept HB.out) HS.out.ns).mono ?_
  rintro e w5 ⟨g5, rfl, ho, hb⟩
  have V3 := Lib.hid (show w.heap.size + 3 ≤ x3.heap.size from HZ.out)
  have O5 := Lib.hid ho
  clear ho
  have HBn := Lib.hid (HB.out.trans (hb.mono HB.out.size))
  have HZn := Lib.hid (show w.heap.size + 2 < w5.heap.size from Nat.lt_of_lt_of_le HZ.out hb.size)
  have K0n : Hid (CW21 w5 w.heap.size _ _ _ _ _ _ _ _ _ _ _ _ _ _ _ _ _ _ _ _ _) := CW21.kept K0.out hb
  have K1n : Hid (CW21 w5 (w.heap.size + 1) _ _ _ _ _ _ _ _ _ _ _ _ _ _ _ _ _ _ _ _ _) := CW21.kept K1.out hb
  have K2n : Hid (CW21 w5 (w.heap.size + 2) _ _ _ _ _ _ _ _ _ _ _ _ _ _ _ _ _ _ _ _ _) := CW21.kept K2.out hb
  have U0n := Lib.hid (U0.out.below hb)
  clear U0
  have U0 := U0n
  clear U0n
  have U3n := Lib.hid (U3.out.below hb)
  clear U3
  have U3 := U3n
  clear U3n
  have U4n := Lib.hid (U4.out.below hb)
  clear U4
  have U4 := U4n
  clear U4n
  clear HB HZ K0 K1 K2
  have HB := HBn
  clear HBn
  have HZ := HZn
  clear HZn
  have K0 := K0n
  clear K0n
  have K1 := K1n
  clear K1n
  have K2 := K2n
  clear K2n
  have Sw5 := Lib.hid hb.size
  clear hb
  have U5 := Lib.hid (Upper.refl (w.heap.size + 3) w5)
  obtain ⟨⟨p0, p1, p2, p3, p4, p5, p6, p7, p8, p9, p10, p11, p12, p13, p14, p15, p16, p17, p18, p19, p20⟩, -⟩ := K0.out.get
  obtain ⟨⟨-, -, -, -, -, -, -, -, -, -, -, -, -, -, -, -, -, d17, -, -, -⟩, -, -, -, -, -, -, -, -, -, -, -, -, -, -, -, -, -, e17, -, -, -⟩ := K2.out.get
  have HZn : Hid (w.heap.size + 2 < (w5.setCell ⟨w.heap.size + 2, 17, none⟩ (.slice (some ⟨g5, 0, none⟩) h.ns.length h.ns.length)).heap.size) := by
    have := HZ.out
    exact Lib.hid (by simpa [World.setCell] using this)
  have HQn : Hid (w5.heap.size ≤ (w5.setCell ⟨w.heap.size + 2, 17, none⟩ (.slice (some ⟨g5, 0, none⟩) h.ns.length h.ns.length)).heap.size) := Lib.hid (Nat.le_of_eq (by simp [World.setCell]))
  have HBn := Lib.hid ((HB.out).setCell (p := ⟨w.heap.size + 2, 17, none⟩) (by show w.heap.size ≤ w.heap.size + 2; omega) (.slice (some ⟨g5, 0, none⟩) h.ns.length h.ns.length))
  have K0n : Hid (CW21 _ w.heap.size _ _ _ _ _ _ _ _ _ _ _ _ _ _ _ _ _ _ _ _ _) := SdT.cells_off (j := 17) (c := w.heap.size + 2) (K0.out) (.slice (some ⟨g5, 0, none⟩) h.ns.length h.ns.length) (by omega)
  have K1n : Hid (CW21 _ (w.heap.size + 1) _ _ _ _ _ _ _ _ _ _ _ _ _ _ _ _ _ _ _ _ _) := SdT.cells_off (j := 17) (c := w.heap.size + 2) (K1.out) (.slice (some ⟨g5, 0, none⟩) h.ns.length h.ns.length) (by omega)
  have K2n : Hid (CW21 _ (w.heap.size + 2) _ _ _ _ _ _ _ _ _ _ _ _ _ _ _ _ _ _ _ _ _) := CellsW.set K2.out 17 (.slice (some ⟨g5, 0, none⟩) h.ns.length h.ns.length) (by simp)
  have HUn := Lib.hid ((Upper.refl (w.heap.size + 3) w5).setCell (c := w.heap.size + 2) (by omega) 17 (.slice (some ⟨g5, 0, none⟩) h.ns.length h.ns.length))
  clear HB HZ K0 K1 K2
  go_wp2_with fail
  clear p0 p1 p2 p3 p4 p5 p6 p7 p8 p9 p10 p11 p12 p13 p14 p15 p16 p17 p18 p19 p20 d17 e17
  obtain ⟨x4, hW⟩ : ∃ W, (w5.setCell ⟨w.heap.size + 2, 17, none⟩ (.slice (some ⟨g5, 0, none⟩) h.ns.length h.ns.length)) = W := ⟨_, rfl⟩
  rw [hW] at HBn HZn HQn K0n K1n K2n HUn ⊢
  clear hW
  have HB := HBn
  clear HBn
  have HZ := HZn
  clear HZn
  have K0 := K0n
  clear K0n
  have K1 := K1n
  clear K1n
  have K2 := K2n
  clear K2n
  have Qx4 := HQn
  clear HQn
  have U0n := Lib.hid (U0.out.trans HUn.out)
  clear U0
  have U0 := U0n
  clear U0n
  have U3n := Lib.hid (U3.out.trans HUn.out)
  clear U3
  have U3 := U3n
  clear U3n
  have U4n := Lib.hid (U4.out.trans HUn.out)
  clear U4
  have U4 := U4n
  clear U4n
  have U5n := Lib.hid (U5.out.trans HUn.out)
  clear U5
  have U5 := U5n
  clear U5n
  clear HUn
  refine (Mv.to_points h.ms A.a6 A.c6 x4 (HK.out.m.kept HB.out) HS.out.ms).mono ?_
  rintro e w6 ⟨g6, rfl, ho, hb⟩
  have V4 := Lib.hid (show w.heap.size + 3 ≤ x4.heap.size from HZ.out)
  have O6 := Lib.hid ho
  clear ho
  have HBn := Lib.hid (HB.out.trans (hb.mono HB.out.size))
  have HZn := Lib.hid (show w.heap.size + 2 < w6.heap.size from Nat.lt_of_lt_of_le HZ.out hb.size)
  have K0n : Hid (CW21 w6 w.heap.size _ _ _ _ _ _ _ _ _ _ _ _ _ _ _ _ _ _ _ _ _) := CW21.kept K0.out hb
  have K1n : Hid (CW21 w6 (w.heap.size + 1) _ _ _ _ _ _ _ _ _ _ _ _ _ _ _ _ _ _ _ _ _) := CW21.kept K1.out hb
  have K2n : Hid (CW21 w6 (w.heap.size + 2) _ _ _ _ _ _ _ _ _ _ _ _ _ _ _ _ _ _ _ _ _) := CW21.kept K2.out hb
  have U0n := Lib.hid (U0.out.below hb)
  clear U0
  have U0 := U0n
  clear U0n
  have U3n := Lib.hid (U3.out.below hb)
  clear U3
  have U3 := U3n
  clear U3n
  have U4n := Lib.hid (U4.out.below hb)
  clear U4
  have U4 := U4n
  clear U4n
  have U5n := Lib.hid (U5.out.below hb)
  clear U5
  have U5 := U5n
  clear U5n
  clear HB HZ K0 K1 K2
  have HB := HBn
  clear HBn
  have HZ := HZn
  clear HZn
  have K0 := K0n
  clear K0n
  have K1 := K1n
  clear K1n
  have K2 := K2n
  clear K2n
  have Sw6 := Lib.hid hb.size
  clear hb
  have U6 := Lib.hid (Upper.refl (w.heap.size + 3) w6)
  obtain ⟨⟨p0, p1, p2, p3, p4, p5, p6, p7, p8, p9, p10, p11, p12, p13, p14, p15, p16, p17, p18, p19, p20⟩, -⟩ := K0.out.get
  obtain ⟨⟨-, -, -, -, -, -, -, -, -, -, -, -, -, -, -, -, -, -, d18, d19, d20⟩, -, -, -, -, -, -, -, -, -, -, -, -, -, -, -, -, -, -, e18, e19, e20⟩ := K2.out.get
  have HZn : Hid (w.heap.size + 2 < (((w6.setCell ⟨w.heap.size + 2, 18, none⟩ (.slice (some ⟨g6, 0, none⟩) h.ms.length h.ms.length)).setCell ⟨w.heap.size + 2, 19, none⟩ (.int .i64 h.cnd)).setCell ⟨w.heap.size + 2, 20, none⟩ (.int .i64 h.flt)).heap.size) := by
    have := HZ.out
    exact Lib.hid (by simpa [World.setCell] using this)
  have HQn : Hid (w6.heap.size ≤ (((w6.setCell ⟨w.heap.size + 2, 18, none⟩ (.slice (some ⟨g6, 0, none⟩) h.ms.length h.ms.length)).setCell ⟨w.heap.size + 2, 19, none⟩ (.int .i64 h.cnd)).setCell ⟨w.heap.size + 2, 20, none⟩ (.int .i64 h.flt)).heap.size) := Lib.hid (Nat.le_of_eq (by simp [World.setCell]))
  have HBn := Lib.hid ((((HB.out).setCell (p := ⟨w.heap.size + 2, 18, none⟩) (by show w.heap.size ≤ w.heap.size + 2; omega) (.slice (some ⟨g6, 0, none⟩) h.ms.length h.ms.length)).setCell (p := ⟨w.heap.size + 2, 19, none⟩) (by show w.heap.size ≤ w.heap.size + 2; omega) (.int .i64 h.cnd)).setCell (p := ⟨w.heap.size + 2, 20, none⟩) (by show w.heap.size ≤ w.heap.size + 2; omega) (.int .i64 h.flt))
  have K0n : Hid (CW21 _ w.heap.size _ _ _ _ _ _ _ _ _ _ _ _ _ _ _ _ _ _ _ _ _) := SdT.cells_off (j := 20) (c := w.heap.size + 2) (SdT.cells_off (j := 19) (c := w.heap.size + 2) (SdT.cells_off (j := 18) (c := w.heap.size + 2) (K0.out) (.slice (some ⟨g6, 0, none⟩) h.ms.length h.ms.length) (by omega)) (.int .i64 h.cnd) (by omega)) (.int .i64 h.flt) (by omega)
  have K1n : Hid (CW21 _ (w.heap.size + 1) _ _ _ _ _ _ _ _ _ _ _ _ _ _ _ _ _ _ _ _ _) := SdT.cells_off (j := 20) (c := w.heap.size + 2) (SdT.cells_off (j := 19) (c := w.heap.size + 2) (SdT.cells_off (j := 18) (c := w.heap.size + 2) (K1.out) (.slice (some ⟨g6, 0, none⟩) h.ms.length h.ms.length) (by omega)) (.int .i64 h.cnd) (by omega)) (.int .i64 h.flt) (by omega)
  have K2n : Hid (CW21 _ (w.heap.size + 2) _ _ _ _ _ _ _ _ _ _ _ _ _ _ _ _ _ _ _ _ _) := ((CellsW.set K2.out 18 (.slice (some ⟨g6, 0, none⟩) h.ms.length h.ms.length) (by simp)).set 19 (.int .i64 h.cnd) (by simp)).set 20 (.int .i64 h.flt) (by simp)
  have HUn := Lib.hid ((((Upper.refl (w.heap.size + 3) w6).setCell (c := w.heap.size + 2) (by omega) 18 (.slice (some ⟨g6, 0, none⟩) h.ms.length h.ms.length)).setCell (c := w.heap.size + 2) (by omega) 19 (.int .i64 h.cnd)).setCell (c := w.heap.size + 2) (by omega) 20 (.int .i64 h.flt))
  clear HB HZ K0 K1 K2
  go_upto_region 12 with fail
  clear p0 p1 p2 p3 p4 p5 p6 p7 p8 p9 p10 p11 p12 p13 p14 p15 p16 p17 p18 p19 p20 d18 e18 d19 e19 d20 e20
  obtain ⟨x5, hW⟩ : ∃ W, (((w6.setCell ⟨w.heap.size + 2, 18, none⟩ (.slice (some ⟨g6, 0, none⟩) h.ms.length h.ms.length)).setCell ⟨w.heap.size + 2, 19, none⟩ (.int .i64 h.cnd)).setCell ⟨w.heap.size + 2, 20, none⟩ (.int .i64 h.flt)) = W := ⟨_, rfl⟩
  rw [hW] at HBn HZn HQn K0n K1n K2n HUn ⊢
  clear hW
  have HB := HBn
  clear HBn
  have HZ := HZn
  clear HZn
  have K0 := K0n
  clear K0n
  have K1 := K1n
  clear K1n
  have K2 := K2n
  clear K2n
  have Qx5 := HQn
  clear HQn
  have U0n := Lib.hid (U0.out.trans HUn.out)
  clear U0
  have U0 := U0n
  clear U0n
  have U3n := Lib.hid (U3.out.trans HUn.out)
  clear U3
  have U3 := U3n
  clear U3n
  have U4n := Lib.hid (U4.out.trans HUn.out)
  clear U4
  have U4 := U4n
  clear U4n
  have U5n := Lib.hid (U5.out.trans HUn.out)
  clear U5
  have U5 := U5n
  clear U5n
  have U6n := Lib.hid (U6.out.trans HUn.out)
  clear U6
  have U6 := U6n
  clear U6n
  clear HUn
  have HVO := Lib.hid K1
  clear HVO
  go_wp2_with (first | (refine wpList_load_mid rfl 54 _ rfl (w.heap.size + 2) 0 rfl [.int .i64 h.st.rl.dl, .int .i64 h.st.rl.fr, .int .i64 h.st.rl.wi, .slice (some ⟨g0, 0, none⟩) h.st.gs.length h.st.gs.length, .slice (some ⟨g1, 0, none⟩) h.st.bh.up.ps.length h.st.bh.up.ps.length, .int .i64 h.st.bh.up.sel, .int .i64 h.st.bh.up.win, .slice (some ⟨g2, 0, none⟩) h.st.bh.dn.ps.length h.st.bh.dn.ps.length, .int .i64 h.st.bh.dn.sel, .int .i64 h.st.bh.dn.win, .int .i64 h.st.bh.mn, .int .i64 h.st.bh.mx, .int .i64 h.now, .int .i64 h.cnt, .int .i64 h.rev, .slice (some ⟨g3, 0, none⟩) h.ps.length h.ps.length, .slice (some ⟨g4, 0, none⟩) h.ss.length h.ss.length, .slice (some ⟨g5, 0, none⟩) h.ns.length h.ns.length, .slice (some ⟨g6, 0, none⟩) h.ms.length h.ms.length, .int .i64 h.cnd, .int .i64 h.flt] _ (range_all K2.out) Tryz.underlying54 rfl info_hd ?_) | (refine store_head rfl 54 _ _ rfl (w.heap.size + 1) #[.int .i64 h.st.rl.dl, .int .i64 h.st.rl.fr, .int .i64 h.st.rl.wi, .slice (some ⟨g0, 0, none⟩) h.st.gs.length h.st.gs.length, .slice (some ⟨g1, 0, none⟩) h.st.bh.up.ps.length h.st.bh.up.ps.length, .int .i64 h.st.bh.up.sel, .int .i64 h.st.bh.up.win, .slice (some ⟨g2, 0, none⟩) h.st.bh.dn.ps.length h.st.bh.dn.ps.length, .int .i64 h.st.bh.dn.sel, .int .i64 h.st.bh.dn.win, .int .i64 h.st.bh.mn, .int .i64 h.st.bh.mx, .int .i64 h.now, .int .i64 h.cnt, .int .i64 h.rev, .slice (some ⟨g3, 0, none⟩) h.ps.length h.ps.length, .slice (some ⟨g4, 0, none⟩) h.ss.length h.ss.length, .slice (some ⟨g5, 0, none⟩) h.ns.length h.ns.length, .slice (some ⟨g6, 0, none⟩) h.ms.length h.ms.length, .int .i64 h.cnd, .int .i64 h.flt] rfl rfl [.int .i64 0, .int .i64 0, .int .i64 0, .slice none 0 0, .slice none 0 0, .int .i64 0, .int .i64 0, .slice none 0 0, .int .i64 0, .int .i64 0, .int .i64 0, .int .i64 0, .int .i64 0, .int .i64 0, .int .i64 0, .slice none 0 0, .slice none 0 0, .slice none 0 0, .slice none 0 0, .int .i64 0, .int .i64 0] [] K1.out rfl info_hd (by simp [Value.oneCell']) ?_; intro V5 hc ho; have KF : Hid (CW21 V5 (w.heap.size + 1) _ _ _ _ _ _ _ _ _ _ _ _ _ _ _ _ _ _ _ _ _) := hc; obtain ⟨⟨c0, c1, c2, c3, c4, c5, c6, c7, c8, c9, c10, c11, c12, c13, c14, c15, c16, c17, c18, c19, c20⟩, -⟩ := KF.out.get))
  have HBn := Lib.hid (HB.out.trans (Only.below ho (show w.heap.size ≤ w.heap.size + 1 by omega) HB.out.size))
  have U0n := Lib.hid (U0.out.trans (up_only ho (by omega)))
  have U3n := Lib.hid (U3.out.trans (up_only ho (by omega)))
  have U4n := Lib.hid (U4.out.trans (up_only ho (by omega)))
  have U5n := Lib.hid (U5.out.trans (up_only ho (by omega)))
  have U6n := Lib.hid (U6.out.trans (up_only ho (by omega)))
  have hld := run_loadVar_mid (P := Tryz.prog) V5 (w.heap.size + 1) 0 54 [.int .i64 h.st.rl.dl, .int .i64 h.st.rl.fr, .int .i64 h.st.rl.wi, .slice (some ⟨g0, 0, none⟩) h.st.gs.length h.st.gs.length, .slice (some ⟨g1, 0, none⟩) h.st.bh.up.ps.length h.st.bh.up.ps.length, .int .i64 h.st.bh.up.sel, .int .i64 h.st.bh.up.win, .slice (some ⟨g2, 0, none⟩) h.st.bh.dn.ps.length h.st.bh.dn.ps.length, .int .i64 h.st.bh.dn.sel, .int .i64 h.st.bh.dn.win, .int .i64 h.st.bh.mn, .int .i64 h.st.bh.mx, .int .i64 h.now, .int .i64 h.cnt, .int .i64 h.rev, .slice (some ⟨g3, 0, none⟩) h.ps.length h.ps.length, .slice (some ⟨g4, 0, none⟩) h.ss.length h.ss.length, .slice (some ⟨g5, 0, none⟩) h.ns.length h.ns.length, .slice (some ⟨g6, 0, none⟩) h.ms.length h.ms.length, .int .i64 h.cnd, .int .i64 h.flt] _ (range_all KF.out) Tryz.underlying54 rfl info_hd
  clear c0 c1 c2 c3 c4 c5 c6 c7 c8 c9 c10 c11 c12 c13 c14 c15 c16 c17 c18 c19 c20
  refine bodyPost_ret (Ring.ret_cell rfl rfl hld) rfl ?_
  refine ToHd_mk (x1 := x1.heap.size) (x2 := x2.heap.size) (x3 := x3.heap.size) (x4 := x4.heap.size) (U0 := ?_) (U3 := ?_) (U4 := ?_) (U5 := ?_) (U6 := ?_) (HB := ?_) F1.out F2.out F3.out O0.out O1.out O2.out O3.out HNS.out O4.out G4.out O5.out O6.out Qx1.out Sw3.out Qx2.out Sw4.out Qx3.out Sw5.out Qx4.out Sw6.out V1.out
  · exact U0n.out
  · exact U3n.out
  · exact U4n.out
  · exact U5n.out
  · exact U6n.out
  · exact HBn.out
end Go.Proofs.YtgmdfkmmbcpikaaGreat.Hd

/- laws.eqHerd at equals. -/
namespace Go.Proofs.YtgmdfkmmbcpikaaGreat.Hd
open Go.RowKit Go.Deep
open Go.ChangeShapes Go.WideShapes
open Go.Proofs.YtgmdfkmmbcpikaaGreat.C1
open Go.Proofs.YtgmdfkmmbcpikaaGreat.C2
open Go.Proofs.YtgmdfkmmbcpikaaGreat.Smps
open Go.Proofs.YtgmdfkmmbcpikaaGreat.Mem
open Go.Proofs.YtgmdfkmmbcpikaaGreat.Ser
open Go.Proofs.YtgmdfkmmbcpikaaGreat.Pd
open Go.Proofs.YtgmdfkmmbcpikaaGreat.Pds
open Go.Proofs.YtgmdfkmmbcpikaaGreat.Gl
open Go.Proofs.YtgmdfkmmbcpikaaGreat.Gls
open Go.Proofs.YtgmdfkmmbcpikaaGreat.Pl
open Go.Proofs.YtgmdfkmmbcpikaaGreat.Set
open Go.Proofs.YtgmdfkmmbcpikaaGreat.To
open Go.Proofs.YtgmdfkmmbcpikaaGreat.Ser2 (cells_new OwnR)
set_option linter.unusedVariables false

/-! ### Equals. -/
set_option maxHeartbeats 4000000 in
set_option maxRecDepth 20000 in
theorem eq_herd (h : Hd) (hs : h.small) (A B : Ad) (w : World) (k : HdAt w h A) (k' : HdAt w h B) :
    Calls Tryz.prog 10 #[hdV h A, hdV h B] w fun e w' => e = .returned (.bool true) ∧ Below w.heap.size w w' := by
  unfold hdV
  have HK := Lib.hid k
  have HL := Lib.hid k'
  have HS := Lib.hid hs
  clear k k' hs
  go_enter Tryz.func10, Tryz.ntmps10
  go_wp2_with fail
  refine (eq_setup h.st HS.out.st A.a0 A.c0 A.a1 A.c1 A.a2 A.c2 B.a0 B.c0 B.a1 B.c1 B.a2 B.c2 _ ?_ ?_ ?_ ?_ ?_ ?_).mono ?_
  · exact HK.out.g.kept (box2_below _ _ _)
  · exact HK.out.u.kept (box2_below _ _ _)
  · exact HK.out.d.kept (box2_below _ _ _)
  · exact HL.out.g.kept (box2_below _ _ _)
  · exact HL.out.u.kept (box2_below _ _ _)
  · exact HL.out.d.kept (box2_below _ _ _)
  rintro e w2 ⟨rfl, hb⟩
  obtain ⟨k1, k2, hB, hz⟩ := two_read hb
  have HB := Lib.hid hB
  have K1 : Hid (CW21 w2 w.heap.size _ _ _ _ _ _ _ _ _ _ _ _ _ _ _ _ _ _ _ _ _) := k1
  have K2 : Hid (CW21 w2 (w.heap.size + 1) _ _ _ _ _ _ _ _ _ _ _ _ _ _ _ _ _ _ _ _ _) := k2
  clear hb k1 k2 hB hz
  obtain ⟨⟨p0, p1, p2, p3, p4, p5, p6, p7, p8, p9, p10, p11, p12, p13, p14, p15, p16, p17, p18, p19, p20⟩, -⟩ := K1.out.get
  obtain ⟨⟨q0, q1, q2, q3, q4, q5, q6, q7, q8, q9, q10, q11, q12, q13, q14, q15, q16, q17, q18, q19, q20⟩, -⟩ := K2.out.get
  go_wp2_with fail
  refine (eq_pods h.ps A.a3 B.a3 A.c3 B.c3 _ (HK.out.p.kept HB.out) (HL.out.p.kept HB.out) HS.out.ps).mono ?_
  rintro e w3 ⟨rfl, hb⟩
  have HBn := Lib.hid (HB.out.trans (hb.mono HB.out.size))
  have K1n : Hid (CW21 w3 w.heap.size _ _ _ _ _ _ _ _ _ _ _ _ _ _ _ _ _ _ _ _ _) := CW21.kept K1.out hb
  have K2n : Hid (CW21 w3 (w.heap.size + 1) _ _ _ _ _ _ _ _ _ _ _ _ _ _ _ _ _ _ _ _ _) := CW21.kept K2.out hb
  clear HB K1 K2 hb p0 p1 p2 p3 p4 p5 p6 p7 p8 p9 p10 p11 p12 p13 p14 p15 p16 p17 p18 p19 p20 q0 q1 q2 q3 q4 q5 q6 q7 q8 q9 q10 q11 q12 q13 q14 q15 q16 q17 q18 q19 q20
  have HB := HBn
  have K1 := K1n
  have K2 := K2n
  clear HBn K1n K2n
  obtain ⟨⟨p0, p1, p2, p3, p4, p5, p6, p7, p8, p9, p10, p11, p12, p13, p14, p15, p16, p17, p18, p19, p20⟩, -⟩ := K1.out.get
  obtain ⟨⟨q0, q1, q2, q3, q4, q5, q6, q7, q8, q9, q10, q11, q12, q13, q14, q15, q16, q17, q18, q19, q20⟩, -⟩ := K2.out.get
  go_wp2_with fail
  obtain ⟨ls, hls, hsr⟩ := HK.out.s
  obtain ⟨ls2, hls2, hsr2⟩ := HL.out.s
  refine (eq_store h.ss ls ls2 hls hls2 A.a4 B.a4 A.c4 B.c4 _ (hsr.kept HB.out) (hsr2.kept HB.out) HS.out.ss HS.out.pt).mono ?_
  clear hls hsr hls2 hsr2
  rintro e w4 ⟨rfl, hb⟩
  have HBn := Lib.hid (HB.out.trans (hb.mono HB.out.size))
  have K1n : Hid (CW21 w4 w.heap.size _ _ _ _ _ _ _ _ _ _ _ _ _ _ _ _ _ _ _ _ _) := CW21.kept K1.out hb
  have K2n : Hid (CW21 w4 (w.heap.size + 1) _ _ _ _ _ _ _ _ _ _ _ _ _ _ _ _ _ _ _ _ _) := CW21.kept K2.out hb
  clear HB K1 K2 hb p0 p1 p2 p3 p4 p5 p6 p7 p8 p9 p10 p11 p12 p13 p14 p15 p16 p17 p18 p19 p20 q0 q1 q2 q3 q4 q5 q6 q7 q8 q9 q10 q11 q12 q13 q14 q15 q16 q17 q18 q19 q20
  have HB := HBn
  have K1 := K1n
  have K2 := K2n
  clear HBn K1n K2n
  obtain ⟨⟨p0, p1, p2, p3, p4, p5, p6, p7, p8, p9, p10, p11, p12, p13, p14, p15, p16, p17, p18, p19, p20⟩, -⟩ := K1.out.get
  obtain ⟨⟨q0, q1, q2, q3, q4, q5, q6, q7, q8, q9, q10, q11, q12, q13, q14, q15, q16, q17, q18, q19, q20⟩, -⟩ := K2.out.get
  go_wp2_with fail
  refine (Nt.eq_points h.ns A.a5 B.a5 A.c5 B.c5 _ (HK.out.n.kept HB.out) (HL.out.n.kept HB.out) HS.out.ns).mono ?_
  rintro e w5 ⟨rfl, hb⟩
  have HBn := Lib.hid (HB.out.trans (hb.mono HB.out.size))
  have K1n : Hid (CW21 w5 w.heap.size _ _ _ _ _ _ _ _ _ _ _ _ _ _ _ _ _ _ _ _ _) := CW21.kept K1.out hb
  have K2n : Hid (CW21 w5 (w.heap.size + 1) _ _ _ _ _ _ _ _ _ _ _ _ _ _ _ _ _ _ _ _ _) := CW21.kept K2.out hb
  clear HB K1 K2 hb p0 p1 p2 p3 p4 p5 p6 p7 p8 p9 p10 p11 p12 p13 p14 p15 p16 p17 p18 p19 p20 q0 q1 q2 q3 q4 q5 q6 q7 q8 q9 q10 q11 q12 q13 q14 q15 q16 q17 q18 q19 q20
  have HB := HBn
  have K1 := K1n
  have K2 := K2n
  clear HBn K1n K2n
  obtain ⟨⟨p0, p1, p2, p3, p4, p5, p6, p7, p8, p9, p10, p11, p12, p13, p14, p15, p16, p17, p18, p19, p20⟩, -⟩ := K1.out.get
  obtain ⟨⟨q0, q1, q2, q3, q4, q5, q6, q7, q8, q9, q10, q11, q12, q13, q14, q15, q16, q17, q18, q19, q20⟩, -⟩ := K2.out.get
  go_wp2_with fail
  refine (Mv.eq_points h.ms A.a6 B.a6 A.c6 B.c6 _ (HK.out.m.kept HB.out) (HL.out.m.kept HB.out) HS.out.ms).mono ?_
  rintro e w6 ⟨rfl, hb⟩
  have HBn := Lib.hid (HB.out.trans (hb.mono HB.out.size))
  have K1n : Hid (CW21 w6 w.heap.size _ _ _ _ _ _ _ _ _ _ _ _ _ _ _ _ _ _ _ _ _) := CW21.kept K1.out hb
  have K2n : Hid (CW21 w6 (w.heap.size + 1) _ _ _ _ _ _ _ _ _ _ _ _ _ _ _ _ _ _ _ _ _) := CW21.kept K2.out hb
  clear HB K1 K2 hb p0 p1 p2 p3 p4 p5 p6 p7 p8 p9 p10 p11 p12 p13 p14 p15 p16 p17 p18 p19 p20 q0 q1 q2 q3 q4 q5 q6 q7 q8 q9 q10 q11 q12 q13 q14 q15 q16 q17 q18 q19 q20
  have HB := HBn
  have K1 := K1n
  have K2 := K2n
  clear HBn K1n K2n
  obtain ⟨⟨p0, p1, p2, p3, p4, p5, p6, p7, p8, p9, p10, p11, p12, p13, p14, p15, p16, p17, p18, p19, p20⟩, -⟩ := K1.out.get
  obtain ⟨⟨q0, q1, q2, q3, q4, q5, q6, q7, q8, q9, q10, q11, q12, q13, q14, q15, q16, q17, q18, q19, q20⟩, -⟩ := K2.out.get
  clear K1 K2
  go_wp2
  go_ret
  exact ⟨rfl, HB.out⟩
end Go.Proofs.YtgmdfkmmbcpikaaGreat.Hd

/- An argument that is a herd, opened. -/
namespace Go.Proofs.YtgmdfkmmbcpikaaGreat.HdO
open Go.RowKit Go.Deep
open Go.ChangeShapes Go.WideShapes
open Go.Proofs.YtgmdfkmmbcpikaaGreat.C1
open Go.Proofs.YtgmdfkmmbcpikaaGreat.C2
open Go.Proofs.YtgmdfkmmbcpikaaGreat.Smps
open Go.Proofs.YtgmdfkmmbcpikaaGreat.Mem
open Go.Proofs.YtgmdfkmmbcpikaaGreat.Ser
open Go.Proofs.YtgmdfkmmbcpikaaGreat.Pd
open Go.Proofs.YtgmdfkmmbcpikaaGreat.Pds
open Go.Proofs.YtgmdfkmmbcpikaaGreat.Gl
open Go.Proofs.YtgmdfkmmbcpikaaGreat.Gls
open Go.Proofs.YtgmdfkmmbcpikaaGreat.Pl (Sd Sd.wf Bh Bh.wf Pls open_side_cells)
open Go.Proofs.YtgmdfkmmbcpikaaGreat.Set
open Go.Proofs.YtgmdfkmmbcpikaaGreat.Hd
set_option linter.unusedVariables false

theorem array21 {α : Type} {cs : Array α} (h : cs.size = 21) : ∃ v0 v1 v2 v3 v4 v5 v6 v7 v8 v9 v10 v11 v12 v13 v14 v15 v16 v17 v18 v19 v20, cs = #[v0, v1, v2, v3, v4, v5, v6, v7, v8, v9, v10, v11, v12, v13, v14, v15, v16, v17, v18, v19, v20] := by
  obtain ⟨l⟩ := cs
  match l, h with
  | [v0, v1, v2, v3, v4, v5, v6, v7, v8, v9, v10, v11, v12, v13, v14, v15, v16, v17, v18, v19, v20], _ => exact ⟨v0, v1, v2, v3, v4, v5, v6, v7, v8, v9, v10, v11, v12, v13, v14, v15, v16, v17, v18, v19, v20, rfl⟩
section
variable {H : Type} {enc : TypeId × Value → H} {P : Program} {w : World} {base : Nat} {spare : Nat → Bool} {held : Bool}
theorem open_setup_cells {tt tr tg tb ts : TypeId} {t0 t1 t2 r0 r1 r2 q0 q1 q2 q3 s0 s1 s2 h0 h1 h2 : Field} {v0 v1 v2 v3 v4 v5 v6 v7 v8 v9 v10 v11 : Value} {fuel : Nat} {x : DataW H × List MemPlace} (ht : P.underlying tt = some (.struct #[t0, t1, t2])) (htC : P.cellsOf tt = 12)
    (hto : t0.offset = 0 ∧ t1.offset = 3 ∧ t2.offset = 4) (htt : t0.type = tr ∧ t1.type = tg ∧ t2.type = tb) (hg1 : P.cellsOf tg = 1) (hb8 : P.cellsOf tb = 8)
    {tp e ti ge tS : TypeId} (hr : P.underlying tr = some (.struct #[r0, r1, r2])) (hrone : oneCellFields P #[r0, r1, r2] = true) (hrC : P.cellsOf tr = 3) (hrt : r0.type = ti ∧ r1.type = ti ∧ r2.type = ti)
    (hg : P.underlying tg = some (.slice ge)) (hge : P.underlying ge = some (.struct #[h0, h1, h2])) (hgone : oneCellFields P #[h0, h1, h2] = true) (hgC : P.cellsOf ge = 3) (hgt : h0.type = tS ∧ h1.type = ti ∧ h2.type = ti) (htS : P.underlying tS = some .string)
    (hb : P.underlying tb = some (.struct #[q0, q1, q2, q3])) (hbo : q0.offset = 0 ∧ q1.offset = 3 ∧ q2.offset = 6 ∧ q3.offset = 7) (hbt : q0.type = ts ∧ q1.type = ts ∧ q2.type = ti ∧ q3.type = ti) (hi1 : P.cellsOf ti = 1)
    (hs : P.underlying ts = some (.struct #[s0, s1, s2])) (hsone : oneCellFields P #[s0, s1, s2] = true) (hsC : P.cellsOf ts = 3)
    {f0 f1 f2 : Field} (hst : s0.type = tp ∧ s1.type = ti ∧ s2.type = ti) (htp : P.underlying tp = some (.slice e)) (he : P.underlying e = some (.struct #[f0, f1, f2]))
    (hone : oneCellFields P #[f0, f1, f2] = true) (hC : P.cellsOf e = 3) (hf : f0.type = ti ∧ f1.type = ti ∧ f2.type = ti) (hti : P.underlying ti = some (.int .i64))
    (hfu : DataW.trod enc P w base (fun _ => true) held fuel tt [v0, v1, v2, v3, v4, v5, v6, v7, v8, v9, v10, v11] = some x) : ∃ s a c a1 c1 a2 c2, IsSt w (.agg #[v0, v1, v2, v3, v4, v5, v6, v7, v8, v9, v10, v11]) s a c a1 c1 a2 c2 := by
  obtain ⟨y0, y1, y2, n, _, _, g0, g1, g2⟩ := trod_struct3 ht hfu
  rw [hto.1, htt.1, hrC] at g0
  rw [hto.2.1, htt.2.1, hg1] at g1
  rw [hto.2.2, htt.2.2, hb8] at g2
  simp at g0 g1 g2
  obtain ⟨z0, z1, z2, n', _, _, k0, k1, k2⟩ := trod_struct3 hr g0
  obtain ⟨o0, l0⟩ := hone_of hrone 0 r0 rfl
  obtain ⟨o1, l1⟩ := hone_of hrone 1 r1 rfl
  obtain ⟨o2, l2⟩ := hone_of hrone 2 r2 rfl
  rw [o0, l0, hrt.1] at k0
  rw [o1, l1, hrt.2.1] at k1
  rw [o2, l2, hrt.2.2] at k2
  obtain ⟨dl, e0, _, u0⟩ := DataW.trod_int hti k0
  obtain ⟨fr, e1, _, u1⟩ := DataW.trod_int hti k1
  obtain ⟨wi, e2, _, u2⟩ := DataW.trod_int hti k2
  simp at e0 e1 e2
  obtain ⟨ga, glen, gcap, gs, e3, gl, gm, gw, gp⟩ := open_gls hg hge hgone hgC hgt htS hti g1
  obtain ⟨b, a, c, a', c', hw, e4, e5, e6, e7, e8, e9, e10, e11, hp, hp'⟩ := open_behave_cells hb hbo hbt hi1 hs hsone hsC hst htp he hone hC hf hti g2
  subst e0 e1 e2 e3 e4 e5 e6 e7 e8 e9 e10 e11 gl
  exact ⟨⟨⟨dl, fr, wi⟩, gs, b⟩, ga, gcap, a, c, a', c', rfl, ⟨⟨bounds_i64 u0, bounds_i64 u1, bounds_i64 u2⟩, gm, gw, hw⟩, gp, hp, hp'⟩
theorem open_herd {r : Reach} {b0 : Nat} {tt ts ti tp tr tn tm ep er en em : TypeId} {f0 f1 f2 f3 f4 f5 f6 f7 f8 f9 : Field} {v : Value} {d : DataW H} {p : List MemPlace}
    (ht : P.underlying tt = some (.struct #[f0, f1, f2, f3, f4, f5, f6, f7, f8, f9])) (htC : P.cellsOf tt = 21)
    (hof : f0.offset = 0 ∧ f1.offset = 12 ∧ f2.offset = 13 ∧ f3.offset = 14 ∧ f4.offset = 15 ∧ f5.offset = 16 ∧ f6.offset = 17 ∧ f7.offset = 18 ∧ f8.offset = 19 ∧ f9.offset = 20) (hty : f0.type = ts ∧ f1.type = ti ∧ f2.type = ti ∧ f3.type = ti ∧ f4.type = tp ∧ f5.type = tr ∧ f6.type = tn ∧ f7.type = tm ∧ f8.type = ti ∧ f9.type = ti)
    (hc : P.cellsOf ts = 12 ∧ P.cellsOf ti = 1 ∧ P.cellsOf tp = 1 ∧ P.cellsOf tr = 1 ∧ P.cellsOf tn = 1 ∧ P.cellsOf tm = 1) (hti : P.underlying ti = some (.int .i64))
    (htp : P.underlying tp = some (.slice ep)) (htr : P.underlying tr = some (.slice er)) (htn : P.underlying tn = some (.slice en)) (htm : P.underlying tm = some (.slice em))
    (hS : ∀ (fuel : Nat) (v0 v1 v2 v3 v4 v5 v6 v7 v8 v9 v10 v11 : Value) (x : DataW H × List MemPlace), DataW.trod enc P w base (fun _ => true) held fuel ts [v0, v1, v2, v3, v4, v5, v6, v7, v8, v9, v10, v11] = some x → ∃ s a c a1 c1 a2 c2, IsSt w (.agg #[v0, v1, v2, v3, v4, v5, v6, v7, v8, v9, v10, v11]) s a c a1 c1 a2 c2)
    (hP : ∀ (fuel : Nat) (a : Option Addr) (l c : Nat) (x : DataW H × List MemPlace), DataW.trod enc P w base (fun _ => true) held fuel tp (Value.slice a l c).cells.toList = some x → ∃ xs, IsPds w a l c xs)
    (hR : ∀ (fuel : Nat) (a : Option Addr) (l c : Nat) (x : DataW H × List MemPlace), DataW.trod enc P w base (fun _ => true) held fuel tr (Value.slice a l c).cells.toList = some x → ∃ xs, IsSrs w a l c xs)
    (hN : ∀ (fuel : Nat) (a : Option Addr) (l c : Nat) (x : DataW H × List MemPlace), DataW.trod enc P w base (fun _ => true) held fuel tn (Value.slice a l c).cells.toList = some x → ∃ xs, Pl.IsPts w a l c xs)
    (hM : ∀ (fuel : Nat) (a : Option Addr) (l c : Nat) (x : DataW H × List MemPlace), DataW.trod enc P w base (fun _ => true) held fuel tm (Value.slice a l c).cells.toList = some x → ∃ xs, Pl.IsPts w a l c xs)
    (hv : Value.okWide P w r b0 tt v) (h : DataW.Trod enc P w base (fun _ => true) held tt v d p) : ∃ (h : Hd) (A : Ad), v = hdV h A ∧ h.wf ∧ HdAt w h A := by
  obtain ⟨cs, rfl, hsz⟩ := okWide_struct ht hv
  obtain ⟨v0, v1, v2, v3, v4, v5, v6, v7, v8, v9, v10, v11, v12, v13, v14, v15, v16, v17, v18, v19, v20, rfl⟩ := array21 (hsz.trans htC)
  obtain ⟨fuel, hfu⟩ := h
  obtain ⟨xs, n, _, _, _, hlen, hf⟩ := DataW.trod_struct ht hfu
  have key : ∀ (i : Nat) (f : Field), (#[f0, f1, f2, f3, f4, f5, f6, f7, f8, f9] : Array Field)[i]? = some f → ∃ y : DataW H × List MemPlace, DataW.trod enc P w base (fun _ => true) held n f.type (([v0, v1, v2, v3, v4, v5, v6, v7, v8, v9, v10, v11, v12, v13, v14, v15, v16, v17, v18, v19, v20].drop f.offset).take (P.cellsOf f.type)) = some y := by
    intro i f hi
    have hl : i < xs.length := by rw [hlen]; exact (Array.getElem?_eq_some_iff.1 hi).1
    exact ⟨xs[i], by rw [← List.getElem?_eq_getElem hl]; exact hf i f hi⟩
  obtain ⟨o0, o1, o2, o3, o4, o5, o6, o7, o8, o9⟩ := hof
  obtain ⟨t0, t1, t2, t3, t4, t5, t6, t7, t8, t9⟩ := hty
  obtain ⟨c0, c1, c2, c3, c4, c5⟩ := hc
  obtain ⟨y0, g0⟩ := key 0 f0 rfl
  rw [o0, t0, c0] at g0
  simp at g0
  obtain ⟨y1, g1⟩ := key 1 f1 rfl
  rw [o1, t1, c1] at g1
  simp at g1
  obtain ⟨y2, g2⟩ := key 2 f2 rfl
  rw [o2, t2, c1] at g2
  simp at g2
  obtain ⟨y3, g3⟩ := key 3 f3 rfl
  rw [o3, t3, c1] at g3
  simp at g3
  obtain ⟨y4, g4⟩ := key 4 f4 rfl
  rw [o4, t4, c2] at g4
  simp at g4
  obtain ⟨y5, g5⟩ := key 5 f5 rfl
  rw [o5, t5, c3] at g5
  simp at g5
  obtain ⟨y6, g6⟩ := key 6 f6 rfl
  rw [o6, t6, c4] at g6
  simp at g6
  obtain ⟨y7, g7⟩ := key 7 f7 rfl
  rw [o7, t7, c5] at g7
  simp at g7
  obtain ⟨y8, g8⟩ := key 8 f8 rfl
  rw [o8, t8, c1] at g8
  simp at g8
  obtain ⟨y9, g9⟩ := key 9 f9 rfl
  rw [o9, t9, c1] at g9
  simp at g9
  clear key hf hlen
  obtain ⟨s, a, c, a1, c1', a2, c2', hst, hsw, hg, hu, hd⟩ := hS _ _ _ _ _ _ _ _ _ _ _ _ _ _ g0
  unfold stV at hst
  cases hst
  obtain ⟨now, e1, _, u1⟩ := DataW.trod_int hti g1
  simp at e1
  subst e1
  obtain ⟨cnt, e2, _, u2⟩ := DataW.trod_int hti g2
  simp at e2
  subst e2
  obtain ⟨rev, e3, _, u3⟩ := DataW.trod_int hti g3
  simp at e3
  subst e3
  obtain ⟨cnd, e8, _, u8⟩ := DataW.trod_int hti g8
  simp at e8
  subst e8
  obtain ⟨flt, e9, _, u9⟩ := DataW.trod_int hti g9
  simp at e9
  subst e9
  obtain ⟨b4, l4, k4, e4⟩ := Go.Joins.slice_form htp g4
  simp at e4
  subst e4
  obtain ⟨ps, q4⟩ := hP _ b4 l4 k4 _ g4
  obtain ⟨b5, l5, k5, e5⟩ := Go.Joins.slice_form htr g5
  simp at e5
  subst e5
  obtain ⟨ls, q5⟩ := hR _ b5 l5 k5 _ g5
  obtain ⟨b6, l6, k6, e6⟩ := Go.Joins.slice_form htn g6
  simp at e6
  subst e6
  obtain ⟨ns, q6⟩ := hN _ b6 l6 k6 _ g6
  obtain ⟨b7, l7, k7, e7⟩ := Go.Joins.slice_form htm g7
  simp at e7
  subst e7
  obtain ⟨ms, q7⟩ := hM _ b7 l7 k7 _ g7
  obtain ⟨rfl, _, m4, w4, p4⟩ := q4
  obtain ⟨rfl, _, m5, w5, p5⟩ := q5
  obtain ⟨rfl, m6, w6, p6⟩ := q6
  obtain ⟨rfl, m7, w7, p7⟩ := q7
  refine ⟨⟨s, now, cnt, rev, ps, ls.map Sv.s, ns, ms, cnd, flt⟩, ⟨a, c, a1, c1', a2, c2', b4, k4, b5, k5, b6, k6, b7, k7⟩, ?_, ⟨hsw, bounds_i64 u1, bounds_i64 u2, bounds_i64 u3, (by show ps.length ≤ maxLen; omega), w4, ?_, ?_, m6, w6, m7, w7, bounds_i64 u8, bounds_i64 u9⟩, ⟨hg, hu, hd, p4, ⟨ls, rfl, p5⟩, p6, p7⟩⟩
  · simp [hdV]
  · simp; omega
  · intro s hs
    obtain ⟨l, hl, rfl⟩ := List.mem_map.1 hs
    exact w5 l hl
end
end Go.Proofs.YtgmdfkmmbcpikaaGreat.HdO
