/- Rows of points and series in memory of the call's own; laws.toSeriesS (a copy), laws.eqSeriesS (a comparison of equals). -/
import Derived.Test.YtcjjdnfikccnmaaDoorSer
namespace Go.Proofs.YtcjjdnfikccnmaaDoor.Ser2
open Go.RowKit Go.Deep
open Go.ChangeShapes Go.WideShapes
open Go.Proofs.YtcjjdnfikccnmaaDoor.C1
open Go.Proofs.YtcjjdnfikccnmaaDoor.C2
open Go.Proofs.YtcjjdnfikccnmaaDoor.Smps
open Go.Proofs.YtcjjdnfikccnmaaDoor.Mem
open Go.Proofs.YtcjjdnfikccnmaaDoor.Ser
set_option linter.unusedVariables false

theorem encP_len (p : Pt) : (encP p).length = 2 := rfl
theorem encV_len (l : Sv) : (encV l).length = 3 := rfl
/-- The block of an address. -/
def Off (g : Nat) (a : Option Addr) : Prop := ∀ b o s, a = some ⟨b, o, s⟩ → b ≠ g
/-! ### laws.toPointS: a copy. -/
def zeroP : Pt := ⟨0, 0⟩
theorem gf_set2 : ∀ (ps : List Pt) (i : Nat) (p : Pt), i < ps.length → (((gf encP ps).set (i * 2) (.int .i64 p.tick)).set (i * 2 + 1) (.int .i64 p.val)) = gf encP (ps.set i p)
  | x :: r, 0, s, _ => by simp [gf, encP]
  | x :: r, i + 1, s, hi => by
    have ih := gf_set2 r i s (by simpa using hi)
    have e : (i + 1) * 2 = i * 2 + 2 := by omega
    show ((encP x ++ gf encP r).set _ _).set _ _ = encP x ++ gf encP (r.set i s)
    rw [← ih, e]
    simp [encP]
theorem take_set {α : Type} [Inhabited α] (xs : List α) (z : α) (k : Nat) (hk : k < xs.length) : (xs.take k ++ List.replicate (xs.length - k) z).set k xs[k] = xs.take (k + 1) ++ List.replicate (xs.length - (k + 1)) z := by
  have e : xs.length - k = (xs.length - (k + 1)) + 1 := by omega
  have e2 : k - (xs.take k).length = 0 := by simp; omega
  rw [List.set_append, if_neg (by simp; omega), e, List.replicate_succ, e2, List.set_cons_zero, List.take_succ_eq_append_getElem hk, List.append_assoc]
  rfl
theorem fill_len {α : Type} (xs : List α) (z : α) (k : Nat) (hk : k ≤ xs.length) : (xs.take k ++ List.replicate (xs.length - k) z).length = xs.length := by simp; omega
/-! ### laws.toSeries, laws.toSeriesS: copies. -/
theorem cells_new (w : World) (A : Array Value) (t : TypeId) : CellsW (w.alloc (.cells A t)) w.heap.size A.toList :=
  ⟨by simp, fun j hj => by simp at hj; simp [hj]⟩
theorem tri_read {w w2 : World} {o1 : Obj} {A2 A3 : Array Value} {t2 t3 : TypeId} (h : Below (((w.alloc o1).alloc (.cells A2 t2)).alloc (.cells A3 t3)).heap.size (((w.alloc o1).alloc (.cells A2 t2)).alloc (.cells A3 t3)) w2) :
    CellsW w2 (w.heap.size + 1) A2.toList ∧ CellsW w2 (w.heap.size + 1 + 1) A3.toList ∧ Below w.heap.size w w2 ∧ w.heap.size ≤ (((w.alloc o1).alloc (.cells A2 t2)).alloc (.cells A3 t3)).heap.size := by
  have b1 : Below w.heap.size w (w.alloc o1) := (Below.refl _ _).alloc (Nat.le_refl _) _
  have b2 : Below (w.alloc o1).heap.size (w.alloc o1) ((w.alloc o1).alloc (.cells A2 t2)) := (Below.refl _ _).alloc (Nat.le_refl _) _
  have b3 : Below ((w.alloc o1).alloc (.cells A2 t2)).heap.size ((w.alloc o1).alloc (.cells A2 t2)) (((w.alloc o1).alloc (.cells A2 t2)).alloc (.cells A3 t3)) := (Below.refl _ _).alloc (Nat.le_refl _) _
  have e1 : (w.alloc o1).heap.size = w.heap.size + 1 := by simp
  have e2 : ((w.alloc o1).alloc (.cells A2 t2)).heap.size = w.heap.size + 1 + 1 := by simp
  have k2 := cells_new (w.alloc o1) A2 t2
  have k3 := cells_new ((w.alloc o1).alloc (.cells A2 t2)) A3 t3
  rw [e1] at k2
  rw [e2] at k3
  have hs := h.size
  refine ⟨(k2.kept b3).kept h, k3.kept h, ?_, ?_⟩
  · exact b1.trans ((b2.mono b1.size).trans ((b3.mono (by omega)).trans (h.mono (by simp; omega))))
  · simp; omega
theorem off_lt {c g n : Nat} (h : c < g) : Off c (some ⟨g, n, none⟩) := fun b o s e => by cases e; omega
def zeroV : Sv := ⟨⟨⟨#[]⟩, ⟨#[]⟩, []⟩, none, 0⟩
theorem gf_set3 : ∀ (ls : List Sv) (i : Nat) (l : Sv), i < ls.length → ((((gf encV ls).set (i * 3) (.string l.s.pod)).set (i * 3 + 1) (.string l.s.met)).set (i * 3 + 2) (.slice l.a l.s.pts.length l.cap)) = gf encV (ls.set i l)
  | x :: r, 0, s, _ => by simp [gf, encV]
  | x :: r, i + 1, s, hi => by
    have ih := gf_set3 r i s (by simpa using hi)
    have e : (i + 1) * 3 = i * 3 + 3 := by omega
    show (((encV x ++ gf encV r).set _ _).set _ _).set _ _ = encV x ++ gf encV (r.set i s)
    rw [← ih, e]
    simp [encV]
theorem only_put3 {g : Nat} {w0 w : World} (h : Only g w0 w) (j0 j1 j2 : Nat) (u0 u1 u2 : Value) : Only g w0 (((w.setCell ⟨g, j0, none⟩ u0).setCell ⟨g, j1, none⟩ u1).setCell ⟨g, j2, none⟩ u2) := ((h.setCell j0 u0).setCell j1 u1).setCell j2 u2
theorem below_put3 {B : Nat} {w0 w : World} (h : Below B w0 w) {g : Nat} (hg : B ≤ g) (j0 j1 j2 : Nat) (u0 u1 u2 : Value) : Below B w0 (((w.setCell ⟨g, j0, none⟩ u0).setCell ⟨g, j1, none⟩ u1).setCell ⟨g, j2, none⟩ u2) :=
  ((h.setCell (p := ⟨g, j0, none⟩) hg u0).setCell (p := ⟨g, j1, none⟩) hg u1).setCell (p := ⟨g, j2, none⟩) hg u2
/-- The row so far: the series done, then zeros. -/
def sofar (n : Nat) (dn : List Sv) : List Sv := dn ++ List.replicate (n - dn.length) zeroV
theorem sofar_len (n : Nat) (dn : List Sv) (h : dn.length ≤ n) : (sofar n dn).length = n := by unfold sofar; simp; omega
theorem sofar_set (n : Nat) (dn : List Sv) (h : dn.length < n) (l : Sv) : (sofar n dn).set dn.length l = sofar n (dn ++ [l]) := by
  unfold sofar
  have e : n - dn.length = (n - (dn.length + 1)) + 1 := by omega
  rw [List.set_append, if_neg (by omega), Nat.sub_self, e, List.replicate_succ, List.set_cons_zero, List.append_assoc, List.length_append]
  rfl
theorem sofar_all (n : Nat) (dn : List Sv) (h : dn.length = n) : sofar n dn = dn := by unfold sofar; simp [h]
/-! ### laws.eqPoint, eqPointS, eqSeries, eqSeriesS at equals. -/
theorem at2_grown {w : World} {b o : Nat} {p : Pt} (h : At2 w b o p) (hb : b < w.heap.size) :
    (∀ n os, (Go.Sort.grow (w.drewN n) os).cell? ⟨b, o, none⟩ = some (.int .i64 p.tick)) ∧ (∀ n os, (Go.Sort.grow (w.drewN n) os).cell? ⟨b, o + 1, none⟩ = some (.int .i64 p.val)) :=
  ⟨fun n os => cell_grown hb h.1 n os, fun n os => cell_grown hb h.2 n os⟩
end Go.Proofs.YtcjjdnfikccnmaaDoor.Ser2
