/- copy of points into a new row; impl.pointsFrom; impl.SeriesOf. -/
import Derived.Test.YtgmdfkmmbcpikaaGreatLat
import Derived.Test.YtgmdfkmmbcpikaaGreatRing
namespace Go.Proofs.YtgmdfkmmbcpikaaGreat.From
open Go.RowKit Go.Sort Go.BigFrame
open Go.Proofs.YtgmdfkmmbcpikaaGreat.C1
open Go.Proofs.YtgmdfkmmbcpikaaGreat.C2
open Go.Proofs.YtgmdfkmmbcpikaaGreat.Smps
open Go.Proofs.YtgmdfkmmbcpikaaGreat.Mem
open Go.Proofs.YtgmdfkmmbcpikaaGreat.Ser
open Go.Proofs.YtgmdfkmmbcpikaaGreat.Ser2
open Go.Proofs.YtgmdfkmmbcpikaaGreat.Key
open Go.Proofs.YtgmdfkmmbcpikaaGreat.Sto
open Go.Proofs.YtgmdfkmmbcpikaaGreat.StoL
open Go.Proofs.YtgmdfkmmbcpikaaGreat.Cnt
open Go.Proofs.YtgmdfkmmbcpikaaGreat.Ring
open Go.Proofs.YtgmdfkmmbcpikaaGreat.Find
open Go.Proofs.YtgmdfkmmbcpikaaGreat.Sof
open Go.Proofs.YtgmdfkmmbcpikaaGreat.Lat
set_option linter.unusedVariables false

theorem setCells_nil (w : World) (g o : Nat) : w.setCells g o [] = w := rfl
theorem gf_oneB : ∀ (ps : List Pt), ∀ v ∈ gf encP ps, v.oneCell' = true := fun ps v hv => by
  have := gf_one ps
  rw [List.all_eq_true] at this
  exact this v hv
/-- copy(dst, src) over points: all of src, into a row as long. -/
theorem run_copy_pts (w : World) (ty : TypeId) (g n dCap sCap : Nat) (b o : Nat) (xs : List Pt) (hn : xs.length = n)
    (hsrc : ∀ (i : Nat) (h : i < xs.length), At2 w b (o + i * 2) xs[i]) (hdst : ∀ j, j < n * 2 → (w.cell? ⟨g, j, none⟩).isSome = true ∧ w.frozen? ⟨g, j, none⟩ = false) :
    (Builtin.copy_ #[117, 117] ty #[.slice (some ⟨g, 0, none⟩) n dCap, .slice (some ⟨b, o, none⟩) n sCap]).run Tryz.prog w = .ok (.int .i64 n) (w.setCells g 0 (gf encP xs)) := by
  have hl := gf_len encP 2 encP_len xs
  have hload : (loadCells ⟨b, o, none⟩ (gf encP xs).length).run Tryz.prog w = .ok (gf encP xs).toArray w :=
    run_loadCells_list (P := Tryz.prog) w ⟨b, o, none⟩ (gf encP xs) (fun j v hv => by
      rw [Addr.add_mid]
      obtain ⟨hj, e⟩ := List.getElem?_eq_some_iff.1 hv
      have hi : j / 2 < xs.length := by omega
      obtain ⟨c0, c1⟩ := hsrc (j / 2) hi
      have hg := gf_get encP 2 encP_len xs (j / 2) (j % 2) hi (by omega)
      have e' : j / 2 * 2 + j % 2 = j := by omega
      rw [e', hv] at hg
      rcases (by omega : j % 2 = 0 ∨ j % 2 = 1) with h | h <;> rw [h] at hg <;> simp [encP] at hg <;> subst hg
      · have : o + j / 2 * 2 = o + j := by omega
        rw [this] at c0; exact c0
      · have : o + j / 2 * 2 + 1 = o + j := by omega
        rw [this] at c1; exact c1)
  have hst := run_storeCells_cells (P := Tryz.prog) g 0 (gf encP xs) 0 w (by rw [hl, hn]; simpa using fun j hj => (hdst j hj).1) (by rw [hl, hn]; simpa using fun j hj => (hdst j hj).2) (gf_oneB xs)
  simp only [Nat.add_zero] at hst
  rw [hl, hn] at hload
  obtain ⟨i, hi, _, h2, _⟩ := info_pt2
  simp [Builtin.copy_, run_underlying Tryz.underlying117, Builtin.lenOf, Builtin.firstCells, Tryz.sizeOf123 w, hload, hst]
  rfl
theorem run_copy_zero (w : World) (ty : TypeId) (g dCap sCap : Nat) (a : Option Addr) :
    (Builtin.copy_ #[117, 117] ty #[.slice (some ⟨g, 0, none⟩) 0 dCap, .slice a 0 sCap]).run Tryz.prog w = .ok (.int .i64 0) w := by
  cases a <;> simp [Builtin.copy_, run_underlying Tryz.underlying117, Builtin.lenOf, Builtin.firstCells, Tryz.sizeOf123 w, loadCells, loadCellsFrom, storeCells] <;> rfl
def setL : List Value → Nat → List Value → List Value
  | L, _, [] => L
  | L, o, u :: r => setL (L.set o u) (o + 1) r
theorem setL_eq : ∀ (us L : List Value) (o : Nat), o + us.length ≤ L.length → setL L o us = L.take o ++ us ++ L.drop (o + us.length)
  | [], L, o, _ => by simp [setL]
  | u :: r, L, o, h => by
    have h' : o + 1 + r.length ≤ (L.set o u).length := by simp at h ⊢; omega
    have ho : o < L.length := by simp at h; omega
    rw [setL, setL_eq r (L.set o u) (o + 1) h']
    have e1 : (L.set o u).take (o + 1) = L.take o ++ [u] := by
      rw [List.take_succ_eq_append_getElem (by simpa using ho), List.take_set_of_le (Nat.le_refl _)]
      simp
    have e2 : (L.set o u).drop (o + 1 + r.length) = L.drop (o + (u :: r).length) := by
      rw [List.drop_set_of_lt (by omega)]
      simp only [List.length_cons]
      congr 1
      omega
    rw [e1, e2, List.append_assoc, List.append_assoc, List.append_assoc]
    rfl
theorem own_setCells {B g n cap k : Nat} {e : TypeId} : ∀ (us : List Value) (o : Nat) (w : World) (L : List Value), w.ownsRow B e k (.slice (some ⟨g, 0, none⟩) n cap) n L → (w.setCells g o us).ownsRow B e k (.slice (some ⟨g, 0, none⟩) n cap) n (setL L o us)
  | [], _, _, _, h => h
  | u :: r, o, w, L, h => own_setCells r (o + 1) _ _ (World.ownsRow.stored h o u).1
theorem own_over {w : World} {B g cap : Nat} {ps xs : List Pt} (h : OwnP w B (.slice (some ⟨g, 0, none⟩) ps.length cap) ps) (hx : xs.length = ps.length) : OwnP (w.setCells g 0 (gf encP xs)) B (.slice (some ⟨g, 0, none⟩) ps.length cap) xs := by
  have h1 := own_setCells (gf encP xs) 0 w (gf encP ps) h
  rw [setL_eq _ _ _ (by rw [gf_len encP 2 encP_len, gf_len encP 2 encP_len, hx]; omega)] at h1
  have hd : (gf encP ps).drop (0 + (gf encP xs).length) = [] := by
    apply List.drop_eq_nil_of_le
    rw [gf_len encP 2 encP_len, gf_len encP 2 encP_len, hx]; omega
  rw [hd] at h1
  simp only [List.take_zero, List.nil_append, List.append_nil] at h1
  unfold OwnP
  rw [hx]
  exact h1
/-! ### impl.SeriesOf. -/
end Go.Proofs.YtgmdfkmmbcpikaaGreat.From
