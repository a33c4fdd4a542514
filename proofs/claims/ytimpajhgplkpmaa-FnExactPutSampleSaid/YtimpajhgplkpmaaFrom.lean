/- copy of points into a new row; impl.pointsFrom; impl.SeriesOf. -/
import Derived.Test.YtimpajhgplkpmaaLat
import Derived.Test.YtimpajhgplkpmaaRing
namespace Go.Proofs.Ytimpajhgplkpmaa.From
open Go.RowKit Go.Sort Go.BigFrame
open Go.Proofs.Ytimpajhgplkpmaa.C1
open Go.Proofs.Ytimpajhgplkpmaa.C2
open Go.Proofs.Ytimpajhgplkpmaa.Smps
open Go.Proofs.Ytimpajhgplkpmaa.Mem
open Go.Proofs.Ytimpajhgplkpmaa.Ser
open Go.Proofs.Ytimpajhgplkpmaa.Ser2
open Go.Proofs.Ytimpajhgplkpmaa.Key
open Go.Proofs.Ytimpajhgplkpmaa.Sto
open Go.Proofs.Ytimpajhgplkpmaa.StoL
open Go.Proofs.Ytimpajhgplkpmaa.Cnt
open Go.Proofs.Ytimpajhgplkpmaa.Ring
open Go.Proofs.Ytimpajhgplkpmaa.Find
open Go.Proofs.Ytimpajhgplkpmaa.Sof
open Go.Proofs.Ytimpajhgplkpmaa.Lat
set_option linter.unusedVariables false

theorem setCells_nil (w : World) (g o : Nat) : w.setCells g o [] = w := rfl
theorem gf_oneB : ∀ (ps : List Pt), ∀ v ∈ gf encP ps, v.oneCell' = true := fun ps v hv => by
  have := gf_one ps
  rw [List.all_eq_true] at this
  exact this v hv
/-- copy(dst, src) over points: all of src, into a row as long. -/
theorem run_copy_pts (w : World) (ty : TypeId) (g n dCap sCap : Nat) (b o : Nat) (xs : List Pt) (hn : xs.length = n)
    (hsrc : ∀ (i : Nat) (h : i < xs.length), At2 w b (o + i * 2) xs[i]) (hdst : ∀ j, j < n * 2 → (w.cell? ⟨g, j, none⟩).isSome = true ∧ w.frozen? ⟨g, j, none⟩ = false) :
    (Builtin.copy_ #[118, 118] ty #[.slice (some ⟨g, 0, none⟩) n dCap, .slice (some ⟨b, o, none⟩) n sCap]).run Try.prog w = .ok (.int .i64 n) (w.setCells g 0 (gf encP xs)) := by
  have hl := gf_len encP 2 encP_len xs
  have hload : (loadCells ⟨b, o, none⟩ (gf encP xs).length).run Try.prog w = .ok (gf encP xs).toArray w :=
    run_loadCells_list (P := Try.prog) w ⟨b, o, none⟩ (gf encP xs) (fun j v hv => by
      rw [Addr.add_mid]
      obtain ⟨hj, e⟩ := List.getElem?_eq_some_iff.1 hv
      have hi : j / 2 < xs.length := by omega
      obtain ⟨c0, c1⟩ := hsrc (j / 2) hi
      have hg := gf_get encP 2 encP_len xs (j / 2) (j % 2) hi (by omega)
      have e' : j / 2 * 2 + j % 2 = j := by omega
      rw [e', hv] at hg
      rcases (by omega : j % 2 = 0 ∨ j % 2 = 1) with h | h <;> rw [h] at hg <;> simp [encP] at hg <;> subst hg
      · have : o + j / 2 * 2 = o + j := by omega
        rw [this] at c0; exact c0
      · have : o + j / 2 * 2 + 1 = o + j := by omega
        rw [this] at c1; exact c1)
  have hst := run_storeCells_cells (P := Try.prog) g 0 (gf encP xs) 0 w (by rw [hl, hn]; simpa using fun j hj => (hdst j hj).1) (by rw [hl, hn]; simpa using fun j hj => (hdst j hj).2) (gf_oneB xs)
  simp only [Nat.add_zero] at hst
  rw [hl, hn] at hload
  obtain ⟨i, hi, _, h2, _⟩ := info_pt2
  simp [Builtin.copy_, run_underlying Try.underlying118, Builtin.lenOf, Builtin.firstCells, Try.sizeOf116 w, hload, hst]
  rfl
theorem run_copy_zero (w : World) (ty : TypeId) (g dCap sCap : Nat) (a : Option Addr) :
    (Builtin.copy_ #[118, 118] ty #[.slice (some ⟨g, 0, none⟩) 0 dCap, .slice a 0 sCap]).run Try.prog w = .ok (.int .i64 0) w := by
  cases a <;> simp [Builtin.copy_, run_underlying Try.underlying118, Builtin.lenOf, Builtin.firstCells, Try.sizeOf116 w, loadCells, loadCellsFrom, storeCells] <;> rfl
def setL : List Value → Nat → List Value → List Value
  | L, _, [] => L
  | L, o, u :: r => setL (L.set o u) (o + 1) r
theorem setL_eq : ∀ (us L : List Value) (o : Nat), o + us.length ≤ L.length → setL L o us = L.take o ++ us ++ L.drop (o + us.length)
  | [], L, o, _ => by simp [setL]
  | u :: r, L, o, h => by
    have h' : o + 1 + r.length ≤ (L.set o u).length := by simp at h ⊢; omega
    have ho : o < L.length := by simp at h; omega
    rw [setL, setL_eq r (L.set o u) (o + 1) h']
    have e1 : (L.set o u).take (o + 1) = L.take o ++ [u] := by
      rw [List.take_succ_eq_append_getElem (by simpa using ho), List.take_set_of_le (Nat.le_refl _)]
      simp
    have e2 : (L.set o u).drop (o + 1 + r.length) = L.drop (o + (u :: r).length) := by
      rw [List.drop_set_of_lt (by omega)]
      simp only [List.length_cons]
      congr 1
      omega
    rw [e1, e2, List.append_assoc, List.append_assoc, List.append_assoc]
    rfl
theorem own_setCells {B g n cap k : Nat} {e : TypeId} : ∀ (us : List Value) (o : Nat) (w : World) (L : List Value), w.ownsRow B e k (.slice (some ⟨g, 0, none⟩) n cap) n L → (w.setCells g o us).ownsRow B e k (.slice (some ⟨g, 0, none⟩) n cap) n (setL L o us)
  | [], _, _, _, h => h
  | u :: r, o, w, L, h => own_setCells r (o + 1) _ _ (World.ownsRow.stored h o u).1
theorem own_over {w : World} {B g cap : Nat} {ps xs : List Pt} (h : OwnP w B (.slice (some ⟨g, 0, none⟩) ps.length cap) ps) (hx : xs.length = ps.length) : OwnP (w.setCells g 0 (gf encP xs)) B (.slice (some ⟨g, 0, none⟩) ps.length cap) xs := by
  have h1 := own_setCells (gf encP xs) 0 w (gf encP ps) h
  rw [setL_eq _ _ _ (by rw [gf_len encP 2 encP_len, gf_len encP 2 encP_len, hx]; omega)] at h1
  have hd : (gf encP ps).drop (0 + (gf encP xs).length) = [] := by
    apply List.drop_eq_nil_of_le
    rw [gf_len encP 2 encP_len, gf_len encP 2 encP_len, hx]; omega
  rw [hd] at h1
  simp only [List.take_zero, List.nil_append, List.append_nil] at h1
  unfold OwnP
  rw [hx]
  exact h1
set_option maxHeartbeats 1000000 in
set_option maxRecDepth 20000 in
/-- pointsFrom: the points from the k-th on, in new memory. -/
theorem points_from (ps : List Pt) (k : Nat) (hk : k < ps.length ∨ k = 0 ∧ ps = []) (hm : ps.length ≤ 1048576) (a : Option Addr) (cap B : Nat) (w : World) (h : OwnP w B (.slice a ps.length cap) ps) :
    Calls Try.prog 109 #[.slice a ps.length cap, .int .i64 k] w fun e w' => ∃ g, e = .returned (.slice (some ⟨g, 0, none⟩) (ps.length - k) (ps.length - k)) ∧ OwnP w' w.heap.size (.slice (some ⟨g, 0, none⟩) (ps.length - k) (ps.length - k)) (ps.drop k) ∧ Below w.heap.size w w' := by
  rcases hk with hk | ⟨rfl, rfl⟩
  · obtain ⟨g0, rfl, hcap⟩ : ∃ g0, a = some ⟨g0, 0, none⟩ ∧ ps.length ≤ cap := by
      rcases h.2 with ⟨hv, h0⟩ | ⟨g, cap', cur, hv, _, _, hc, _⟩
      · omega
      · cases hv; exact ⟨g, rfl, hc⟩
    obtain ⟨n, hn⟩ : ∃ n, ps.length - k = n := ⟨_, rfl⟩
    have hnk : (ps.length : Int) - (k : Int) = (n : Int) := by omega
    have hmk := make_pts n (by omega)
    have hmade := made_pts n (by omega) w
    have hbel : Below w.heap.size w (w.alloc (.cells (madeCells (ptV zeroP).cells (n * 2)) 116)) := (Below.refl _ _).alloc (Nat.le_refl _) _
    have hlen : (ps.drop k).length = n := by rw [List.length_drop]; exact hn
    have hrl : (List.replicate n zeroP).length = n := by simp
    have hcp := fun ty => run_copy_pts (w.alloc (.cells (madeCells (ptV zeroP).cells (n * 2)) 116)) ty w.heap.size n n (cap - k) g0 (k * 2) (ps.drop k) hlen
      (fun i hi => by
        have hi2 : k + i < ps.length := by rw [List.length_drop] at hi; omega
        have := (h.at2 (k + i) hi2).kept hbel h.lt.2
        rw [List.getElem_drop]
        have e : (k + i) * 2 = k * 2 + i * 2 := by omega
        rw [e] at this
        exact this)
      (fun j hj => by
        refine ⟨?_, hmade.frozen j⟩
        have h1 : OwnP (w.alloc (.cells (madeCells (ptV zeroP).cells (n * 2)) 116)) w.heap.size (.slice (some ⟨w.heap.size, 0, none⟩) (List.replicate n zeroP).length n) (List.replicate n zeroP) := by rw [hrl]; exact hmade
        rw [World.ownsRow.cellAt h1 j (by rw [hrl]; exact hj), List.getElem?_eq_getElem (by rw [gf_len encP 2 encP_len, hrl]; exact hj)]
        rfl)
    have hfill : OwnP ((w.alloc (.cells (madeCells (ptV zeroP).cells (n * 2)) 116)).setCells w.heap.size 0 (gf encP (ps.drop k))) w.heap.size (.slice (some ⟨w.heap.size, 0, none⟩) n n) (ps.drop k) := by
      have h1 : OwnP (w.alloc (.cells (madeCells (ptV zeroP).cells (n * 2)) 116)) w.heap.size (.slice (some ⟨w.heap.size, 0, none⟩) (List.replicate n zeroP).length n) (List.replicate n zeroP) := by rw [hrl]; exact hmade
      have h2 := own_over (xs := ps.drop k) h1 (by rw [hrl, hlen])
      rw [hrl] at h2
      exact h2
    have hbf : Below w.heap.size w ((w.alloc (.cells (madeCells (ptV zeroP).cells (n * 2)) 116)).setCells w.heap.size 0 (gf encP (ps.drop k))) := hbel.trans ((only_setCells w.heap.size _ 0 _ _ (Only.refl _ _)).below (Nat.le_refl _) hbel.size)
    rw [hn]
    generalize madeCells (ptV zeroP).cells (n * 2) = M at hmk hcp hfill hbf
    generalize gf encP (ps.drop k) = C at hcp hfill hbf
    have HF := Lib.hid hfill
    have HBF := Lib.hid hbf
    clear hfill hbf hmade hbel hlen hrl h
    go_enter Try.func109, Try.ntmps109
    go_wp2
    go_ret
    exact ⟨w.heap.size, rfl, HF.out, HBF.out⟩
  · have hmk : ∀ w : World, (Instr.makeSlice 118 (.int .i64 0) (.int .i64 0)).run Try.prog w = .ok (.slice (some ⟨w.heap.size, 0, none⟩) 0 0) (w.alloc (.cells (madeCells (ptV zeroP).cells (0 * 2)) 116)) := make_pts 0 (by omega)
    have hmade := made_pts 0 (by omega) w
    have hbel : Below w.heap.size w (w.alloc (.cells (madeCells (ptV zeroP).cells (0 * 2)) 116)) := (Below.refl _ _).alloc (Nat.le_refl _) _
    have hcp := fun ty sCap a => run_copy_zero (w.alloc (.cells (madeCells (ptV zeroP).cells (0 * 2)) 116)) ty w.heap.size 0 sCap a
    have HF := Lib.hid hmade
    have HBF := Lib.hid hbel
    generalize madeCells (ptV zeroP).cells (0 * 2) = M at hmk hcp HF HBF
    show Calls Try.prog 109 #[.slice a 0 cap, .int .i64 0] w _
    clear hmade hbel
    rcases h.2 with ⟨hv, _⟩ | ⟨g, cap', cur, hv, _, _, _, _⟩
    · cases hv
      clear h
      go_enter Try.func109, Try.ntmps109
      go_wp2
      go_ret
      exact ⟨w.heap.size, rfl, HF.out, HBF.out⟩
    · cases hv
      clear h
      by_cases hc : cap = 0
      · subst hc
        go_enter Try.func109, Try.ntmps109
        go_wp2
        go_ret
        exact ⟨w.heap.size, rfl, HF.out, HBF.out⟩
      · go_enter Try.func109, Try.ntmps109
        go_wp2
        go_ret
        exact ⟨w.heap.size, rfl, HF.out, HBF.out⟩

/-! ### impl.SeriesOf. -/
end Go.Proofs.Ytimpajhgplkpmaa.From
