/- The ring's items in order; impl.withPoint, impl.lastOf. -/
import Derived.Test.YtimpajhgplkpmaaFrom
import Derived.Test.YtimpajhgplkpmaaAsc
namespace Go.Proofs.Ytimpajhgplkpmaa.Items
open Go.RowKit Go.Sort Go.BigFrame
open Go.Proofs.Ytimpajhgplkpmaa.C1
open Go.Proofs.Ytimpajhgplkpmaa.C2
open Go.Proofs.Ytimpajhgplkpmaa.Smps
open Go.Proofs.Ytimpajhgplkpmaa.Mem
open Go.Proofs.Ytimpajhgplkpmaa.Ser
open Go.Proofs.Ytimpajhgplkpmaa.Ser2
open Go.Proofs.Ytimpajhgplkpmaa.Key
open Go.Proofs.Ytimpajhgplkpmaa.Sto
open Go.Proofs.Ytimpajhgplkpmaa.StoL
open Go.Proofs.Ytimpajhgplkpmaa.Cnt
open Go.Proofs.Ytimpajhgplkpmaa.Ring
open Go.Proofs.Ytimpajhgplkpmaa.Find
open Go.Proofs.Ytimpajhgplkpmaa.Sof
open Go.Proofs.Ytimpajhgplkpmaa.Lat
open Go.Proofs.Ytimpajhgplkpmaa.From
open Go.Proofs.Ytimpajhgplkpmaa.Asc (array_len store_row)
set_option linter.unusedVariables false

/-- copy(dst, src) over points: all of src, into a row that may be longer, from a place on. -/
theorem run_copy_pts2 (w : World) (ty : TypeId) (g od dn n dCap sCap : Nat) (b o : Nat) (xs : List Pt) (hn : xs.length = n) (hdn : n ≤ dn)
    (hsrc : ∀ (i : Nat) (h : i < xs.length), At2 w b (o + i * 2) xs[i]) (hdst : ∀ j, j < n * 2 → (w.cell? ⟨g, od + j, none⟩).isSome = true ∧ w.frozen? ⟨g, od + j, none⟩ = false) :
    (Builtin.copy_ #[118, 118] ty #[.slice (some ⟨g, od, none⟩) dn dCap, .slice (some ⟨b, o, none⟩) n sCap]).run Try.prog w = .ok (.int .i64 n) (w.setCells g od (gf encP xs)) := by
  have hl := gf_len encP 2 encP_len xs
  have hload : (loadCells ⟨b, o, none⟩ (gf encP xs).length).run Try.prog w = .ok (gf encP xs).toArray w :=
    run_loadCells_list (P := Try.prog) w ⟨b, o, none⟩ (gf encP xs) (fun j v hv => by
      rw [Addr.add_mid]
      obtain ⟨hj, e⟩ := List.getElem?_eq_some_iff.1 hv
      have hi : j / 2 < xs.length := by omega
      obtain ⟨c0, c1⟩ := hsrc (j / 2) hi
      have hg := gf_get encP 2 encP_len xs (j / 2) (j % 2) hi (by omega)
      have e' : j / 2 * 2 + j % 2 = j := by omega
      rw [e', hv] at hg
      rcases (by omega : j % 2 = 0 ∨ j % 2 = 1) with h | h <;> rw [h] at hg <;> simp [encP] at hg <;> subst hg
      · have : o + j / 2 * 2 = o + j := by omega
        rw [this] at c0; exact c0
      · have : o + j / 2 * 2 + 1 = o + j := by omega
        rw [this] at c1; exact c1)
  have hst := run_storeCells_cells (P := Try.prog) g od (gf encP xs) 0 w (by rw [hl, hn]; simpa using fun j hj => (hdst j hj).1) (by rw [hl, hn]; simpa using fun j hj => (hdst j hj).2) (gf_oneB xs)
  simp only [Nat.add_zero] at hst
  rw [hl, hn] at hload
  obtain ⟨i, hi, _, h2, _⟩ := info_pt2
  have hmin : n.min dn = n := Nat.min_eq_left hdn
  simp [Builtin.copy_, run_underlying Try.underlying118, Builtin.lenOf, Builtin.firstCells, Try.sizeOf116 w, hload, hst, hmin]
  rfl
theorem run_copy_zero2 (w : World) (ty : TypeId) (dn dCap sCap : Nat) (d a : Option Addr) :
    (Builtin.copy_ #[118, 118] ty #[.slice d dn dCap, .slice a 0 sCap]).run Try.prog w = .ok (.int .i64 0) w := by
  cases a <;> cases d <;> simp [Builtin.copy_, run_underlying Try.underlying118, Builtin.lenOf, Builtin.firstCells, Try.sizeOf116 w, loadCells, loadCellsFrom, storeCells] <;> rfl
theorem slice_lhm (l h : Nat) (h1 : l < h) (h2 : h ≤ 12) (g : Nat) (w : World) : (Instr.sliceAt 163 (.pointer (some ⟨g, 0, none⟩)) (some (.int .i64 (l : Int))) (some (.int .i64 (h : Int))) (some (.int .i64 (h : Int)))).run Try.prog w = .ok (.slice (some ⟨g, l * 2, none⟩) (h - l) (h - l)) w := by
  have he : Try.prog.elem 163 = 116 := by kernel_rfl
  rw [run_sliceAt_array_lhm w 163 ⟨g, 0, none⟩ (by kernel_rfl) .i64 .i64 .i64 l h h (by omega) (by omega) (by omega) (by rw [array_len]; omega), he]
  simp only [Try.sizeOf116 w, Result.andThen_ok, slicedAt]
  have e : ¬ h = l := by omega
  simp only [Addr.add]
  simp [e]
  intro h0
  omega
/-- What items returns: the twelve slots from the oldest on. -/
def itemsV (sl : List Pt) (k : Nat) : List Pt := if k ≤ 12 then sl.take k else sl.drop 1 ++ sl.take 1
theorem ring_at2 {w : World} {g : Nat} {sl : List Pt} {k : Nat} (h : CellsW w g (ringL sl k)) (i : Nat) (hi : i < sl.length) : At2 w g (i * 2) sl[i] :=
  ⟨(cellsW_get h (ringL_pt sl k i hi).1).1, (cellsW_get h (ringL_pt sl k i hi).2).1⟩
theorem own_dst {w : World} {B g n cap : Nat} {ps : List Pt} (h : OwnP w B (.slice (some ⟨g, 0, none⟩) n cap) ps) (hn : ps.length = n) (j : Nat) (hj : j < n * 2) : (w.cell? ⟨g, j, none⟩).isSome = true ∧ w.frozen? ⟨g, j, none⟩ = false := by
  subst hn
  refine ⟨?_, h.frozen j⟩
  rw [World.ownsRow.cellAt h j hj, List.getElem?_eq_getElem (by rw [gf_len encP 2 encP_len]; exact hj)]
  rfl
set_option maxHeartbeats 2000000 in
set_option maxRecDepth 20000 in
theorem items_few (g : Nat) (sl : List Pt) (h12 : sl.length = 12) (k : Nat) (h1 : 1 ≤ k) (hk : k ≤ 12) (w : World) (h : CellsW w g (ringL sl k)) :
    Calls Try.prog 129 #[.pointer (some ⟨g, 0, none⟩)] w fun e w' => e = .returned (.slice (some ⟨w.heap.size, 0, none⟩) k k) ∧ OwnP w' w.heap.size (.slice (some ⟨w.heap.size, 0, none⟩) k k) (sl.take k) ∧ Below w.heap.size w w' := by
  have c24 : w.cell? ⟨g, 24, none⟩ = some (.int .i64 (k : Int)) := by
    have := (cellsW_get h (ringL_last sl k)).1
    rw [h12] at this
    exact this
  have hmin : min (k : Int) 12 = k := by omega
  have hmk := make_pts k (by omega)
  have hmade := made_pts k (by omega) w
  have hbel : Below w.heap.size w (w.alloc (.cells (madeCells (ptV zeroP).cells (k * 2)) 116)) := (Below.refl _ _).alloc (Nat.le_refl _) _
  have hK := h.kept hbel
  have hlen : (sl.take k).length = k := by rw [List.length_take]; omega
  have hrl : (List.replicate k zeroP).length = k := by simp
  have hcp := fun ty => run_copy_pts2 (w.alloc (.cells (madeCells (ptV zeroP).cells (k * 2)) 116)) ty w.heap.size 0 k k k k g 0 (sl.take k) hlen (Nat.le_refl _)
    (fun i hi => by
      have := ring_at2 hK i (by omega)
      rw [List.getElem_take, Nat.zero_add]
      exact this)
    (fun j hj => by rw [Nat.zero_add]; exact own_dst hmade hrl j hj)
  have hfill : OwnP ((w.alloc (.cells (madeCells (ptV zeroP).cells (k * 2)) 116)).setCells w.heap.size 0 (gf encP (sl.take k))) w.heap.size (.slice (some ⟨w.heap.size, 0, none⟩) k k) (sl.take k) := by
    have h1 : OwnP (w.alloc (.cells (madeCells (ptV zeroP).cells (k * 2)) 116)) w.heap.size (.slice (some ⟨w.heap.size, 0, none⟩) (List.replicate k zeroP).length k) (List.replicate k zeroP) := by rw [hrl]; exact hmade
    have h2 := own_over (xs := sl.take k) h1 (by rw [hrl, hlen])
    rw [hrl] at h2
    exact h2
  have hbf : Below w.heap.size w ((w.alloc (.cells (madeCells (ptV zeroP).cells (k * 2)) 116)).setCells w.heap.size 0 (gf encP (sl.take k))) := hbel.trans ((only_setCells w.heap.size _ 0 _ _ (Only.refl _ _)).below (Nat.le_refl _) hbel.size)
  have hsl : ∀ W, (Instr.sliceAt 163 (.pointer (some ⟨g, 0, none⟩)) (some (.int .i64 0)) (some (.int .i64 (k : Int))) (some (.int .i64 (k : Int)))).run Try.prog W = .ok (.slice (some ⟨g, 0, none⟩) k k) W := fun W => by
    have := slice_lhm 0 k (by omega) hk g W
    rw [Nat.zero_mul, Nat.sub_zero] at this
    exact this
  have hs0 : ∀ W, (Instr.sliceAt 163 (.pointer (some ⟨g, 0, none⟩)) none (some (.int .i64 0)) (some (.int .i64 0))).run Try.prog W = .ok (.slice (some ⟨g, 0, none⟩) 0 0) W := fun W => Asc.slice_slots 0 (by omega) g W
  have hz := fun W ty d a => run_copy_zero2 W ty 0 0 0 d a
  generalize madeCells (ptV zeroP).cells (k * 2) = M at hmk hcp hfill hbf
  generalize gf encP (sl.take k) = C at hcp hfill hbf
  have HF := Lib.hid hfill
  have HBF := Lib.hid hbf
  clear hfill hbf hmade hbel hlen hrl h hK
  have mixed : Try.prog.follows .mixedOrders = true := by kernel_rfl
  go_enter Try.func129, Try.ntmps129
  go_wp2
  obtain ⟨W, hW⟩ : ∃ W, (w.alloc (.cells M 116)).setCells w.heap.size 0 C = W := ⟨_, rfl⟩
  clear hcp hmk hsl c24
  rw [hW] at HF HBF ⊢
  clear hW
  have hD : Below W.heap.size W W.drew := (Below.refl _ _).drew
  go_region
  go_wp2
  go_ret
  exact ⟨rfl, HF.out.kept hD, HBF.out.drew⟩
theorem own_part {w : World} {B g cap n : Nat} {ps xs : List Pt} {o : Nat} (h : OwnP w B (.slice (some ⟨g, 0, none⟩) n cap) ps) (hn : ps.length = n) (ho : o + xs.length ≤ n) : OwnP (w.setCells g (o * 2) (gf encP xs)) B (.slice (some ⟨g, 0, none⟩) n cap) (ps.take o ++ (xs ++ ps.drop (o + xs.length))) := by
  subst hn
  have h1 := own_setCells (gf encP xs) (o * 2) w (gf encP ps) h
  rw [setL_eq _ _ _ (by rw [gf_len encP 2 encP_len, gf_len encP 2 encP_len]; omega)] at h1
  have hsplit : gf encP ps = gf encP (ps.take o) ++ (gf encP ((ps.drop o).take xs.length) ++ gf encP (ps.drop (o + xs.length))) := by
    rw [← gf_append, ← gf_append, ← List.drop_drop, List.take_append_drop, List.take_append_drop]
  have e1 : (gf encP ps).take (o * 2) = gf encP (ps.take o) := by
    rw [hsplit, List.take_left' (by rw [gf_len encP 2 encP_len, List.length_take]; omega)]
  have e2 : (gf encP ps).drop (o * 2 + (gf encP xs).length) = gf encP (ps.drop (o + xs.length)) := by
    rw [hsplit, ← List.append_assoc, List.drop_left' (by rw [List.length_append, gf_len encP 2 encP_len, gf_len encP 2 encP_len, gf_len encP 2 encP_len, List.length_take, List.length_take, List.length_drop]; omega)]
  rw [e1, e2] at h1
  unfold OwnP
  rw [gf_append, gf_append, List.append_assoc] at *
  have hl : (ps.take o ++ (xs ++ ps.drop (o + xs.length))).length = ps.length := by simp; omega
  rw [hl]
  exact h1
set_option maxHeartbeats 2000000 in
set_option maxRecDepth 20000 in
theorem items_full (g : Nat) (sl : List Pt) (h12 : sl.length = 12) (w : World) (h : CellsW w g (ringL sl 13)) :
    Calls Try.prog 129 #[.pointer (some ⟨g, 0, none⟩)] w fun e w' => e = .returned (.slice (some ⟨w.heap.size, 0, none⟩) 12 12) ∧ OwnP w' w.heap.size (.slice (some ⟨w.heap.size, 0, none⟩) 12 12) (sl.drop 1 ++ sl.take 1) ∧ Below w.heap.size w w' := by
  have c24 : w.cell? ⟨g, 24, none⟩ = some (.int .i64 13) := by
    have := (cellsW_get h (ringL_last sl 13)).1
    rw [h12] at this
    exact this
  have hmin : min (13 : Int) 12 = 12 := by decide
  have hmk : ∀ w : World, (Instr.makeSlice 118 (.int .i64 12) (.int .i64 12)).run Try.prog w = .ok (.slice (some ⟨w.heap.size, 0, none⟩) 12 12) (w.alloc (.cells (madeCells (ptV zeroP).cells (12 * 2)) 116)) := make_pts 12 (by omega)
  have hmade := made_pts 12 (by omega) w
  have hbel : Below w.heap.size w (w.alloc (.cells (madeCells (ptV zeroP).cells (12 * 2)) 116)) := (Below.refl _ _).alloc (Nat.le_refl _) _
  have hK := h.kept hbel
  have hl1 : (sl.drop 1).length = 11 := by rw [List.length_drop]; omega
  have hl2 : (sl.take 1).length = 1 := by rw [List.length_take]; omega
  have hrl : (List.replicate 12 zeroP).length = 12 := by simp
  have hcp := fun ty => run_copy_pts2 (w.alloc (.cells (madeCells (ptV zeroP).cells (12 * 2)) 116)) ty w.heap.size 0 12 11 12 11 g 2 (sl.drop 1) hl1 (by omega)
    (fun i hi => by
      have := ring_at2 hK (i + 1) (by omega)
      rw [List.getElem_drop]
      have e : 2 + i * 2 = (i + 1) * 2 := by omega
      have e2 : 1 + i = i + 1 := by omega
      simp only [e, e2]
      exact this)
    (fun j hj => by rw [Nat.zero_add]; exact own_dst hmade hrl j (by omega))
  have hfill1 := own_part (o := 0) (xs := sl.drop 1) hmade hrl (by omega)
  rw [Nat.zero_mul] at hfill1
  have hne : g ≠ w.heap.size := Nat.ne_of_lt h.1
  have hon := only_setCells w.heap.size (gf encP (sl.drop 1)) 0 _ _ (Only.refl w.heap.size (w.alloc (.cells (madeCells (ptV zeroP).cells (12 * 2)) 116)))
  have hR1 := cellsW_off hK hon hne
  have hb1 := hbel.trans (hon.below (Nat.le_refl _) hbel.size)
  obtain ⟨W, hW⟩ : ∃ W, (w.alloc (.cells (madeCells (ptV zeroP).cells (12 * 2)) 116)).setCells w.heap.size 0 (gf encP (sl.drop 1)) = W := ⟨_, rfl⟩
  have hsl : ∀ W, (Instr.sliceAt 163 (.pointer (some ⟨g, 0, none⟩)) (some (.int .i64 1)) (some (.int .i64 12)) (some (.int .i64 12))).run Try.prog W = .ok (.slice (some ⟨g, 2, none⟩) 11 11) W := fun W => slice_lhm 1 12 (by omega) (by omega) g W
  have hs1 : ∀ W, (Instr.sliceAt 163 (.pointer (some ⟨g, 0, none⟩)) none (some (.int .i64 1)) (some (.int .i64 1))).run Try.prog W = .ok (.slice (some ⟨g, 0, none⟩) 1 1) W := fun W => Asc.slice_slots 1 (by omega) g W
  rw [hW] at hfill1 hon hR1 hb1
  have hD : Below W.heap.size W W.drew := (Below.refl _ _).drew
  have hR2 := hR1.kept hD
  have hfill2 := hfill1.kept hD
  have hlr : (List.take 0 (List.replicate 12 zeroP) ++ (sl.drop 1 ++ (List.replicate 12 zeroP).drop (0 + (sl.drop 1).length))).length = 12 := by rw [hl1]; simp; omega
  have hcp2 := fun ty => run_copy_pts2 W.drew ty w.heap.size 22 1 1 1 1 g 0 (sl.take 1) hl2 (Nat.le_refl _)
    (fun i hi => by
      have := ring_at2 hR2 i (by omega)
      rw [List.getElem_take, Nat.zero_add]
      exact this)
    (fun j hj => own_dst hfill2 hlr (22 + j) (by omega))
  have hfill3 := own_part (o := 11) (xs := sl.take 1) hfill2 hlr (by omega)
  have hres : (List.take 0 (List.replicate 12 zeroP) ++ (sl.drop 1 ++ (List.replicate 12 zeroP).drop (0 + (sl.drop 1).length))).take 11 ++ (sl.take 1 ++ (List.take 0 (List.replicate 12 zeroP) ++ (sl.drop 1 ++ (List.replicate 12 zeroP).drop (0 + (sl.drop 1).length))).drop (11 + (sl.take 1).length)) = sl.drop 1 ++ sl.take 1 := by
    rw [hl1, hl2, List.take_zero, List.nil_append, List.take_left' hl1]
    congr 1
    rw [List.drop_eq_nil_of_le (by rw [List.length_append, hl1]; simp), List.append_nil]
  rw [hres] at hfill3
  have hb3 := (hb1.drew).trans ((only_setCells w.heap.size (gf encP (sl.take 1)) 22 _ _ (Only.refl w.heap.size W.drew)).below (Nat.le_refl _) hb1.drew.size)
  have HF : Hid (OwnP (W.drew.setCells w.heap.size 22 (gf encP (sl.take 1))) w.heap.size (.slice (some ⟨w.heap.size, 0, none⟩) 12 12) (sl.drop 1 ++ sl.take 1)) := hfill3
  have HBF := Lib.hid hb3
  have HW := Lib.hid hW
  generalize gf encP (sl.take 1) = C2 at hcp2 HF HBF
  generalize gf encP (sl.drop 1) = C1 at hcp HW
  generalize madeCells (ptV zeroP).cells (12 * 2) = M at hmk hcp HW
  clear hfill1 hfill2 hfill3 hres hlr hb1 hb3 hR1 hR2 hon hne hK hmade hbel hl1 hl2 hrl h hW hD
  have mixed : Try.prog.follows .mixedOrders = true := by kernel_rfl
  go_enter Try.func129, Try.ntmps129
  go_wp2
  rw [HW.out]
  clear HW hcp hmk hsl c24
  go_region
  go_wp2
  go_ret
  exact ⟨rfl, HF.out, HBF.out⟩
/-- The points behind one more that is later than all: the last twelve. -/
def withV (ps : List Pt) (p : Pt) : List Pt := if ps.length < 12 then ps ++ [p] else ps.drop 1 ++ [p]
theorem withV_len (ps : List Pt) (p : Pt) (h : ps.length ≤ 12) : 1 ≤ (withV ps p).length ∧ (withV ps p).length ≤ 12 := by
  unfold withV
  split
  · simp; omega
  · simp; omega
theorem put_few (ps : List Pt) (p : Pt) (h : ps.length < 12) : ((slots ps ps.length).set (ps.length % 12) p).take (ps.length + 1) = withV ps p := by
  unfold withV slots
  rw [if_pos h, Nat.mod_eq_of_lt h, List.take_of_length_le (Nat.le_refl _)]
  obtain ⟨m, hm⟩ : ∃ m, 12 - ps.length = m + 1 := ⟨11 - ps.length, by omega⟩
  rw [hm, List.replicate_succ, List.set_append_right _ _ (Nat.le_refl _), Nat.sub_self, List.set_cons_zero, List.take_append]
  simp
  exact List.take_of_length_le (by omega)
theorem put_full (ps : List Pt) (p : Pt) (h : ps.length = 12) : ((slots ps ps.length).set (ps.length % 12) p).drop 1 ++ ((slots ps ps.length).set (ps.length % 12) p).take 1 = withV ps p := by
  unfold withV slots
  rw [if_neg (by omega), h]
  match ps, h with
  | x :: r, h =>
    have e : (x :: r).take 12 = x :: r := List.take_of_length_le (by omega)
    rw [e]
    simp
theorem OwnP.low {w : World} {B B' : Nat} {v : Value} {ps : List Pt} (h : OwnP w B v ps) (hB : B' ≤ B) : OwnP w B' v ps := by
  obtain ⟨hl, h⟩ := h
  refine ⟨hl, ?_⟩
  rcases h with h | ⟨g, cap', cur, hv, hb, hrest⟩
  · exact .inl h
  · exact .inr ⟨g, cap', cur, hv, Nat.le_trans hB hb, hrest⟩
set_option maxHeartbeats 2000000 in
set_option maxRecDepth 20000 in
theorem with_point (ps : List Pt) (p : Pt) (h1 : 1 ≤ ps.length) (h12 : ps.length ≤ 12) (a : Option Addr) (cap : Nat) (w : World) (h : Pts w a ps) :
    Calls Try.prog 113 #[.slice a ps.length cap, ptV p] w fun e w' => ∃ g, e = .returned (.slice (some ⟨g, 0, none⟩) (withV ps p).length (withV ps p).length) ∧ OwnP w' w.heap.size (.slice (some ⟨g, 0, none⟩) (withV ps p).length (withV ps p).length) (withV ps p) ∧ Below w.heap.size w w' := by
  have hl25 : (ringL (slots ps ps.length) ps.length).length = 25 := by rw [ringL_len, slots_len ps ps.length (Nat.le_refl _) h12]
  have hone := ringL_one (slots ps ps.length) ps.length
  have hring := fun W hW => ring_of ps h12 a cap W hW
  unfold ringV at hring
  obtain ⟨rs, hrs⟩ : ∃ rs, ringL (slots ps ps.length) ps.length = rs := ⟨_, rfl⟩
  rw [hrs] at hring hl25 hone
  have HRS := Lib.hid hrs
  have HR := Lib.hid hring
  have hb0 := box_below w #[.int .i64 p.tick, .int .i64 p.val] 116
  have HP0 := Lib.hid (h.kept hb0)
  have HX0 := Lib.hid (cells_new w #[.int .i64 p.tick, .int .i64 p.val] 116)
  have HB0 := Lib.hid hb0
  clear hring hrs h hb0
  unfold ptV
  go_enter Try.func113, Try.ntmps113
  go_wp2_with (first
    | (go_at_call 127; refine (HR.out _ HP0.out).mono ?_; rintro e w1 ⟨rfl, hb1⟩)
    | (refine store_row rfl 165 _ _ rfl _ rs.toArray rfl rfl _ (cells_new w1 _ _) (by simp [hl25]) (by rw [info_ring]; simp [hl25]) hone ?_; intro V1 hc1 ho1; have hbx1 := box_below w1 #[.int .i64 0, .int .i64 0, .int .i64 0, .int .i64 0, .int .i64 0, .int .i64 0, .int .i64 0, .int .i64 0, .int .i64 0, .int .i64 0, .int .i64 0, .int .i64 0, .int .i64 0, .int .i64 0, .int .i64 0, .int .i64 0, .int .i64 0, .int .i64 0, .int .i64 0, .int .i64 0, .int .i64 0, .int .i64 0, .int .i64 0, .int .i64 0, .int .i64 0] 165; have hlt1 := hb1.size; have hX1 := cellsW_off ((HX0.out.kept hb1).kept hbx1) ho1 (Nat.ne_of_lt (Nat.lt_of_lt_of_le HX0.out.1 hlt1)); have x0 := (hX1.2 0 (by simp)).1; have x1 := (hX1.2 1 (by simp)).1; simp only [List.getElem_cons_zero, List.getElem_cons_succ] at x0 x1))
  have BV1 := Lib.hid (HB0.out.trans ((hb1.trans ((hbx1.trans (ho1.below (Nat.le_refl _) hbx1.size)).mono hb1.size)).mono (Nat.le_of_lt HX0.out.1)))
  have HR1 : Hid (CellsW V1 w1.heap.size (ringL (slots ps ps.length) ps.length)) := by show CellsW _ _ _; rw [HRS.out]; exact hc1
  have HLT : Hid (w.heap.size ≤ w1.heap.size) := Nat.le_trans (Nat.le_of_lt HX0.out.1) hlt1
  obtain ⟨G, hG⟩ : ∃ G, w1.heap.size = G := ⟨_, rfl⟩
  clear hb1 hc1 ho1 hbx1 hlt1 hX1 x0 x1 HX0 HB0 HP0 HR HRS hone hl25
  rw [hG] at HR1 HLT ⊢
  clear hG w1
  have hsl := slots_len ps ps.length (Nat.le_refl _) h12
  refine (ring_put G (slots ps ps.length) hsl ps.length (ps.length % 12) (by omega) rfl p _ HR1.out).mono ?_
  rintro e w2 ⟨rfl, hc2, ho2⟩
  have HC2 := Lib.hid hc2
  have B2 := Lib.hid (BV1.out.trans (ho2.below HLT.out BV1.out.size))
  clear hc2 ho2
  by_cases hf : ps.length < 12
  · have hpf := put_few ps p hf
    have hl : (withV ps p).length = ps.length + 1 := by unfold withV; rw [if_pos hf]; simp
    go_wp2_with fail
    refine (items_few G _ (by rw [List.length_set]; exact hsl) (ps.length + 1) (by omega) (by omega) _ HC2.out).mono ?_
    rw [hpf]
    rintro e w3 ⟨rfl, hown, hb3⟩
    have HO := Lib.hid (OwnP.low hown B2.out.size)
    have HB3 := Lib.hid (B2.out.trans (hb3.mono B2.out.size))
    have HLL := Lib.hid hl
    clear hown hb3 hpf hl
    go_wp2
    go_ret
    exact ⟨w2.heap.size, (by rw [HLL.out]; rfl), (by rw [HLL.out]; exact HO.out), HB3.out⟩
  · have h12' : ps.length = 12 := by omega
    have hpf := put_full ps p h12'
    have hl : (withV ps p).length = 12 := by unfold withV; rw [if_neg hf]; simp; omega
    have HC3 : Hid (CellsW w2 G (ringL ((slots ps ps.length).set (ps.length % 12) p) 13)) := by
      have := HC2.out
      rw [show ps.length + 1 = 13 by omega] at this
      exact this
    go_wp2_with fail
    refine (items_full G _ (by rw [List.length_set]; exact hsl) _ HC3.out).mono ?_
    rw [hpf]
    rintro e w3 ⟨rfl, hown, hb3⟩
    have HO := Lib.hid (OwnP.low hown B2.out.size)
    have HB3 := Lib.hid (B2.out.trans (hb3.mono B2.out.size))
    have HLL := Lib.hid hl
    clear hown hb3 hpf hl
    go_wp2
    go_ret
    exact ⟨w2.heap.size, (by rw [HLL.out]; rfl), (by rw [HLL.out]; exact HO.out), HB3.out⟩
end Go.Proofs.Ytimpajhgplkpmaa.Items
