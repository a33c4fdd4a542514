/- slices.Insert of one series into a row without room; impl.put. -/
import Derived.Test.YtimpajhgplkpmaaItems
import Derived.Test.YtimpajhgplkpmaaCopyS
import Derived.Lib.AppendZerosOnto
namespace Go.Proofs.Ytimpajhgplkpmaa.Ins
open Go.RowKit Go.Sort Go.BigFrame
open Go.Proofs.Ytimpajhgplkpmaa.C1
open Go.Proofs.Ytimpajhgplkpmaa.C2
open Go.Proofs.Ytimpajhgplkpmaa.Smps
open Go.Proofs.Ytimpajhgplkpmaa.Mem
open Go.Proofs.Ytimpajhgplkpmaa.Ser
open Go.Proofs.Ytimpajhgplkpmaa.Ser2
open Go.Proofs.Ytimpajhgplkpmaa.Key
open Go.Proofs.Ytimpajhgplkpmaa.Sto
open Go.Proofs.Ytimpajhgplkpmaa.StoL
open Go.Proofs.Ytimpajhgplkpmaa.Cnt
open Go.Proofs.Ytimpajhgplkpmaa.Ring
open Go.Proofs.Ytimpajhgplkpmaa.Find
open Go.Proofs.Ytimpajhgplkpmaa.Sof
open Go.Proofs.Ytimpajhgplkpmaa.Lat
open Go.Proofs.Ytimpajhgplkpmaa.From
open Go.Proofs.Ytimpajhgplkpmaa.CopyS
open Go.Proofs.Ytimpajhgplkpmaa.Items
set_option linter.unusedVariables false

/-- copy(dst, src) over series, told by cells: all of src, from a place of dst on. -/
theorem run_copy_flat (w : World) (ty : TypeId) (g od dn n dCap sCap : Nat) (b o : Nat) (vs : List Value) (hl : vs.length = n * 3) (hdn : n ≤ dn) (h1 : ∀ v ∈ vs, v.oneCell' = true)
    (hsrc : ∀ j v, vs[j]? = some v → w.cell? ⟨b, o + j, none⟩ = some v) (hdst : ∀ j, j < n * 3 → (w.cell? ⟨g, od + j, none⟩).isSome = true ∧ w.frozen? ⟨g, od + j, none⟩ = false) :
    (Builtin.copy_ #[44, 44] ty #[.slice (some ⟨g, od, none⟩) dn dCap, .slice (some ⟨b, o, none⟩) n sCap]).run Try.prog w = .ok (.int .i64 n) (w.setCells g od vs) := by
  have hload : (loadCells ⟨b, o, none⟩ vs.length).run Try.prog w = .ok vs.toArray w :=
    run_loadCells_list (P := Try.prog) w ⟨b, o, none⟩ vs (fun j v hv => by rw [Addr.add_mid]; exact hsrc j v hv)
  have hst := run_storeCells_cells (P := Try.prog) g od vs 0 w (by rw [hl]; simpa using fun j hj => (hdst j hj).1) (by rw [hl]; simpa using fun j hj => (hdst j hj).2) h1
  simp only [Nat.add_zero] at hst
  rw [hl] at hload
  have hmin : n.min dn = n := Nat.min_eq_left hdn
  simp [Builtin.copy_, run_underlying Try.underlying44, Builtin.lenOf, Builtin.firstCells, Try.sizeOf120 w, hload, hst, hmin]
  rfl
theorem gfV_one (ls : List Sv) : ∀ v ∈ gf encV ls, v.oneCell' = true := fun v hv => by
  unfold gf at hv
  obtain ⟨l, _, h⟩ := List.mem_flatMap.1 hv
  simp only [encV, List.mem_cons, List.not_mem_nil, or_false] at h
  rcases h with rfl | rfl | rfl <;> rfl
theorem zero_gf (n : Nat) : (Builtin.zeroCells (svV zeroV).cells n).toList = gf encV (List.replicate n zeroV) := by
  have := made_gf encV 3 encV_len (by omega) zeroV n
  rw [← this]
  rfl
theorem own_partR {w : World} {B g cap n : Nat} {ps xs : List Sv} {o : Nat} (h : OwnR w B (.slice (some ⟨g, 0, none⟩) n cap) ps) (hn : ps.length = n) (ho : o + xs.length ≤ n) : OwnR (w.setCells g (o * 3) (gf encV xs)) B (.slice (some ⟨g, 0, none⟩) n cap) (ps.take o ++ (xs ++ ps.drop (o + xs.length))) := by
  subst hn
  have h1 := own_setCells (gf encV xs) (o * 3) w (gf encV ps) h
  rw [setL_eq _ _ _ (by rw [gf_len encV 3 encV_len, gf_len encV 3 encV_len]; omega)] at h1
  have hsplit : gf encV ps = gf encV (ps.take o) ++ (gf encV ((ps.drop o).take xs.length) ++ gf encV (ps.drop (o + xs.length))) := by
    rw [← gf_append, ← gf_append, ← List.drop_drop, List.take_append_drop, List.take_append_drop]
  have e1 : (gf encV ps).take (o * 3) = gf encV (ps.take o) := by
    rw [hsplit, List.take_left' (by rw [gf_len encV 3 encV_len, List.length_take]; omega)]
  have e2 : (gf encV ps).drop (o * 3 + (gf encV xs).length) = gf encV (ps.drop (o + xs.length)) := by
    rw [hsplit, ← List.append_assoc, List.drop_left' (by rw [List.length_append, gf_len encV 3 encV_len, gf_len encV 3 encV_len, gf_len encV 3 encV_len, List.length_take, List.length_take, List.length_drop]; omega)]
  rw [e1, e2] at h1
  unfold OwnR
  rw [gf_append, gf_append, List.append_assoc] at *
  have hl : (ps.take o ++ (xs ++ ps.drop (o + xs.length))).length = ps.length := by simp; omega
  rw [hl]
  exact h1
/-- A row laid new: some series, then zero values up to a capacity. -/
theorem new_zeros (w : World) (xs : List Sv) (k G : Nat) (hG : xs.length + k ≤ G) (hm : G ≤ maxLen) : OwnR (w.alloc (.cells ((gf encV xs).toArray ++ Builtin.zeroCells (svV zeroV).cells k ++ Builtin.zeroCells (svV zeroV).cells (G - (xs.length + k))) 120)) w.heap.size (.slice (some ⟨w.heap.size, 0, none⟩) (xs.length + k) G) (xs ++ List.replicate k zeroV) := by
  have hl : (xs ++ List.replicate k zeroV).length = xs.length + k := by simp
  unfold OwnR
  rw [hl]
  obtain ⟨ROW, hR⟩ : ∃ ROW, (gf encV xs).toArray ++ Builtin.zeroCells (svV zeroV).cells k ++ Builtin.zeroCells (svV zeroV).cells (G - (xs.length + k)) = ROW := ⟨_, rfl⟩
  have hs : ROW.size = G * 3 := by
    have e : (svV zeroV).cells.size = 3 := rfl
    rw [← hR, Array.size_append, Array.size_append, size_zeroCells, size_zeroCells, e]
    simp only [List.size_toArray, gf_len encV 3 encV_len]
    omega
  have ht : ROW.toList.take ((xs.length + k) * 3) = gf encV (xs ++ List.replicate k zeroV) := by
    rw [← hR, Array.toList_append, Array.toList_append, zero_gf, zero_gf, gf_append]
    rw [List.take_left' (by rw [List.length_append, gf_len encV 3 encV_len, gf_len encV 3 encV_len]; simp; omega)]
  rw [hR]
  exact ⟨by rw [gf_len encV 3 encV_len, hl], .inr ⟨w.heap.size, G, ROW, rfl, Nat.le_refl _, (by show (w.heap.push (Obj.cells ROW 120))[w.heap.size]? = _; exact Array.getElem?_push_size), hG, hm, hs, ht⟩⟩
theorem OwnR.cellR {w : World} {B g n cap : Nat} {ls : List Sv} (h : OwnR w B (.slice (some ⟨g, 0, none⟩) n cap) ls) (j : Nat) (v : Value) (hv : (gf encV ls)[j]? = some v) : w.cell? ⟨g, j, none⟩ = some v := by
  obtain ⟨hj, _⟩ := List.getElem?_eq_some_iff.1 hv
  rw [gf_len encV 3 encV_len] at hj
  obtain rfl := h.len
  rw [World.ownsRow.cellAt h j hj]
  exact hv
theorem OwnR.dst {w : World} {B g n cap : Nat} {ls : List Sv} (h : OwnR w B (.slice (some ⟨g, 0, none⟩) n cap) ls) (j : Nat) (hj : j < n * 3) : (w.cell? ⟨g, j, none⟩).isSome = true ∧ w.frozen? ⟨g, j, none⟩ = false := by
  obtain rfl := h.len
  refine ⟨?_, h.frozen j⟩
  rw [World.ownsRow.cellAt h j hj, List.getElem?_eq_getElem (by rw [gf_len encV 3 encV_len]; exact hj)]
  rfl
set_option maxHeartbeats 4000000 in
set_option maxRecDepth 20000 in
theorem insert_mid (ls : List Sv) (x : Sv) (i : Nat) (hi : i < ls.length) (hm : ls.length ≤ 1000) (b B vb vc : Nat) (w : World) (ho : OwnR w B (.slice (some ⟨b, 0, none⟩) ls.length ls.length) ls) (hx : At3 w vb 0 x) (hvb : vb < w.heap.size) :
    Calls Try.prog 114 #[.slice (some ⟨b, 0, none⟩) ls.length ls.length, .int .i64 i, .slice (some ⟨vb, 0, none⟩) 1 vc] w fun e w' => ∃ c, e = .returned (.slice (some ⟨w.heap.size, 0, none⟩) (ls.length + 1) c) ∧ OwnR w' w.heap.size (.slice (some ⟨w.heap.size, 0, none⟩) (ls.length + 1) c) (ls.take i ++ x :: ls.drop i) ∧ Below w.heap.size w w' := by
  have mixed : Try.prog.follows .mixedOrders = true := by kernel_rfl
  obtain ⟨i0, hi0, hz0, hs0, hb0⟩ := info_sr2
  obtain ⟨n, hn⟩ : ∃ n, ls.length = n := ⟨_, rfl⟩
  obtain ⟨k, hk⟩ : ∃ k, n - i = k := ⟨_, rfl⟩
  rw [hn] at hi hm ho ⊢
  have hti : (ls.take i).length = i := by rw [List.length_take]; omega
  have hdi : (ls.drop i).length = k := by rw [List.length_drop]; omega
  have hD : Below w.heap.size w w.drew := (Below.refl _ _).drew
  have hbw := ho.lt.2
  have hold : (Builtin.firstCells i0.size i (.slice (some ⟨b, 0, none⟩) i n)).run Try.prog w.drew = .ok (gf encV (ls.take i)).toArray w.drew := by
    rw [hs0]
    refine run_firstCells_some w.drew 3 i ⟨b, 0, none⟩ i n (gf encV (ls.take i)) (by rw [gf_len encV 3 encV_len, hti]) fun j v hv => ?_
    rw [Addr.add_mid, Nat.zero_add]
    refine OwnR.cellR (ho.kept hD) j v ?_
    have e : gf encV ls = gf encV (ls.take i) ++ gf encV (ls.drop i) := by rw [← gf_append, List.take_append_drop]
    obtain ⟨hj, _⟩ := List.getElem?_eq_some_iff.1 hv
    rw [e, List.getElem?_append_left hj]
    exact hv
  have hkk : (n : Int) + 1 - (i : Int) = ((k + 1 : Nat) : Int) := by omega
  have hik : i + (k + 1) = n + 1 := by omega
  obtain ⟨G, hG⟩ : ∃ G, grownCap w (n + 1) n 120 = G := ⟨_, rfl⟩
  have hGe : n + 1 ≤ G := by rw [← hG]; exact grownCap_ge _ _ _ _
  have hGm : G ≤ maxLen := by rw [← hG]; exact grownCap_le_maxLen _ _ _ _ (by unfold maxLen; omega)
  have hap := fun ty => Lib.run_append_grow_zeros (P := Try.prog) w 44 3 ty 120 i0 _ .i64 .i64 Try.underlying44 Try.underlying3 hi0 hz0 (some ⟨b, 0, none⟩) i n (gf encV (ls.take i)) hold (k + 1) (by omega) (by omega) (by omega) (by omega) (by rw [hb0]; omega) (by rw [hb0, hik]; exact growslice_fits (by omega) (by omega))
  simp only [hik, hG] at hap
  have hnew := new_zeros w.drew (ls.take i) (k + 1) G (by rw [hti]; omega) hGm
  rw [hti, hik] at hnew
  obtain ⟨ROW, hROW⟩ : ∃ ROW, (gf encV (ls.take i)).toArray ++ Builtin.zeroCells (svV zeroV).cells (k + 1) ++ Builtin.zeroCells (svV zeroV).cells (G - (n + 1)) = ROW := ⟨_, rfl⟩
  rw [hROW] at hap hnew
  have hb1 : Below w.heap.size w (w.drew.alloc (.cells ROW 120)) := hD.alloc hD.size _
  obtain ⟨W1, hW1⟩ : ∃ W1, w.drew.alloc (.cells ROW 120) = W1 := ⟨_, rfl⟩
  rw [hW1] at hap hnew hb1
  have hnew2 : OwnR W1 w.heap.size (.slice (some ⟨w.heap.size, 0, none⟩) (n + 1) G) (ls.take i ++ List.replicate (k + 1) zeroV) := hnew
  clear hnew
  have hnew := hnew2
  clear hnew2
  have hl0 : (ls.take i ++ List.replicate (k + 1) zeroV).length = n + 1 := by rw [List.length_append, hti]; simp; omega
  have hone : gf encV [x] = encV x := by simp [gf]
  have hx1 := hx.kept hb1 hvb
  have hcp1 := fun ty => run_copy_flat W1 ty w.heap.size (i * 3) (n + 1 - i) 1 (G - i) vc vb 0 (gf encV [x]) rfl (by omega) (gfV_one _)
    (fun j v hv => by
      rw [hone] at hv
      obtain ⟨y0, y1, y2⟩ := hx1
      match j, hv with
      | 0, hv => cases hv; exact y0
      | 1, hv => cases hv; exact y1
      | 2, hv => cases hv; exact y2)
    (fun j hj => OwnR.dst hnew (i * 3 + j) (by omega))
  have hown2 := own_partR (o := i) (xs := [x]) hnew hl0 (by simp; omega)
  have he2 : (ls.take i ++ List.replicate (k + 1) zeroV).take i ++ ([x] ++ (ls.take i ++ List.replicate (k + 1) zeroV).drop (i + [x].length)) = ls.take i ++ x :: List.replicate k zeroV := by
    rw [List.take_left' hti, List.length_singleton, ← List.drop_drop, List.drop_left' hti]
    simp
  rw [he2] at hown2
  have hb2 : Below w.heap.size w (W1.setCells w.heap.size (i * 3) (gf encV [x])) := hb1.trans ((only_setCells w.heap.size _ (i * 3) _ _ (Only.refl _ _)).below (Nat.le_refl _) hb1.size)
  obtain ⟨W2, hW2⟩ : ∃ W2, W1.setCells w.heap.size (i * 3) (gf encV [x]) = W2 := ⟨_, rfl⟩
  rw [hW2] at hcp1 hown2 hb2
  have hb2d : Below w.heap.size w W2.drew := hb2.drew
  have hown2d := hown2.kept ((Below.refl _ _).drew : Below W2.heap.size W2 W2.drew)
  have hl2 : (ls.take i ++ x :: List.replicate k zeroV).length = n + 1 := by rw [List.length_append, hti]; simp; omega
  have hod := ho.kept hb2d
  have hcp2 := fun ty => run_copy_flat W2.drew ty w.heap.size ((i + 1) * 3) (n + 1 - (i + 1)) (n - i) (G - (i + 1)) (n - i) b (i * 3) (gf encV (ls.drop i)) (by rw [gf_len encV 3 encV_len, hdi, hk]) (by omega) (gfV_one _)
    (fun j v hv => by
      refine OwnR.cellR hod (i * 3 + j) v ?_
      have e : gf encV ls = gf encV (ls.take i) ++ gf encV (ls.drop i) := by rw [← gf_append, List.take_append_drop]
      rw [e, List.getElem?_append_right (by rw [gf_len encV 3 encV_len, hti]; omega), gf_len encV 3 encV_len, hti, Nat.add_sub_cancel_left]
      exact hv)
    (fun j hj => OwnR.dst hown2d ((i + 1) * 3 + j) (by omega))
  have hown3 := own_partR (o := i + 1) (xs := ls.drop i) hown2d hl2 (by rw [hdi]; omega)
  have he3 : (ls.take i ++ x :: List.replicate k zeroV).take (i + 1) ++ (ls.drop i ++ (ls.take i ++ x :: List.replicate k zeroV).drop (i + 1 + (ls.drop i).length)) = ls.take i ++ x :: ls.drop i := by
    have e : ls.take i ++ x :: List.replicate k zeroV = (ls.take i ++ [x]) ++ List.replicate k zeroV := by simp
    have e1 : (ls.take i ++ [x]).length = i + 1 := by simp [hti]
    have e2 : ((ls.take i ++ [x]) ++ List.replicate k zeroV).drop (i + 1 + (ls.drop i).length) = [] := List.drop_eq_nil_of_le (by rw [List.length_append, e1, hdi]; simp)
    rw [e, List.take_left' e1, e2]
    simp
  rw [he3] at hown3
  have hb3 : Below w.heap.size w (W2.drew.setCells w.heap.size ((i + 1) * 3) (gf encV (ls.drop i))) := hb2d.trans ((only_setCells w.heap.size _ ((i + 1) * 3) _ _ (Only.refl _ _)).below (Nat.le_refl _) hb2d.size)
  have HF := Lib.hid hown3
  have HBF := Lib.hid hb3
  generalize gf encV (ls.drop i) = C2 at hcp2 HF HBF
  generalize gf encV [x] = C1 at hcp1 hW2
  obtain ⟨n1, hn1⟩ : ∃ n1, n + 1 = n1 := ⟨_, rfl⟩
  obtain ⟨k1, hk1⟩ : ∃ k1, k + 1 = k1 := ⟨_, rfl⟩
  obtain ⟨i1, hi1⟩ : ∃ i1, i + 1 = i1 := ⟨_, rfl⟩
  rw [hk1] at hap
  rw [hn1] at hap hcp1 hcp2 HF hGe ⊢
  rw [hi1] at hcp2 HF HBF
  have hni : ¬ (i : Int) = (n : Int) := by omega
  have hni2 : ((i : Int) == (n : Int)) = false := by rw [beq_eq_false_iff_ne]; omega
  have hin : (i : Int) ≤ (n : Int) := by omega
  have hkd : (n : Int) - (i : Int) = (k : Int) := by omega
  have hwn : (n : Int) + 1 = (n1 : Int) := by omega
  have hwn2 : IntKind.i64.wrap (n1 : Int) = (n1 : Int) := by rw [IntKind.wrap_i64]; omega
  have hcap : (n : Int) < (n1 : Int) := by omega
  have hwk : (n1 : Int) - (i : Int) = (k1 : Int) := by omega
  have hwk2 : IntKind.i64.wrap (k1 : Int) = (k1 : Int) := by rw [IntKind.wrap_i64]; omega
  have hwi : (i : Int) + 1 = (i1 : Int) := by omega
  have hwi2 : IntKind.i64.wrap (i1 : Int) = (i1 : Int) := by rw [IntKind.wrap_i64]; omega
  have hin1 : (i : Int) ≤ (n1 : Int) := by omega
  have hin2 : (i1 : Int) ≤ (n1 : Int) := by omega
  have hwd : (n1 : Int) - (i1 : Int) = (k : Int) := by omega
  clear hkk hik hk1 hi1 hk
  have HGE := Lib.hid hGe
  clear hown3 hb3 hown2 hown2d hb2 hb2d hl2 hod he2 he3 hl0 hone hx1 hnew hb1 hold hx ho hROW hW1 hW2 hGm hti hdi hG hD hz0 hs0 hb0 hi0
  go_enter Try.func114, Try.ntmps114
  go_wp2_with (first | (at_builtin; refine Lib.wpList_append_run _ rfl _ _ _ _ rfl _ _ rfl rfl _ _ (hap _) ?_))
  go_region
  go_wp2
  go_ret
  exact ⟨G, rfl, HF.out, HBF.out⟩
set_option maxHeartbeats 4000000 in
set_option maxRecDepth 20000 in
theorem insert_end (ls : List Sv) (x : Sv) (hm : ls.length ≤ 1000) (b B vb vc : Nat) (w : World) (ho : OwnR w B (.slice (some ⟨b, 0, none⟩) ls.length ls.length) ls) (hx : At3 w vb 0 x) :
    Calls Try.prog 114 #[.slice (some ⟨b, 0, none⟩) ls.length ls.length, .int .i64 ls.length, .slice (some ⟨vb, 0, none⟩) 1 vc] w fun e w' => ∃ c, e = .returned (.slice (some ⟨w.heap.size, 0, none⟩) (ls.length + 1) c) ∧ OwnR w' w.heap.size (.slice (some ⟨w.heap.size, 0, none⟩) (ls.length + 1) c) (ls ++ [x]) ∧ Below w.heap.size w w' := by
  obtain ⟨i0, hi0, hz0, hs0, hb0⟩ := info_sr2
  obtain ⟨n, hn⟩ : ∃ n, ls.length = n := ⟨_, rfl⟩
  rw [hn] at hm ho ⊢
  have hD : Below w.heap.size w w.drew := (Below.refl _ _).drew
  have hone : gf encV [x] = encV x := by simp [gf]
  obtain ⟨G, hG⟩ : ∃ G, grownCap w (n + 1) n 120 = G := ⟨_, rfl⟩
  have hGe : n + 1 ≤ G := by rw [← hG]; exact grownCap_ge _ _ _ _
  have hGm : G ≤ maxLen := by rw [← hG]; exact grownCap_le_maxLen _ _ _ _ (by unfold maxLen; omega)
  have hap := fun ty => run_append_grow (P := Try.prog) (w := w) 44 ty 120 i0 _ Try.underlying44 hi0 hz0 ⟨b, 0, none⟩ n n (gf encV ls) (by rw [gf_len encV 3 encV_len, hn, hs0])
    (fun j v hv => by rw [Addr.add_mid, Nat.zero_add]; exact OwnR.cellR ho j v hv)
    ⟨vb, 0, none⟩ 1 vc (gf encV [x]) (by rw [gf_len encV 3 encV_len, hs0]; rfl)
    (fun j v hv => by
      rw [Addr.add_mid]
      rw [hone] at hv
      obtain ⟨y0, y1, y2⟩ := hx
      match j, hv with
      | 0, hv => cases hv; exact y0
      | 1, hv => cases hv; exact y1
      | 2, hv => cases hv; exact y2)
    (by omega) (by omega) (by rw [hb0]; exact growslice_fits (by omega) (by omega))
  simp only [hG] at hap
  have hnew := new_zeros w.drew (ls ++ [x]) 0 G (by rw [List.length_append, hn]; exact hGe) hGm
  have hrow : (gf encV (ls ++ [x])).toArray ++ Builtin.zeroCells (svV zeroV).cells 0 ++ Builtin.zeroCells (svV zeroV).cells (G - ((ls ++ [x]).length + 0)) = (gf encV ls).toArray ++ (gf encV [x]).toArray ++ Builtin.zeroCells (svV zeroV).cells (G - (n + 1)) := by
    have e0 : Builtin.zeroCells (svV zeroV).cells 0 = #[] := by simp [Builtin.zeroCells]
    rw [e0, gf_append, Array.append_empty, List.length_append, hn]
    simp
  rw [hrow] at hnew
  obtain ⟨ROW, hROW⟩ : ∃ ROW, (gf encV ls).toArray ++ (gf encV [x]).toArray ++ Builtin.zeroCells (svV zeroV).cells (G - (n + 1)) = ROW := ⟨_, rfl⟩
  rw [hROW] at hap hnew
  have hll : (ls ++ [x]).length + 0 = n + 1 := by rw [List.length_append, hn]; rfl
  rw [hll] at hnew
  have hnew2 : OwnR (w.drew.alloc (.cells ROW 120)) w.heap.size (.slice (some ⟨w.heap.size, 0, none⟩) (n + 1) G) (ls ++ [x]) := by
    have := hnew
    rw [List.replicate_zero, List.append_nil] at this
    exact this
  have hb1 : Below w.heap.size w (w.drew.alloc (.cells ROW 120)) := hD.alloc hD.size _
  have HF := Lib.hid hnew2
  have HBF := Lib.hid hb1
  have hnn : ((n : Int) == (n : Int)) = true := by simp
  clear hnew hnew2 hrow hROW hb1 hll hG hGe hGm hz0 hs0 hb0 hi0 hx ho hone hD
  go_enter Try.func114, Try.ntmps114
  go_wp2_with (first | (at_builtin; refine Lib.wpList_append_run _ rfl _ _ _ _ rfl _ _ rfl rfl _ _ (hap _) ?_))
  go_ret
  exact ⟨G, rfl, HF.out, HBF.out⟩
end Go.Proofs.Ytimpajhgplkpmaa.Ins
