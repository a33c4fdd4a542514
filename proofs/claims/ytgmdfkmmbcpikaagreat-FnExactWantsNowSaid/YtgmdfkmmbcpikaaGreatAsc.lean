/- impl.ascend: slots compared as arrays; sorted points; the whole. -/
import Derived.Test.YtgmdfkmmbcpikaaGreatCpt
import Derived.Test.YtgmdfkmmbcpikaaGreatShelf
import Derived.ChangeKeysEq
import Derived.Laws.StructEq
namespace Go.Proofs.YtgmdfkmmbcpikaaGreat.Asc
open Go.RowKit Go.Sort
open Go.Proofs.YtgmdfkmmbcpikaaGreat.C1
open Go.Proofs.YtgmdfkmmbcpikaaGreat.C2
open Go.Proofs.YtgmdfkmmbcpikaaGreat.Smps
open Go.Proofs.YtgmdfkmmbcpikaaGreat.Mem
open Go.Proofs.YtgmdfkmmbcpikaaGreat.Ser
open Go.Proofs.YtgmdfkmmbcpikaaGreat.Ser2
open Go.Proofs.YtgmdfkmmbcpikaaGreat.Key
open Go.Proofs.YtgmdfkmmbcpikaaGreat.Sto
open Go.Proofs.YtgmdfkmmbcpikaaGreat.Ring
open Go.Proofs.YtgmdfkmmbcpikaaGreat.Cpt
set_option linter.unusedVariables false

/-! ### Arrays of points compared. -/
def ptE (x y : Pt) : Bool := x.tick == y.tick && x.val == y.val
theorem ptE_iff (x y : Pt) : ptE x y = true ↔ x = y := by
  cases x; cases y
  simp [ptE]
theorem eq_pt (x y : Pt) (w : World) : (Op.equalIn 9999 123 (ptV x) (ptV y)).run Tryz.prog w = .ok (ptE x y) w := by
  have u3 := Tryz.underlying3
  have a3 := Tryz.isAgg3
  have z3 := Tryz.sizeOf3
  have hS : Tryz.prog.underlying 123 = some (.struct (Tryz.prog.fieldsOf 123)) := by kernel_rfl
  have hp : Tryz.prog.stoodInHeld 123 = false := by kernel_rfl
  unfold ptV ptE
  rw [show (9999 : Nat) = 9998 + 1 from rfl, run_equalIn_agg w 9998 123 _ _ hS hp]
  simp only [Program.fieldsOf, Tryz.underlying123]
  go_simp
  by_cases h1 : x.tick = y.tick <;> by_cases h2 : x.val = y.val <;> simp [h1, h2]
theorem part_pt (xs : List Pt) (i : Nat) (hi : i < xs.length) (w : World) : (part 123 (gf encP xs).toArray (i * 2)).run Tryz.prog w = .ok (ptV xs[i]) w := by
  have hl := gf_len encP 2 encP_len xs
  have h0 := gf_get encP 2 encP_len xs i 0 hi (by omega)
  have h1 := gf_get encP 2 encP_len xs i 1 hi (by omega)
  have he : (gf encP xs).toArray.extract (i * 2) (i * 2 + 2) = #[.int .i64 xs[i].tick, .int .i64 xs[i].val] := by
    apply Array.ext_getElem?
    intro j
    rw [Array.getElem?_extract]
    rcases (by omega : j = 0 ∨ j = 1 ∨ 2 ≤ j) with h | h | h
    · subst h; simp only [List.size_toArray, hl]; rw [if_pos (by omega)]; simpa [encP] using h0
    · subst h; simp only [List.size_toArray, hl]; rw [if_pos (by omega)]; simpa [encP] using h1
    · simp only [List.size_toArray, hl]
      rw [if_neg (by omega)]
      symm
      exact Array.getElem?_eq_none (by simp; omega)
  unfold part
  simp only [Sem.run_bind, Tryz.isAgg123 w, Result.andThen_ok, if_true, Tryz.sizeOf123 w, he, Sem.run_pure]
  rfl
theorem eq_items (xs ys : List Pt) (w : World) : ∀ is : List Nat, (∀ i ∈ is, i < xs.length ∧ i < ys.length) → (Op.eqItems 9999 123 2 (gf encP xs).toArray (gf encP ys).toArray is).run Tryz.prog w = .ok (is.all fun i => ptE xs[i]! ys[i]!) w
  | [], _ => rfl
  | i :: is, h => by
    obtain ⟨h1, h2⟩ := h i (by simp)
    have ih := eq_items xs ys w is (fun j hj => h j (by simp [hj]))
    simp only [Op.eqItems, Sem.run_bind, part_pt xs i h1 w, part_pt ys i h2 w, Result.andThen_ok, eq_pt, Sem.run_ite, Sem.run_pure, ih, List.all_cons]
    rw [getElem!_pos xs i h1, getElem!_pos ys i h2]
    cases ptE xs[i] ys[i] <;> simp
def slotsE (xs ys : List Pt) : Bool := (List.range 12).all fun i => ptE xs[i]! ys[i]!
theorem slotsE_iff (xs ys : List Pt) (hx : xs.length = 12) (hy : ys.length = 12) : slotsE xs ys = true ↔ xs = ys := by
  unfold slotsE
  rw [List.all_eq_true]
  constructor
  · intro h
    apply List.ext_getElem (by omega)
    intro i h1 h2
    have := (ptE_iff _ _).1 (h i (List.mem_range.2 (by omega)))
    rwa [getElem!_pos xs i h1, getElem!_pos ys i h2] at this
  · intro h i _
    subst h
    exact (ptE_iff _ _).2 rfl
theorem cells_pt : Tryz.prog.cellsOf 123 = 2 := by kernel_rfl
theorem eql_slots (xs ys : List Pt) (hx : xs.length = 12) (hy : ys.length = 12) (w : World) :
    (binOp .eql 247 (.agg (gf encP xs).toArray) (.agg (gf encP ys).toArray)).run Tryz.prog w = .ok (.bool (slotsE xs ys)) w := by
  obtain ⟨i, hi, _⟩ := Option.map_eq_some_iff.1 info_pt
  rw [run_eql_struct, show (10000 : Nat) = 9999 + 1 from rfl, run_equalIn_array w 9999 _ _ Tryz.underlying247 hi, cells_pt, eq_items xs ys w (List.range 12) (fun i hi => by have := List.mem_range.1 hi; omega)]
  rfl

/-! ### Sorted by time. -/
def cfT (x y : Pt) : Int := cmpI x.tick y.tick
theorem lt_time (x y : Pt) : ltOf cfT x y = decide (x.tick < y.tick) := by
  unfold ltOf cfT cmpI
  by_cases h1 : x.tick < y.tick
  · simp [h1]
  · by_cases h2 : y.tick < x.tick <;> simp [h1, h2]
theorem swo_time : SWO (ltOf cfT) where
  irrefl x := by rw [lt_time]; simp
  trans x y z h1 h2 := by rw [lt_time] at *; simp at *; omega
  ntrans x y z h1 h2 := by rw [lt_time] at *; simp at *; omega
theorem sort_time (ps : List Pt) (h12 : ps.length ≤ 12) (g cap : Nat) (w : World) (hg : g < w.heap.size) (h : HoldsK encP 2 w g 0 ps.toArray) :
    Calls Tryz.prog 189 #[.slice (some ⟨g, 0, none⟩) ps.length cap, .func (.func 190) #[] #[]] w fun e w' => e = .returned (.tuple #[]) ∧ ∃ (d' : Array Pt) (n : Nat) (os : Array Obj), PermIn 0 ps.length ps.toArray d' ∧ SortedIn (ltOf cfT) 0 ps.length d' ∧ w' = sortWorldK encP 2 w g 0 n d' os := by
  have eg : ∀ args w, (callFunc 190 args).run Tryz.prog w = .ok (.enter 190 args) w := enters_of Tryz.func190 (by kernel_rfl) rfl
  have hcon := Tryz.slices_SortFunc_small_sorted_f189 2 Tryz.isAgg123 Tryz.sizeOf123 encP encP_len (fun x v hv => by simp [encP] at hv; rcases hv with rfl | rfl <;> rfl) cfT 190 #[] swo_time g 0 cap ps.toArray w eg
    (fun m os dk hs x y => cmp_times x y _) h hg (by simpa using h12) (fun n W hn => (Tryz.bits_Len n W (by omega) (by omega)).mono fun _ _ ⟨he, hw⟩ => ⟨⟨_, he⟩, hw⟩)
  simpa using hcon
theorem asc_pairs {ps : List Pt} (h : Asc ps) : ∀ (j i : Nat) (hj : j < ps.length) (hi : i < j), ps[i].tick < ps[j].tick
  | 0, i, _, hi => absurd hi (by omega)
  | j + 1, i, hj, hi => by
    have h1 := h j hj
    by_cases e : i = j
    · subst e; exact h1
    · have := asc_pairs h j i (by omega) (by omega)
      omega
/-- A row sorted by time that was in order of time already is as it was. -/
theorem sorted_same {ps : List Pt} {d' : Array Pt} (ha : Asc ps) (hp : PermIn 0 ps.length ps.toArray d') (hs : SortedIn (ltOf cfT) 0 ps.length d') : d'.toList = ps := by
  obtain ⟨h1, _, h3⟩ := hp
  have h1' : d'.size = ps.length := by simpa using h1
  have e1 : d'.extract 0 ps.length = d' := by rw [← h1']; simp
  have e2 : ps.toArray.extract 0 ps.length = ps.toArray := by have : ps.length = ps.toArray.size := by simp
                                                              rw [this]; simp
  rw [e1, e2] at h3
  refine List.Perm.eq_of_pairwise (le := fun x y : Pt => x.tick ≤ y.tick) (fun a b ha' hb hab hba => ?_) ?_ ?_ h3
  · have hb' : b ∈ ps := hb
    have ha2 : a ∈ ps := h3.mem_iff.1 ha'
    obtain ⟨i, hi, rfl⟩ := List.mem_iff_getElem.1 ha2
    obtain ⟨j, hj, rfl⟩ := List.mem_iff_getElem.1 hb'
    rcases Nat.lt_trichotomy i j with h | h | h
    · have := asc_pairs ha j i hj h; omega
    · subst h; rfl
    · have := asc_pairs ha i j hi h; omega
  · rw [List.pairwise_iff_getElem]
    intro i j hi hj hij
    have := hs i j (Nat.zero_le _) hij (by simpa [h1'] using hj)
    rw [lt_time] at this
    have hi' : i < d'.size := by simpa using hi
    have hj' : j < d'.size := by simpa using hj
    rw [getElem!_pos d' i hi', getElem!_pos d' j hj'] at this
    have := of_decide_eq_false this
    simp only [Array.getElem_toList]
    omega
  · rw [List.pairwise_iff_getElem]
    intro i j hi hj hij
    have := asc_pairs ha j i hj hij
    omega
/-- A sorted row without equal neighbours is in order of time. -/
theorem sorted_asc {n : Nat} {d' : Array Pt} (h1 : d'.size = n) (hs : SortedIn (ltOf cfT) 0 n d') (hne : ∀ (i : Nat) (hi : i + 1 < d'.toList.length), d'.toList[i + 1].tick ≠ d'.toList[i].tick) : Asc d'.toList := by
  intro i hi
  have hi2 : i + 1 < d'.size := by simpa using hi
  have := hs i (i + 1) (Nat.zero_le _) (by omega) (by omega)
  rw [lt_time, getElem!_pos d' i (by omega), getElem!_pos d' (i + 1) hi2] at this
  have h2 := of_decide_eq_false this
  have h3 := hne i hi
  simp only [Array.getElem_toList] at h3 ⊢
  omega

/-! ### impl.ascend. -/
theorem store_row {P : Program} {ops : Array Oper} {rest : List Oper} {op : Oper} {a : Act} {w : World} {Q : Exit → Act → World → Prop} (hgd : op.guard = none) (ty : TypeId) (x y : Operand) (ho : op.op = .store ty x y)
    (g : Nat) (cells : Array Value) (hx : a.eval x = .pointer (some ⟨g, 0, none⟩)) (hy : a.eval y = .agg cells) (vs : List Value) (hc : CellsW w g vs) (hl : vs.length = cells.size)
    (hi : (P.info? ty).map (·.size) = some cells.size) (h1 : cells.all (·.oneCell') = true)
    (h : ∀ V, CellsW V g cells.toList → Only g w V → wpList P ops Q rest (a.put op.dst undef) V) : wpList P ops Q (op :: rest) a w := by
  obtain ⟨k1, k2⟩ := cellsW_over (us := cells.toList) hc (by simp [hl])
  refine wpList_store_mid hgd ty x y ho g 0 cells hx hy ?_ hi h1 (h _ k1 k2)
  rw [← hl]
  exact there_of hc
theorem holds_of {w : World} {g : Nat} {ps : List Pt} {rest : List Value} (h : CellsW w g (gf encP ps ++ rest)) : HoldsK encP 2 w g 0 ps.toArray := by
  intro j hj
  have hj2 : j < ps.toArray.size * 2 := by simpa using hj
  have hi : j / 2 < ps.length := by simp at hj2; omega
  obtain ⟨⟨c0, c1⟩, f0, f1⟩ := row_at h (j / 2) hi
  rw [get_flatK encP 2 ps.toArray j hj2, Nat.zero_add]
  have eg : ps.toArray[j / 2]! = ps[j / 2] := by simp [hi]
  rw [eg]
  rcases (by omega : j % 2 = 0 ∨ j % 2 = 1) with h | h
  · have e : j / 2 * 2 = j := by omega
    rw [e] at c0 f0
    rw [h]
    exact ⟨c0, f0⟩
  · have e : j / 2 * 2 + 1 = j := by omega
    rw [e] at c1 f1
    rw [h]
    exact ⟨c1, f1⟩
theorem sorted_world {w : World} {g : Nat} {ps : List Pt} {rest : List Value} (h : CellsW w g (gf encP ps ++ rest)) (d' : Array Pt) (hs : d'.size = ps.length) (n : Nat) (os : Array Obj) :
    CellsW (sortWorldK encP 2 w g 0 n d' os) g (gf encP d'.toList ++ rest) ∧ Only g w (sortWorldK encP 2 w g 0 n d' os) := by
  have hg := h.1
  have hl := gf_len encP 2 encP_len d'.toList
  have hl0 := gf_len encP 2 encP_len ps
  have hK := holdsK_sortWorldK_c encP 2 w g 0 ps.toArray d' n os (holds_of h) hg (by simpa using hs)
  have hsz : w.heap.size ≤ (sortWorldK encP 2 w g 0 n d' os).heap.size := size_sortWorldK_c encP 2 w g 0 n d' os
  have hdl : d'.toList.length = ps.length := by simpa using hs
  refine ⟨⟨Nat.lt_of_lt_of_le hg hsz, fun j hj => ?_⟩, ⟨rfl, rfl, rfl, hsz, fun k hk hne => ?_⟩⟩
  · by_cases hj2 : j < d'.toList.length * 2
    · have hi : j / 2 < d'.toList.length := by omega
      have hi2 : j / 2 < d'.size := by simpa using hi
      have hc := hK.cell hi2 (show j % 2 < 2 by omega)
      have e : 0 + j / 2 * 2 + j % 2 = j := by omega
      rw [e, getElem!_pos d' (j / 2) hi2] at hc
      have hgf := gf_get encP 2 encP_len d'.toList (j / 2) (j % 2) hi (by omega)
      have e' : j / 2 * 2 + j % 2 = j := by omega
      rw [e'] at hgf
      have hlt : j < (gf encP d'.toList).length := by omega
      rw [List.getElem_append_left hlt]
      rw [List.getElem?_eq_getElem hlt] at hgf
      refine ⟨?_, hc.2⟩
      rw [hc.1]
      rcases (by omega : j % 2 = 0 ∨ j % 2 = 1) with h | h <;> rw [h] at hgf ⊢ <;> simp only [Array.getElem_toList] at hgf <;> rw [Option.some.inj hgf] <;> rfl
    · have hlt : ¬ j < (gf encP d'.toList).length := by omega
      rw [List.getElem_append_right (by omega)]
      have hj3 : j < (gf encP ps ++ rest).length := by rw [List.length_append] at hj ⊢; omega
      have h0 := h.2 j hj3
      rw [List.getElem_append_right (by omega)] at h0
      have eo : (sortWorldK encP 2 w g 0 n d' os).cell? ⟨g, j, none⟩ = w.cell? ⟨g, j, none⟩ := by
        unfold sortWorldK
        rw [cell?_grow _ _ _ (by unfold putRowK; rw [size_putRow]; exact hg)]
        unfold putRowK
        rw [cell?_putRow_other _ _ _ _ _ _ (Or.inr (Or.inr (by rw [size_flatK]; show 0 + d'.size * 2 ≤ j; simp at hj2; omega)))]
        rfl
      have ef : (sortWorldK encP 2 w g 0 n d' os).frozen? ⟨g, j, none⟩ = w.frozen? ⟨g, j, none⟩ := by
        unfold sortWorldK
        rw [frozen?_grow _ _ _ (by unfold putRowK; rw [size_putRow]; exact hg)]
        unfold putRowK
        rw [frozen?_putRow]
        rfl
      rw [eo, ef]
      have en : j - (gf encP d'.toList).length = j - (gf encP ps).length := by omega
      simp only [en]
      exact h0
  · unfold sortWorldK
    rw [heap_grow_old _ _ (by unfold putRowK; rw [size_putRow]; exact hk)]
    show ((Sort.ahead w n).heap.modify g _)[k]? = _
    rw [Array.getElem?_modify, if_neg (fun e => hne e.symm)]
    rfl
theorem range_pre {w : World} {g : Nat} {vs us : List Value} (h : CellsW w g (vs ++ us)) : w.rangeAt g 0 vs := fun j v hv => by
  rw [Nat.zero_add]
  obtain ⟨hj, _⟩ := List.getElem?_eq_some_iff.1 hv
  exact (cellsW_get h (by rw [List.getElem?_append_left hj]; exact hv)).1
theorem array_len : Tryz.prog.arrayLen 247 = 12 := by kernel_rfl
theorem slice_slots (n : Nat) (hn : n ≤ 12) (g : Nat) (w : World) : (Instr.sliceAt 247 (.pointer (some ⟨g, 0, none⟩)) none (some (.int .i64 (n : Int))) (some (.int .i64 (n : Int)))).run Tryz.prog w = .ok (.slice (some ⟨g, 0, none⟩) n n) w := by
  have he : Tryz.prog.elem 247 = 123 := by kernel_rfl
  rw [run_sliceAt_array_hm w 247 ⟨g, 0, none⟩ (by kernel_rfl) .i64 .i64 n n (by omega) (by omega) (by rw [array_len]; omega), he]
  simp only [Tryz.sizeOf123 w, Result.andThen_ok, slicedAt]
  simp [Addr.add]
set_option maxHeartbeats 2000000 in
set_option maxRecDepth 20000 in
theorem impl_ascend (ps : List Pt) (h1 : 1 ≤ ps.length) (h12 : ps.length ≤ 12) (a : Option Addr) (cap : Nat) (w : World) (h : Pts w a ps) :
    Calls Tryz.prog 157 #[.slice a ps.length cap] w fun e w' => e = .returned (.bool (ascV ps)) ∧ Below w.heap.size w w' := by
  have hring := ring_of ps h12 a cap w h
  have hl25 : (ringL (slots ps ps.length) ps.length).length = 25 := by rw [ringL_len, slots_len ps ps.length (Nat.le_refl _) h12]
  have hone := ringL_one (slots ps ps.length) ps.length
  unfold ringV at hring
  obtain ⟨rs, hrs⟩ : ∃ rs, ringL (slots ps ps.length) ps.length = rs := ⟨_, rfl⟩
  rw [hrs] at hring hl25 hone
  have HRS := Lib.hid hrs
  have HR := Lib.hid hring
  clear hring hrs h
  go_enter Tryz.func157, Tryz.ntmps157
  have hsl := slice_slots ps.length h12
  go_wp2_with (first
    | (go_at_call 188; refine HR.out.mono ?_; rintro e w1 ⟨rfl, hb1⟩)
    | (refine store_row rfl 249 _ _ rfl _ rs.toArray rfl rfl _ (cells_new V1 _ _) (by simp [hl25]) (by rw [info_ring]; simp [hl25]) hone ?_; intro V2 hc2 ho2)
    | (refine store_row rfl 249 _ _ rfl _ rs.toArray rfl rfl _ (cells_new w1 _ _) (by simp [hl25]) (by rw [info_ring]; simp [hl25]) hone ?_; intro V1 hc1 ho1)
    | refine wpList_load_mid rfl 249 _ rfl _ 0 rfl rs _ (range_of hc1) Tryz.underlying249 rfl (by rw [info_ring, hl25]) ?_)
  obtain ⟨g1, hg1⟩ : ∃ g1, w1.heap.size = g1 := ⟨_, rfl⟩
  obtain ⟨g2, hg2⟩ : ∃ g2, V1.heap.size = g2 := ⟨_, rfl⟩
  have hbx1 := box_below w1 #[.int .i64 0, .int .i64 0, .int .i64 0, .int .i64 0, .int .i64 0, .int .i64 0, .int .i64 0, .int .i64 0, .int .i64 0, .int .i64 0, .int .i64 0, .int .i64 0, .int .i64 0, .int .i64 0, .int .i64 0, .int .i64 0, .int .i64 0, .int .i64 0, .int .i64 0, .int .i64 0, .int .i64 0, .int .i64 0, .int .i64 0, .int .i64 0, .int .i64 0] 249
  have hbx2 := box_below V1 #[.int .i64 0, .int .i64 0, .int .i64 0, .int .i64 0, .int .i64 0, .int .i64 0, .int .i64 0, .int .i64 0, .int .i64 0, .int .i64 0, .int .i64 0, .int .i64 0, .int .i64 0, .int .i64 0, .int .i64 0, .int .i64 0, .int .i64 0, .int .i64 0, .int .i64 0, .int .i64 0, .int .i64 0, .int .i64 0, .int .i64 0, .int .i64 0, .int .i64 0] 249
  have BV1 : Hid (Below w.heap.size w V1) := hb1.trans ((hbx1.trans (ho1.below (Nat.le_refl _) hbx1.size)).mono hb1.size)
  have BV2 : Hid (Below w.heap.size w V2) := BV1.out.trans ((hbx2.trans (ho2.below (Nat.le_refl _) hbx2.size)).mono BV1.out.size)
  have hlt12 : g1 < g2 := by rw [← hg1, ← hg2]; exact hc1.1
  have HW1 : Hid (w.heap.size ≤ g1) := by rw [← hg1]; exact hb1.size
  have hc1b := cellsW_off (hc1.kept hbx2) ho2 (by omega)
  rw [hg1] at hc1b ⊢
  rw [hg2] at hc2 ⊢
  have HA := Lib.hid hc1b
  obtain ⟨rest, hrest⟩ : ∃ rest, gf encP (List.replicate (12 - ps.length) zeroP) ++ [.int .i64 (ps.length : Int)] = rest := ⟨_, rfl⟩
  have hsplit : rs = gf encP ps ++ rest := by
    rw [← HRS.out, ← hrest]
    unfold ringL slots
    rw [List.take_of_length_le (Nat.le_refl _), gf_append, List.append_assoc]
  rw [hsplit] at hc2
  have HB := Lib.hid hc2
  have HREST := Lib.hid hrest
  clear hb1 ho1 ho2 hc1 hc1b hc2 hbx1 hbx2 hg1 hg2 hrest hsl BV1
  clear V1
  clear w1
  have hsort := sort_time ps h12 g2 ps.length V2 HB.out.1 (holds_of HB.out)
  refine hsort.mono ?_
  rintro e V3 ⟨rfl, d', n, os, hp, hs, hw3⟩
  have hdz : d'.size = ps.length := by simpa using hp.1
  obtain ⟨hB3, hO3⟩ := sorted_world HB.out d' hdz n os
  rw [← hw3] at hB3 hO3
  have hdl : d'.toList.length = ps.length := by simpa using hdz
  have HA3 := Lib.hid (cellsW_off HA.out hO3 (by omega))
  have HB3 := Lib.hid hB3
  have BV3 : Hid (Below w.heap.size w V3) := BV2.out.trans (hO3.below (Nat.le_of_lt (Nat.lt_of_le_of_lt HW1.out hlt12)) BV2.out.size)
  have HP := Lib.hid hp
  have HS := Lib.hid hs
  clear hsort hB3 hO3 hw3 hp hs HA HB
  by_cases hadj : ∃ (i : Nat) (hi : i + 1 < d'.toList.length), d'.toList[i + 1].tick = d'.toList[i].tick
  · have hcomp := compact_less d'.toList g2 rest (by omega) V3 HB3.out hadj
    rw [hdl] at hcomp
    have HNA : Hid (ascV ps = false) := by
      show _ = _
      cases hv : ascV ps
      · rfl
      · exfalso
        have ha := (ascV_iff ps).1 hv
        have he := sorted_same ha HP.out HS.out
        obtain ⟨i, hi, hq⟩ := hadj
        simp only [he] at hq hi
        have := ha i hi
        omega
    have HCM := Lib.hid hcomp
    clear hcomp hadj
    go_wp2_with (go_at_call 191; refine HCM.out.mono ?_; rintro e V4 ⟨m, hm, rfl, ho4⟩; have BV4 := Lib.hid (BV3.out.trans (ho4.below (Nat.le_of_lt (Nat.lt_of_le_of_lt HW1.out hlt12)) BV3.out.size)); have hne : ((m : Int) == (ps.length : Int)) = false := (by rw [beq_eq_false_iff_ne]; omega); clear ho4)
    go_ret
    exact ⟨ret1B HNA.out.symm, BV4.out⟩
  · have hne : ∀ (i : Nat) (hi : i + 1 < d'.toList.length), d'.toList[i + 1].tick ≠ d'.toList[i].tick := fun i hi e => hadj ⟨i, hi, e⟩
    have hcomp := compact_same d'.toList g2 ps.length (by omega) V3 HB3.out.1 (fun i hi => (row_at HB3.out i hi).1) hne
    rw [hdl] at hcomp
    have HCM := Lib.hid hcomp
    have hda := sorted_asc hdz HS.out hne
    obtain ⟨es, hes⟩ : ∃ es, d'.toList ++ List.replicate (12 - ps.length) zeroP = es := ⟨_, rfl⟩
    obtain ⟨ss, hss⟩ : ∃ ss, slots ps ps.length = ss := ⟨_, rfl⟩
    have hel : es.length = 12 := by rw [← hes]; simp; omega
    have hsl : ss.length = 12 := by rw [← hss]; exact slots_len ps ps.length (Nat.le_refl _) h12
    have HE : Hid (slotsE es ss = ascV ps) := by
      show _ = _
      have h1 := slotsE_iff es ss hel hsl
      have h2 : es = ss ↔ d'.toList = ps := by
        rw [← hes, ← hss]
        unfold slots
        rw [List.take_of_length_le (Nat.le_refl _)]
        exact ⟨fun h => List.append_cancel_right h, fun h => by rw [h]⟩
      rw [Bool.eq_iff_iff, h1, h2, ascV_iff]
      exact ⟨fun h => by rw [← h]; exact hda, fun h => sorted_same h HP.out HS.out⟩
    have HBE : Hid (CellsW V3 g2 (gf encP es ++ [.int .i64 (ps.length : Int)])) := by
      have := HB3.out
      rw [← HREST.out, ← List.append_assoc, ← gf_append, hes] at this
      exact this
    have HAE : Hid (CellsW V3 g1 (gf encP ss ++ [.int .i64 (ps.length : Int)])) := by
      have := HA3.out
      rw [← HRS.out, hss] at this
      exact this
    have heql := fun w => eql_slots es ss hel hsl w
    have hgd : Tryz.prog.eqGuardType Tryz.prog.depth 247 = false := by kernel_rfl
    have hinf : (Tryz.prog.info? 247).map (·.size) = some 24 := by kernel_rfl
    have hle : (gf encP es).length = 24 := by rw [gf_len encP 2 encP_len, hel]
    have hls : (gf encP ss).length = 24 := by rw [gf_len encP 2 encP_len, hsl]
    clear hcomp hadj hne hda hes hss HB3 HA3
    go_wp2_with (first
      | (go_at_call 191; refine HCM.out.mono ?_; rintro e V4 ⟨rfl, hb4⟩; have BV4 := Lib.hid (BV3.out.trans (hb4.mono BV3.out.size)); have hr1 := range_pre (HAE.out.kept hb4); have hr2 := range_pre (HBE.out.kept hb4); clear hb4)
      | refine Go.BigFrame.wpList_want rfl (fun K hK => wp_load_mid 247 _ rfl g2 0 rfl (gf encP es) _ hr2 Tryz.underlying247 rfl (by rw [hinf, hle]) (hK _ _ ?_))
      | refine Go.BigFrame.wpList_want rfl (fun K hK => wp_load_mid 247 _ rfl g1 0 rfl (gf encP ss) _ hr1 Tryz.underlying247 rfl (by rw [hinf, hls]) (hK _ _ ?_)))
    go_ret
    exact ⟨ret1B (by rw [HE.out]), BV4.out⟩
end Go.Proofs.YtgmdfkmmbcpikaaGreat.Asc
