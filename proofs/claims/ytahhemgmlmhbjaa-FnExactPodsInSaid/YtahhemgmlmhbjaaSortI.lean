/- SortSamples: the program's (a clone, sorted in place) and the model's (insertions into new lists): both hold sortS. -/
import Derived.Test.YtahhemgmlmhbjaaSortS
import Derived.Test.YtahhemgmlmhbjaaSortD
import Derived.Shelf.SlicesE.Clone
namespace Go.Proofs.Ytahhemgmlmhbjaa.SortI
open Go.Shelf Go.RowKit Go.Lib Go.Sort
open Go.Proofs.Ytahhemgmlmhbjaa.C1
open Go.Proofs.Ytahhemgmlmhbjaa.C2
open Go.Proofs.Ytahhemgmlmhbjaa.Smps
open Go.Proofs.Ytahhemgmlmhbjaa.StM
open Go.Proofs.Ytahhemgmlmhbjaa.Cmp
open Go.Proofs.Ytahhemgmlmhbjaa.Sort
open Go.Proofs.Ytahhemgmlmhbjaa.SortM
open Go.Proofs.Ytahhemgmlmhbjaa.SortP
open Go.Proofs.Ytahhemgmlmhbjaa.SortS
open Go.Proofs.Ytahhemgmlmhbjaa.SortD
set_option linter.unusedVariables false

/-- The samples ys in a row that is not below B and may be written. -/
def Rows (w : World) (B : Nat) (a : Option Addr) (ys : List Smp) : Prop :=
  ys = [] ∨ ∃ g, a = some ⟨g, 0, none⟩ ∧ B ≤ g ∧ g < w.heap.size ∧ (∀ (i : Nat) (h : i < ys.length), At4 w g (0 + i * 4) ys[i]) ∧ ∀ j, j < ys.length * 4 → w.frozen? ⟨g, j, none⟩ = false
theorem Rows.smps {w : World} {B : Nat} {a : Option Addr} {ys : List Smp} (h : Rows w B a ys) : Smps w a ys := by
  rcases h with h | ⟨g, h1, _, h2, h3, _⟩
  · exact .inl h
  · exact .inr ⟨g, 0, h1, h2, h3⟩
theorem rows_own {w : World} {B n cap : Nat} {a : Option Addr} {ys : List Smp} (h : OwnS w B (.slice a n cap) ys) (hn : n = ys.length) : Rows w B a ys := by
  subst hn
  by_cases h0 : ys = []
  · exact .inl h0
  · have h' : w.ownsRow B 27 4 (.slice a ys.length cap) ys.length (flat ys) := h
    rcases h.2 with ⟨hv, hz⟩ | ⟨g, cap', cur, hv, hg, hh, _⟩
    · exact absurd (List.length_eq_zero_iff.1 hz) h0
    · simp only [Value.slice.injEq, true_and] at hv
      obtain ⟨rfl, rfl⟩ := hv
      exact .inr ⟨g, rfl, hg, (Array.getElem?_eq_some_iff.1 hh).1, fun i hi => OwnS.at4 h i hi, fun j hj => World.ownsRow.frozenAt h' j⟩

def renC : Go.Shelf.Ren := ⟨fun | 41 => 35 | n => n, fun | 22 => 32 | 23 => 27 | n => n, fun n => n⟩
theorem laysC : Go.Proofs.SlLaysE0.n41 Try.prog renC := {
  mixed := by kernel_rfl
  f41 := ⟨Try.f35.name, by kernel_rfl, Try.func35.trans (congrArg some (by kernel_rfl))⟩
  t4 := Try.underlying4
  a4 := Try.isAgg4
  z4 := Try.sizeOf4
  v4 := Try.zeroValue4
  t22 := Try.underlying32
  a22 := Try.isAgg32
  z22 := Try.sizeOf32
  v22 := Try.zeroValue32 }

theorem flat_one (xs : List Smp) : ∀ u ∈ flat xs, u.oneCell' = true := by
  intro u hu
  unfold flat at hu
  obtain ⟨s, _, hs⟩ := List.mem_flatMap.1 hu
  simp [encS] at hs
  rcases hs with rfl | rfl | rfl | rfl <;> rfl

/-- slices.Clone of a list that isn't nil: a row of the call's own that holds the same. -/
theorem clone (xs : List Smp) (b off : Nat) (cap : Nat) (w : World) (h : Smps w (some ⟨b, off, none⟩) xs) (hm : xs.length ≤ 1048576) :
    Calls Try.prog 35 #[.slice (some ⟨b, off, none⟩) xs.length cap] w fun e w' => ∃ g cap', e = .returned (.slice (some ⟨g, 0, none⟩) xs.length cap') ∧ OwnS w' w.heap.size (.slice (some ⟨g, 0, none⟩) xs.length cap') xs ∧ Below w.heap.size w w' := by
  obtain ⟨i, hi, hzz⟩ := Option.map_eq_some_iff.1 info_smp
  simp only [Prod.mk.injEq] at hzz
  obtain ⟨hz, hs, hby⟩ := hzz
  refine (AnyE.slices_Clone laysC i (smpV zeroS) 4 48 hi hz hs hby rfl (by decide) Try.sizeOf27 b off xs.length cap (flat xs) w (flat_len xs) (by unfold maxLen; omega) (by omega) (fun j u hj => ?_) (flat_one xs)).mono ?_
  · have hjl : j < xs.length * 4 := by
      have := (List.getElem?_eq_some_iff.1 hj).1
      rwa [flat_len] at this
    have e : j = j / 4 * 4 + j % 4 := by omega
    have hi4 : j / 4 < xs.length := by omega
    have hcell : At4 w b (off + j / 4 * 4) xs[j / 4] := by
      rcases h with h | ⟨b', off', h1, _, h3⟩
      · subst h; simp at hi4
      · cases h1
        exact h3 (j / 4) hi4
    rw [e, flat_get xs (j / 4) (j % 4) hi4 (by omega)] at hj
    obtain ⟨c0, c1, c2, c3⟩ := hcell
    rcases (by omega : j % 4 = 0 ∨ j % 4 = 1 ∨ j % 4 = 2 ∨ j % 4 = 3) with hr | hr | hr | hr <;> rw [hr] at hj <;> simp [encS] at hj <;> subst hj
    · rw [show off + j = off + j / 4 * 4 by omega]; exact c0
    · rw [show off + j = off + j / 4 * 4 + 1 by omega]; exact c1
    · rw [show off + j = off + j / 4 * 4 + 2 by omega]; exact c2
    · rw [show off + j = off + j / 4 * 4 + 3 by omega]; exact c3
  · rintro e w' ⟨v, rfl, ho, hne, hb⟩
    rcases ho.2 with ⟨hv, _⟩ | ⟨g, cap', cur, hv, _⟩
    · exact absurd hv hne
    · subst hv
      exact ⟨g, cap', rfl, ho, hb⟩

/-! ### In place. -/
theorem row_of {w : World} {B g cap : Nat} {xs : List Smp} (h : OwnS w B (.slice (some ⟨g, 0, none⟩) xs.length cap) xs) (hm : xs.length ≤ 1000) : Row xs w g 0 (Array.range xs.length) := by
  have h' : w.ownsRow B 27 4 (.slice (some ⟨g, 0, none⟩) xs.length cap) xs.length (flat xs) := h
  refine ⟨fun j hj => ?_, h.new.2, by simpa using hm⟩
  rw [size_flatK] at hj
  simp only [Array.size_range] at hj
  have e : j = j / 4 * 4 + j % 4 := by omega
  have hi4 : j / 4 < xs.length := by omega
  have hc := World.ownsRow.cellAt h' j hj
  refine ⟨?_, by rw [Nat.zero_add]; exact World.ownsRow.frozenAt h' j⟩
  rw [Nat.zero_add, hc, get_flatK _ _ _ _ (by simpa using hj), range_at hi4]
  have hg := flat_get xs (j / 4) (j % 4) hi4 (by omega)
  rw [← e] at hg
  rw [hg]
  have hx : xs.getD (j / 4) default = xs[j / 4] := by simp [List.getD_eq_getElem?_getD, hi4]
  show _ = some ((encS (xs.getD (j / 4) default))[j % 4]!)
  rw [hx, getElem!_pos (encS xs[j / 4]) (j % 4) (by simp only [encS, List.length_cons, List.length_nil]; omega)]
  exact List.getElem?_eq_getElem (by simp only [encS, List.length_cons, List.length_nil]; omega)
theorem swk_below {w0 W : World} {blk off B : Nat} {enc : Nat → List Value} {d : Array Nat} (S : SWK enc 4 w0 blk off d W) (h1 : B ≤ blk) (h2 : B ≤ w0.heap.size) : Below B w0 W := by
  obtain ⟨n, os, rfl⟩ := S
  have hsz := size_putRowK enc 4 (Sort.ahead w0 n) blk off d
  refine ⟨rfl, rfl, rfl, ?_, fun k hk => ?_⟩
  · unfold sortWorldK
    rw [size_grow, hsz]; exact Nat.le_add_right _ _
  · unfold sortWorldK
    rw [heap_grow_old _ _ (by rw [hsz]; exact Nat.lt_of_lt_of_le hk h2)]
    show ((w0.heap).modify blk _)[k]? = w0.heap[k]?
    rw [Array.getElem?_modify, if_neg (by omega)]
theorem sortS_len (xs : List Smp) : (sortS xs).length = xs.length := by
  rw [← specS_sort, specS_len]
theorem sorted_rows {w0 W : World} {g B : Nat} {xs : List Smp} {d : Array Nat} (R : Row xs w0 g 0 (Array.range xs.length)) (hB : B ≤ g) (hP : PermIn 0 xs.length (Array.range xs.length) d) (hS : SortedIn (TX xs) 0 xs.length d) (S : SWK (encX xs) 4 w0 g 0 d W) : Rows W B (some ⟨g, 0, none⟩) (sortS xs) := by
  have hd := sorted_ord xs hP hS
  have hz : d.size = xs.length := by rw [hP.1]; simp
  have HH : HoldsK (encX xs) 4 W g 0 d := S.holds R.hblk R.hH hP.1
  refine .inr ⟨g, rfl, hB, S.lt R.hblk, fun i hi => ?_, fun j hj => ?_⟩
  · rw [sortS_len] at hi
    have := (spot_of HH (show i < d.size by omega)).1
    have e : (sortS xs)[i]'(by rw [sortS_len]; exact hi) = xs.getD d[i]! default := by
      unfold sortS
      rw [List.getElem_map]
      congr 1
      have : (ordX xs xs.length)[i]? = some d[i]! := by
        rw [← hd, getElem!_pos d i (by omega), List.getElem?_eq_getElem (by simp; omega)]
        simp
      exact (List.getElem?_eq_some_iff.1 this).2
    rw [e]
    exact this
  · rw [sortS_len] at hj
    have e : j = j / 4 * 4 + j % 4 := by omega
    have := (HH.cell (show j / 4 < d.size by omega) (show j % 4 < 4 by omega)).2
    rw [e]
    rw [Nat.zero_add] at this
    exact this

theorem sort_stable (xs : List Smp) (B g cap : Nat) (hm : xs.length ≤ 1000) (w : World) (h : OwnS w B (.slice (some ⟨g, 0, none⟩) xs.length cap) xs) (hB : B ≤ w.heap.size) :
    Calls Try.prog 36 #[.slice (some ⟨g, 0, none⟩) xs.length cap, FX] w fun e w' => e = .returned (.tuple #[]) ∧ Rows w' B (some ⟨g, 0, none⟩) (sortS xs) ∧ Below B w w' := by
  have R := row_of h hm
  have hc := Lib.hid (stable xs w g 0 cap xs.length hm R)
  have hg := h.new.1
  have HR := Lib.hid R
  clear R h
  go_enter Try.func36, Try.ntmps36
  go_wp2_with (go_at_call 45; refine hc.out.mono ?_; rintro e1 w1 ⟨rfl, d1, hP1, hT1, hS1⟩)
  go_end0
  exact ⟨rfl, sorted_rows HR.out hg hP1 hT1 hS1, swk_below hS1 hg hB⟩

/-- impl.SortSamples. -/
theorem impl_sort (xs : List Smp) (b off : Nat) (cap : Nat) (w : World) (h : Smps w (some ⟨b, off, none⟩) xs) (hm : xs.length ≤ 1048576) :
    Calls Try.prog 17 #[.slice (some ⟨b, off, none⟩) xs.length cap] w fun e w' => (300 < xs.length ∧ e = .returned (.slice none 0 0) ∨ xs.length ≤ 300 ∧ ∃ g cap', e = .returned (.slice (some ⟨g, 0, none⟩) xs.length cap') ∧ Rows w' w.heap.size (some ⟨g, 0, none⟩) (sortS xs)) ∧ Below w.heap.size w w' := by
  by_cases hbig : 300 < xs.length
  · go_enter Try.func17, Try.ntmps17
    go_wp2
    go_ret
    exact ⟨.inl ⟨hbig, rfl⟩, Below.refl _ _⟩
  · have H := Lib.hid h
    have hm2 : xs.length ≤ 300 := by omega
    clear h hbig
    go_enter Try.func17, Try.ntmps17
    go_wp2_with (go_at_call 35; refine (clone xs _ _ _ _ H.out hm).mono ?_; rintro e1 w1 ⟨g, cap', rfl, ho, hb1⟩; have HO := Lib.hid ho; have HB := Lib.hid hb1; clear ho hb1)
    go_wp2_with (go_at_call 36; refine (sort_stable xs w.heap.size _ _ (by omega) _ HO.out HB.out.size).mono ?_; rintro e2 w2 ⟨rfl, hr2, hb2⟩; have HR := Lib.hid hr2; have HB2 := Lib.hid (HB.out.trans hb2); clear hr2 hb2)
    go_ret
    exact ⟨.inr ⟨hm2, g, cap', rfl, HR.out⟩, HB2.out⟩

/-! ### The model's SortSamples. -/
theorem info_smp2 : ∃ i, Try.prog.info? 27 = some i ∧ i.zero = some (smpV zeroS) ∧ i.size = 4 ∧ i.bytes = 48 := by
  obtain ⟨i, hi, hz⟩ := Option.map_eq_some_iff.1 info_smp
  simp only [Prod.mk.injEq] at hz
  exact ⟨i, hi, hz.1, hz.2.1, hz.2.2⟩
theorem OwnS.snoc {w : World} {B : Nat} {v : Value} {xs : List Smp} {s : Smp} (h : w.ownsRow B 27 4 v (xs.length + 1) (flat xs ++ [.string s.pod, .string s.met, .int .i64 s.val, .int .i64 s.tick])) : OwnS w B v (xs ++ [s]) := by
  unfold OwnS
  rw [List.length_append, flat_append]
  exact h
theorem four_one (s : Smp) : ∀ u ∈ [Value.string s.pod, .string s.met, .int .i64 s.val, .int .i64 s.tick], u.oneCell' = true := by
  intro u hu
  simp at hu
  rcases hu with rfl | rfl | rfl | rfl <;> rfl
theorem four_cells (w : World) (s : Smp) (t : TypeId) : ∀ (j : Nat) (u : Value), [Value.string s.pod, .string s.met, .int .i64 s.val, .int .i64 s.tick][j]? = some u → (w.alloc (.cells #[.string s.pod, .string s.met, .int .i64 s.val, .int .i64 s.tick] t)).cell? ((⟨w.heap.size, 0, none⟩ : Addr).add j) = some u := by
  intro j u hj
  match j, hj with
  | 0, hj => simp at hj; subst hj; simp [Addr.add]
  | 1, hj => simp at hj; subst hj; simp [Addr.add]
  | 2, hj => simp at hj; subst hj; simp [Addr.add]
  | 3, hj => simp at hj; subst hj; simp [Addr.add]
theorem new_row (w : World) : OwnS (w.alloc (.cells #[] 27)) w.heap.size (.slice (some ⟨w.heap.size, 0, none⟩) 0 0) [] := World.ownsRow_lit (e := 27) (size := 4) (base := w.heap.size) w #[] 0 (Nat.le_refl _) (by unfold maxLen; omega) rfl
theorem specS_wf {xs : List Smp} (h : ∀ s ∈ xs, s.wf) : ∀ k, k ≤ xs.length → ∀ s ∈ specS xs k, s.wf
  | 0, _ => fun s hs => by simp [specS] at hs
  | k + 1, hk => fun s hs => by
    unfold specS at hs
    rcases List.mem_cons.1 ((ins_perm _ _ _).mem_iff.1 hs) with rfl | hs
    · have : xs.getD k default = xs[k] := by simp [List.getD_eq_getElem?_getD, show k < xs.length by omega]
      rw [this]
      exact h _ (List.getElem_mem _)
    · exact specS_wf h k (by omega) s hs

end Go.Proofs.Ytahhemgmlmhbjaa.SortI
