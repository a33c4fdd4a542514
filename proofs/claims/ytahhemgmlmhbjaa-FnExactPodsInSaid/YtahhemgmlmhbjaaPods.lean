/- PodsIn: the program's (the pods sorted, repeats dropped) and the model's (the samples sorted, repeats of pods dropped): both hold podsV. -/
import Derived.Test.YtahhemgmlmhbjaaSortL
import Derived.Test.YtahhemgmlmhbjaaShelf
namespace Go.Proofs.Ytahhemgmlmhbjaa.Pods
open Go.RowKit Go.Sort
open Go.Proofs.Ytahhemgmlmhbjaa.C1
open Go.Proofs.Ytahhemgmlmhbjaa.C2
open Go.Proofs.Ytahhemgmlmhbjaa.Smps
open Go.Proofs.Ytahhemgmlmhbjaa.StM
open Go.Proofs.Ytahhemgmlmhbjaa.SortM
open Go.Proofs.Ytahhemgmlmhbjaa.SortP
open Go.Proofs.Ytahhemgmlmhbjaa.SortD
open Go.Proofs.Ytahhemgmlmhbjaa.SortI
open Go.Proofs.Ytahhemgmlmhbjaa.SortL
open Go.Proofs.Ytahhemgmlmhbjaa.Mark
set_option linter.unusedVariables false

/-! ### Plain mathematics. -/
def podL (s : Smp) : List UInt8 := s.pod.data.toList
theorem sortS_perm (xs : List Smp) : (sortS xs).Perm xs := by
  rw [← specS_sort, specS_eq]
  have h := (specI_perm xs xs.length).map fun i => xs.getD i default
  refine h.trans (List.Perm.of_eq ?_)
  apply List.ext_getElem
  · simp
  · intro i h1 h2
    simp [List.getD_eq_getElem?_getD, h2]
theorem sortS_pods (xs : List Smp) : (sortS xs).map podL = (xs.map podL).mergeSort fun x y => decide (x ≤ y) := by
  have hp : ((sortS xs).map podL).Perm (xs.map podL) := (sortS_perm xs).map podL
  have hasc : ((sortS xs).map podL).Pairwise fun a b => ltStr b a = false := by
    rw [← specS_sort, specS_eq, List.map_map, List.pairwise_map]
    refine List.Pairwise.imp ?_ (specI_asc xs xs.length)
    intro i j h
    rw [← Bool.not_eq_true, TX_iff] at h
    simp only [ltStr, decide_eq_false_iff_not, Function.comp]
    intro hl
    exact h (.inl (.inl hl))
  have hP : PermIn 0 (xs.map podL).toArray.size (xs.map podL).toArray ((sortS xs).map podL).toArray := by
    refine ⟨by simp [sortS_len], fun i hi => ?_, ?_⟩
    · rw [getElem!_neg _ i (by simp [sortS_len] at hi ⊢; omega), getElem!_neg _ i (by simp at hi ⊢; omega)]
    · have e1 : (((sortS xs).map podL).toArray.extract 0 (xs.map podL).toArray.size).toList = (sortS xs).map podL := by simp [← sortS_len xs]; rw [List.take_of_length_le (by simp)]
      have e2 : ((xs.map podL).toArray.extract 0 (xs.map podL).toArray.size).toList = xs.map podL := by simp; rw [List.take_of_length_le (by simp)]
      rw [e1, e2]; exact hp
  have hS : SortedIn ltStr 0 (xs.map podL).toArray.size ((sortS xs).map podL).toArray := by
    intro i j _ hij hj
    have hj' : j < ((sortS xs).map podL).length := by simpa [sortS_len] using hj
    have := List.pairwise_iff_getElem.1 hasc i j (by omega) hj' hij
    rw [getElem!_pos _ i (by simp [sortS_len] at hj ⊢; omega), getElem!_pos _ j (by simp [sortS_len] at hj ⊢; omega)]
    simpa using this
  have := sorted_unique_holds swo_ltStr (fun x y h1 h2 => by simp only [ltStr, decide_eq_false_iff_not, List.not_lt] at h1 h2; exact List.le_antisymm h2 h1) (xs.map podL).toArray _ hP hS
  rw [List.toList_toArray] at this
  rw [this]
  congr 1
  funext x y
  show (!decide (y < x)) = decide (x ≤ y)
  by_cases h : x ≤ y
  · have h' : ¬ y < x := List.not_lt.2 h
    simp [h, h']
  · have h' : y < x := List.not_le.1 h
    simp [h, h']
/-- The pods, ascending. -/
def podsV (xs : List Smp) : List (List UInt8) := Lib.compact ((sortS xs).map podL)
theorem podsV_impl (xs : List Smp) : podsV xs = Lib.compact ((xs.map podL).mergeSort fun x y => decide (x ≤ y)) := by unfold podsV; rw [sortS_pods]
def encT (l : List UInt8) : Value := .string ⟨l.toArray⟩
theorem encT_pod (s : Smp) : encT (podL s) = .string s.pod := rfl

/-! ### Rows of texts. -/
/-- The slice at a holds the values vs. -/
def Vals (w : World) (a : Option Addr) (vs : List Value) : Prop := vs = [] ∨ ∃ b off, a = some ⟨b, off, none⟩ ∧ b < w.heap.size ∧ ∀ (i : Nat) (h : i < vs.length), w.cell? ⟨b, off + i, none⟩ = some vs[i]
theorem Vals.kept {w w' : World} {a : Option Addr} {vs : List Value} (h : Vals w a vs) (hb : Below w.heap.size w w') : Vals w' a vs := by
  rcases h with h | ⟨b, off, h1, h2, h3⟩
  · exact .inl h
  · exact .inr ⟨b, off, h1, Nat.lt_of_lt_of_le h2 hb.size, fun i hi => (hb.cell (p := ⟨b, off + i, none⟩) h2).trans (h3 i hi)⟩
theorem Vals.cells {w : World} {a : Option Addr} {vs : List Value} (h : Vals w a vs) : ∃ b off, (0 < vs.length → a = some ⟨b, off, none⟩) ∧ (0 < vs.length → b < w.heap.size) ∧ ∀ (i : Nat) (h : i < vs.length), w.cell? ⟨b, off + i, none⟩ = some vs[i] := by
  rcases h with h | ⟨b, off, h1, h2, h3⟩
  · subst h
    exact ⟨0, 0, by simp, by simp, fun i h => absurd h (by simp)⟩
  · exact ⟨b, off, fun _ => h1, fun _ => h2, h3⟩
def OwnT (w : World) (B : Nat) (v : Value) (ls : List (List UInt8)) : Prop := w.ownsRow B 9 1 v ls.length (ls.map encT)
theorem OwnT.snoc {w : World} {B : Nat} {v : Value} {ls : List (List UInt8)} {l : List UInt8} (h : w.ownsRow B 9 1 v (ls.length + 1) (ls.map encT ++ [encT l])) : OwnT w B v (ls ++ [l]) := by
  unfold OwnT
  rw [List.length_append, List.map_append]
  exact h
theorem OwnT.kept {w w' : World} {B : Nat} {v : Value} {ls : List (List UInt8)} (h : OwnT w B v ls) (hb : Below w.heap.size w w') : OwnT w' B v ls := by
  obtain ⟨h1, h2⟩ := h
  refine ⟨h1, ?_⟩
  rcases h2 with h2 | ⟨g, cap, cur, hv, hg, hh, r⟩
  · exact .inl h2
  · exact .inr ⟨g, cap, cur, hv, hg, by rw [hb.block g (Array.getElem?_eq_some_iff.1 hh).1]; exact hh, r⟩
theorem info_str : ∃ i, Try.prog.info? 9 = some i ∧ i.zero = some (.string ⟨#[]⟩) ∧ i.size = 1 ∧ i.bytes = 16 := by
  have h : (Try.prog.info? 9).map (fun i => (i.zero, i.size, i.bytes)) = some (some (.string ⟨#[]⟩), 1, 16) := by kernel_rfl
  obtain ⟨i, hi, hz⟩ := Option.map_eq_some_iff.1 h
  simp only [Prod.mk.injEq] at hz
  exact ⟨i, hi, hz.1, hz.2.1, hz.2.2⟩
/-- What a slice of texts of the call's own is: nil; or a row, its cells, all of them to be written. -/
theorem OwnT.forms {w : World} {B : Nat} {v : Value} {ls : List (List UInt8)} (h : OwnT w B v ls) : (v = .slice none 0 0 ∧ ls = []) ∨ ∃ g cap, v = .slice (some ⟨g, 0, none⟩) ls.length cap ∧ B ≤ g ∧ ls.length ≤ cap ∧ CellsW w g (ls.map encT) := by
  have h' : w.ownsRow B 9 1 v ls.length (ls.map encT) := h
  rcases h.2 with ⟨hv, hz⟩ | ⟨g, cap, cur, hv, hg, hh, hc, _⟩
  · exact .inl ⟨hv, List.length_eq_zero_iff.1 hz⟩
  · subst hv
    refine .inr ⟨g, cap, rfl, hg, hc, (Array.getElem?_eq_some_iff.1 hh).1, fun j hj => ⟨?_, World.ownsRow.frozenAt h' j⟩⟩
    rw [World.ownsRow.cellAt h' j (by simpa using hj)]
    exact List.getElem?_eq_getElem hj

/-! ### The program's. -/
theorem cells_holds {w : World} {g : Nat} {ls : List (List UInt8)} (h : CellsW w g (ls.map encT)) : Holds encStr w g 0 ls.toArray := by
  intro j hj
  have hj' : j < ls.length := by simpa using hj
  have := h.2 j (by simpa using hj')
  rw [Nat.zero_add]
  refine ⟨?_, this.2⟩
  rw [this.1, getElem!_pos ls.toArray j hj]
  simp [encT]
theorem holds_cells {w : World} {g : Nat} {ls : List (List UInt8)} {d : Array (List UInt8)} (hg : g < w.heap.size) (h : Holds encStr w g 0 d) (hl : ls.length ≤ d.size) (hd : ∀ j (hj : j < ls.length), d[j]! = ls[j]) : CellsW w g (ls.map encT) := by
  refine ⟨hg, fun j hj => ?_⟩
  have hj' : j < ls.length := by simpa using hj
  have := h j (by omega)
  rw [Nat.zero_add, hd j hj'] at this
  refine ⟨?_, this.2⟩
  rw [this.1]
  simp [encT]
theorem putRow_below {α : Type} [Inhabited α] {enc : α → Value} {w : World} {blk off B n : Nat} {d : Array α} (h1 : B ≤ blk) : Below B w (putRow enc (Sort.ahead w n) blk off d) := by
  refine ⟨rfl, rfl, rfl, ?_, fun k hk => ?_⟩
  · show w.heap.size ≤ ((w.heap).modify blk _).size
    simp
  · show ((w.heap).modify blk _)[k]? = w.heap[k]?
    rw [Array.getElem?_modify, if_neg (by omega)]

set_option maxHeartbeats 1600000 in
theorem impl_pods (xs : List Smp) (a : Option Addr) (cap : Nat) (w : World) (h : Smps w a xs) (hm : xs.length ≤ 1048576) :
    Calls Try.prog 22 #[.slice a xs.length cap] w fun e w' => (300 < xs.length ∧ e = .returned (.slice none 0 0) ∨ xs.length ≤ 300 ∧ (xs = [] ∧ e = .returned (.slice none 0 0) ∨ ∃ g cap', e = .returned (.slice (some ⟨g, 0, none⟩) (podsV xs).length cap') ∧ w.heap.size ≤ g ∧ CellsW w' g ((podsV xs).map encT))) ∧ Below w.heap.size w w' := by
  by_cases hbig : 300 < xs.length
  · go_enter Try.func22, Try.ntmps22
    go_wp2
    go_ret
    exact ⟨.inl ⟨hbig, rfl⟩, Below.refl _ _⟩
  · have hm2 : xs.length ≤ 300 := by omega
    obtain ⟨b, off, ha, hb, hcell⟩ := h.cells
    obtain ⟨i0, hi0, hz0, hz1, hz2⟩ := info_str
    have Hc := Lib.hid hcell
    have Ha := Lib.hid ha
    have Hb := Lib.hid hb
    clear hcell ha hb h hbig
    have hstart : Hid (OwnT w w.heap.size (.slice none 0 0) []) := ⟨rfl, .inl ⟨rfl, rfl⟩⟩
    go_enter Try.func22, Try.ntmps22
    go_wp2
    go_loopw [3, 11] (fun v i wr => ∃ k : Nat, k ≤ xs.length ∧ i = .int .i64 k ∧ Hid (OwnT wr w.heap.size v ((xs.take k).map podL) ∧ Below w.heap.size w wr)) (fun _ i _ => xs.length - (intOf i).toNat)
    case atStart => exact ⟨0, Nat.zero_le _, rfl, hstart.out, Below.refl _ _⟩
    case round =>
      obtain ⟨k, hk, rfl, H⟩ := hrel
      by_cases hlt : k < xs.length
      · obtain rfl := Ha.out (by omega)
        obtain ⟨q0, q1, q2, q3⟩ := (Hc.out k hlt).kept H.out.2 (Hb.out (by omega))
        have HBX : Hid (Below w.heap.size w (wr.alloc (.cells #[.string xs[k].pod, .string xs[k].met, .int .i64 xs[k].val, .int .i64 xs[k].tick] 27))) := H.out.2.alloc H.out.2.size _
        have HOX : Hid (OwnT (wr.alloc (.cells #[.string xs[k].pod, .string xs[k].met, .int .i64 xs[k].val, .int .i64 xs[k].tick] 27)) w.heap.size u3 ((xs.take k).map podL)) := H.out.1.kept (box_below _ _ _)
        have HN : Hid ((xs.take (k + 1)).map podL = (xs.take k).map podL ++ [podL xs[k]]) := by show _ = _; rw [List.take_succ_eq_append_getElem hlt, List.map_append]; rfl
        have hyl : ((xs.take k).map podL).length ≤ 300 := by simp; omega
        obtain ⟨ys, hys⟩ : ∃ ys, (xs.take k).map podL = ys := ⟨_, rfl⟩
        rw [hys] at HOX HN hyl
        clear hys H
        go_wp2_with (at_builtin; refine wpList_append_own _ rfl _ _ 38 rfl w.heap.size 9 i0 (.string ⟨#[]⟩) 1 16 Try.underlying38 hi0 hz0 hz1 hz2 rfl (by decide) _ _ _ rfl (World.ownsRow.alloc HOX.out _) ⟨wr.heap.size + 1, 0, none⟩ 1 1 [.string xs[k].pod] rfl rfl ?e1 ?e2 ?e3 ?e4 ?e5 ?_)
        case e2 => first | rfl | (intro u hu; simp at hu; subst hu; rfl)
        case e3 => unfold maxLen; omega
        case e4 => omega
        case e5 => have := HBX.out.size; first | omega | (simp at this; omega)
        intro v' w8 hown' hgrow _
        have HO8 := Lib.hid (OwnT.snoc (l := podL xs[k]) hown')
        have hrow : ∀ g, Value.ownBlock _ = some g → w.heap.size ≤ g := fun g hg => (World.ownsRow.lt HOX.out g hg).1
        have HB8 := Lib.hid ((HBX.out.alloc HBX.out.size _).grown hgrow (by have := HBX.out.size; simp at this ⊢; omega) hrow)
        clear hown' hgrow hrow
        go_wp2
        go_roundw
        case rel => exact ⟨k + 1, by omega, by go_num, by show OwnT _ _ _ _; rw [HN.out]; exact HO8.out, HB8.out⟩
        case measure => simp [intOf]; omega
      · obtain rfl : k = xs.length := by omega
        have hO := H.out.1
        rw [List.take_length] at hO
        have HB := Lib.hid H.out.2
        clear H
        rcases hO.forms with ⟨rfl, hnil⟩ | ⟨g, cap', rfl, hg, hcap, hcw⟩
        · have hx : xs = [] := List.map_eq_nil_iff.1 hnil
          clear hnil hO
          go_wp2_with (first | (go_at_call 40; refine (Try.slices_Sort_string_none _ _ _).mono ?_; rintro e1 w1 ⟨rfl, rfl⟩) | (go_at_call 41; refine (Try.slices_Compact_string_empty _ _ _).mono ?_; rintro e2 w2 ⟨rfl, rfl⟩))
          go_ret
          exact ⟨.inr ⟨hm2, .inl ⟨hx, rfl⟩⟩, HB.out⟩
        · obtain ⟨ss, hss⟩ : ∃ ss, xs.map podL = ss := ⟨_, rfl⟩
          have hsl : ss.length = xs.length := by rw [← hss]; simp
          rw [hss] at hcap hcw ⊢
          obtain ⟨zs, hzs⟩ : ∃ zs, (ss.mergeSort fun x y => decide (x ≤ y)) = zs := ⟨_, rfl⟩
          have hzl : zs.length = ss.length := by rw [← hzs, List.length_mergeSort]
          have hpv : podsV xs = Lib.compact zs := by rw [podsV_impl, hss, hzs]
          have hsort := Try.slices_Sort_string g 0 cap' ss wr (cells_holds hcw) hcw.1 (by omega)
          rw [hzs] at hsort
          have hcompact := fun w h => Try.slices_Compact_string g 0 cap' zs w h (by omega) (by omega)
          rw [hzl] at hcompact
          have HCO := Lib.hid hcompact
          have HSO := Lib.hid hsort
          have HCW := Lib.hid hcw
          have HPV := Lib.hid hpv
          have HZL := Lib.hid hzl
          have HG := Lib.hid hg
          clear hsort hcompact hcw hpv hzl hzs hss hsl hO
          go_wp2_with (go_at_call 40; refine HSO.out.mono ?_; rintro e1 w1 ⟨rfl, n, os, hw1⟩; have HW1 := Lib.hid hw1; clear hw1)
          have hw1 := HW1.out
          have hH1 : Holds encStr w1 g 0 zs.toArray := by
            rw [hw1]
            refine holds_grow encStr _ os g 0 _ ?_ (holds_putRow encStr _ g 0 ss.toArray zs.toArray (cells_holds HCW.out) (by simp [HZL.out]))
            rw [show (putRow encStr (Sort.ahead wr n) g 0 zs.toArray).heap.size = wr.heap.size by simp [putRow, mapBlock]]
            exact HCW.out.1
          have hb1 : Below w.heap.size w w1 := by
            rw [hw1]
            have hx := HB.out.trans (putRow_below (enc := encStr) (w := wr) (n := n) (off := 0) (d := zs.toArray) HG.out)
            exact below_grow hx hx.size 0 os
          have hg1 : g < w1.heap.size := by
            rw [hw1, size_grow, show (putRow encStr (Sort.ahead wr n) g 0 zs.toArray).heap.size = wr.heap.size by simp [putRow, mapBlock]]
            exact Nat.lt_of_lt_of_le HCW.out.1 (Nat.le_add_right _ _)
          have H1 := Lib.hid hH1
          have B1 := Lib.hid hb1
          have G1 := Lib.hid hg1
          clear hH1 hb1 hg1 hw1 HW1
          go_wp2_with (go_at_call 41; refine (HCO.out _ H1.out).mono ?_; rintro e2 w2 ⟨rfl, q, hw2⟩; have HW2 := Lib.hid hw2; clear hw2)
          have hw2 := HW2.out
          clear HW2
          go_ret
          have hlen : (Lib.compact zs ++ List.replicate (zs.length - (Lib.compact zs).length) []).length = zs.length := by
            have : (Lib.compact zs).length ≤ zs.length := by
              unfold Lib.compact Lib.compactUpTo
              rw [List.length_map]
              refine Nat.le_trans (List.length_filter_le _ _) (by simp)
            simp; omega
          rw [HZL.out] at hlen
          have hH2 : Holds encStr w2 g 0 (Lib.compact zs ++ List.replicate (ss.length - (Lib.compact zs).length) []).toArray := by
            rw [hw2]
            exact holds_putRow encStr _ g 0 zs.toArray _ H1.out (by simp only [List.size_toArray]; rw [hlen, HZL.out])
          refine ⟨.inr ⟨hm2, .inr ⟨g, cap', by rw [HPV.out]; rfl, HG.out, ?_⟩⟩, ?_⟩
          · rw [HPV.out]
            refine holds_cells ?_ hH2 (by simp) fun j hj => ?_
            · rw [hw2]
              exact Nat.lt_of_lt_of_le G1.out (putRow_below (B := w.heap.size) HG.out).size
            · rw [getElem!_pos _ j (by simp; omega)]
              simp [hj]
          · rw [hw2]
            exact B1.out.trans (putRow_below HG.out)
end Go.Proofs.Ytahhemgmlmhbjaa.Pods
