/- The draws of a value in thousandths and of a list of numbers. -/
import Derived.Test.YtnojeoeccohhlaaDoorDraw
namespace Go.Proofs.YtnojeoeccohhlaaDoor.Draw2
open Go.RowKit Go.Deep
open Go.Proofs.YtnojeoeccohhlaaDoor.C1 Go.Proofs.YtnojeoeccohhlaaDoor.Ints Go.Proofs.YtnojeoeccohhlaaDoor.Draw
set_option linter.unusedVariables false

set_option maxRecDepth 100000 in
theorem draw_milli (a : Option Addr) (n cap : Nat) (w : World) (hb : BytesAt w a n) (hn : n ≤ 2097152) :
    Calls Tryd.prog 7 #[.slice a n cap] w fun e w' => ∃ (x : Int), -1000000001 ≤ x ∧ x ≤ 1000000001 ∧ e = .returned (.int .i64 x) ∧ Below w.heap.size w w' := by
  have Hb := Lib.hid hb
  clear hb
  go_enter Tryd.func7, Tryd.ntmps7
  go_wp2_with (go_at_call 19; refine (new_cur a n cap _ Hb.out hn).mono ?_; rintro e w0 ⟨c, rfl, hc, hC0, hB0⟩)
  have HC0 := Lib.hid hC0
  have HB0 := Lib.hid hB0
  have HT0 := Lib.hid (Touched.refl c w0)
  clear hC0 hB0
  go_wp2_with (go_at_call 21; refine (draw_value c _ HC0.out).mono ?_; rintro e w1 ⟨x, x1, x2, rfl, hC1, hT1⟩)
  have HC1 := Lib.hid hC1
  have HT1 := Lib.hid ((HT0.out).trans hT1)
  clear hC1 hT1 HC0 HT0
  go_wp2_with (go_at_call 22; refine (below_n c _ (by omega) (by omega) _ HC1.out).mono ?_; rintro e w2 ⟨y, y1, y2, rfl, hC2, hT2⟩)
  have HC2 := Lib.hid hC2
  have HT2 := Lib.hid ((HT1.out).trans hT2)
  clear hC2 hT2 HC1 HT1
  have hlt3 := HC2.out.lt
  have hbd3 : Hid (∀ v ∈ [x, y - 3000, 100, 120, -5], (-1000000001 : Int) ≤ v ∧ v ≤ 1000000001) := by
    intro v hv
    simp at hv
    omega
  go_wp2_with (go_at_call 20; refine (pick_int c [x, y - 3000, 100, 120, -5] 5 rfl w2.heap.size 5 _ (HC2.out.alloc _) (alloc_size _ _) (by omega) (by omega) (by omega) (-1000000001) 1000000001 hbd3.out (fun i h => alloc_ints w2 _ 3 i h)).mono ?_; rintro e w3 ⟨z, z1, z2, rfl, hC3, hT3⟩)
  have HC3 := Lib.hid hC3
  have HT3 := Lib.hid ((HT2.out.alloc _).trans hT3)
  clear hC3 hT3 HC2 HT2
  go_ret
  exact ⟨z, z1, z2, rfl, HB0.out.trans (HT3.out.below hc HB0.out.size)⟩

theorem size_12 (a : Option Addr) (n cap : Nat) (w : World) (hn : n ≤ 2097152) :
    Calls Tryd.prog 63 #[.slice a n cap, .int .i64 12] w fun e w' => ∃ k : Int, 2 ≤ k ∧ k ≤ 12 ∧ e = .returned (.int .i64 k) ∧ w = w' := by
  by_cases h : 12 < 2 + (n : Int) / 16
  all_goals
    go_enter Tryd.func63, Tryd.ntmps63
    go_wp2
    go_ret
    exact ⟨_, by omega, by omega, rfl, rfl⟩

/-- A row of the call's own whose cells are numbers. -/
def OwnInts (w : World) (B : Nat) (v : Value) (xs : List Int) : Prop := w.ownsRow B 3 1 v xs.length (xs.map (Value.int .i64))
theorem OwnInts.ints {w : World} {B : Nat} {v : Value} {xs : List Int} (h : OwnInts w B v xs) : ∃ a cap, v = .slice a xs.length cap ∧ Ints w a xs := by
  have h' : w.ownsRow B 3 1 v xs.length (xs.map (Value.int .i64)) := h
  rcases h.2 with ⟨hv, h0⟩ | ⟨g, cap, cur, hv, _⟩
  · exact ⟨none, 0, by rw [hv, h0], .inl (List.length_eq_zero_iff.1 h0)⟩
  · rw [hv] at h'
    exact ⟨_, cap, hv, owned_ints h' rfl⟩
theorem OwnInts.snoc {w : World} {B : Nat} {v : Value} {xs : List Int} {x : Int} (h : w.ownsRow B 3 1 v (xs.length + 1) (xs.map (Value.int .i64) ++ [.int .i64 x])) : OwnInts w B v (xs ++ [x]) := by
  unfold OwnInts
  rw [List.length_append, List.map_append]
  exact h

theorem World.ownsRow.kept_touch {B c : Nat} {v : Value} {xs : List Int} {w w' : World} (h : OwnInts w B v xs) (hc : c < B) (hT : Touched c w w') : OwnInts w' B v xs := by
  obtain ⟨h1, h2⟩ := h
  refine ⟨h1, ?_⟩
  rcases h2 with h2 | ⟨g, cap, cur, hv, hg, hh, r⟩
  · exact .inl h2
  · have hlt : g < w.heap.size := by
      rcases Nat.lt_or_ge g w.heap.size with q | q
      · exact q
      · rw [Array.getElem?_eq_none q] at hh; cases hh
    exact .inr ⟨g, cap, cur, hv, hg, by rw [hT.block g hlt (by omega)]; exact hh, r⟩

/-- What the draw of a list hands back. -/
def Listed (c : Nat) (w : World) (e : Ending) (w' : World) : Prop := ∃ (a' : Option Addr) (xs : List Int) (cap' : Nat), e = .returned (.slice a' xs.length cap') ∧ xs.length ≤ 301 ∧ Ints w' a' xs ∧ Touched c w w'
/-- The one new cell that an append of one number reads. -/
theorem new_one (w : World) (x : Int) (t : TypeId) : ∀ (j : Nat) (u : Value), [Value.int .i64 x][j]? = some u → (w.alloc (.cells #[.int .i64 x] t)).cell? ((⟨w.heap.size, 0, none⟩ : Addr).add j) = some u := by
  intro j u hj
  match j, hj with
  | 0, hj => simp at hj; subst hj; simp [Addr.add]

set_option maxHeartbeats 4000000 in
set_option maxRecDepth 100000 in
theorem draw_list (c : Nat) (a : Option Addr) (n cap : Nat) (w : World) (hC : Cur w c) (hn : n ≤ 2097152) :
    Calls Tryd.prog 48 #[.pointer (some ⟨c, 0, none⟩), .slice a n cap] w (Listed c w) := by
  obtain ⟨i0, hi, hz0, hz1, hz2⟩ := info_parts info3
  have hcl := hC.lt
  have hstart : Hid (OwnInts (w.alloc (.cells #[] 3)) w.heap.size (.slice (some ⟨w.heap.size, 0, none⟩) 0 0) []) := World.ownsRow_lit (e := 3) (size := 1) (base := w.heap.size) w #[] 0 (Nat.le_refl _) (by unfold maxLen; omega) rfl
  have HC := Lib.hid (hC.alloc (.cells #[] 3))
  have HT := Lib.hid ((Touched.refl c w).alloc (.cells #[] 3))
  clear hC
  go_enter Tryd.func48, Tryd.ntmps48
  go_wp2_with (go_at_call 63; refine (size_12 _ _ _ _ hn).mono ?_; rintro e w' ⟨k, k1, k2, rfl, rfl⟩)
  go_wp2_with (go_at_call 22; refine (below_n c _ (by omega) (by omega) _ HC.out).mono ?_; rintro e w1 ⟨m, m1, m2, rfl, hC1, hT1⟩)
  have hTo : Hid (∀ v, v = w.heap.size → OwnInts w1 v (.slice (some ⟨w.heap.size, 0, none⟩) 0 0) []) := by
    intro v hv
    subst hv
    have hk := (World.ownsRow.kept_touch hstart.out hcl hT1)
    exact hk
  have HC1 := Lib.hid hC1
  have HT1 := Lib.hid (HT.out.trans hT1)
  clear hC1 hT1 HC HT hstart
  go_wp2_with (go_at_call 39; refine (once c _ (by omega) (by omega) _ HC1.out).mono ?_; rintro e w2 ⟨o, rfl, hC2, hT2⟩; cases o)
  all_goals
    have HO2 := Lib.hid (World.ownsRow.kept_touch (hTo.out _ rfl) hcl hT2)
    have HC2 := Lib.hid hC2
    have HT2 := Lib.hid (HT1.out.trans hT2)
    clear hC2 hT2 HC1 HT1 hTo
  · have hM : m ≤ 301 := by omega
    go_loopw [5, 7] (fun v i wr => ∃ (q : Nat) (xs : List Int), (q : Int) ≤ m ∧ i = .int .i64 q ∧ xs.length = q ∧ OwnInts wr w.heap.size v xs ∧ Cur wr c ∧ Touched c w wr) (fun _ i _ => (m - intOf i).toNat)
    case atStart => exact ⟨0, [], by omega, rfl, rfl, HO2.out, HC2.out, HT2.out⟩
    case round =>
      obtain ⟨q, xs, hq, rfl, hxl, hO, hC, hT⟩ := hrel
      have HX := Lib.hid hxl
      have HO := Lib.hid hO
      have HC := Lib.hid hC
      have HT := Lib.hid hT
      clear hxl hO hC hT HO2 HC2 HT2
      by_cases hlt : (q : Int) < m
      · go_wp2_with (go_at_call 22; refine (below_n c _ (by omega) (by omega) _ HC.out).mono ?_; rintro e w5 ⟨y, y1, y2, rfl, hC5, hT5⟩)
        have HO5 := Lib.hid (World.ownsRow.kept_touch HO.out hcl hT5)
        have HC5 := Lib.hid hC5
        have HT5 := Lib.hid (HT.out.trans hT5)
        clear hC5 hT5 HO HC HT
        go_wp2_with (first | (go_at_call 39; refine (once c _ (by omega) (by omega) _ HC5.out).mono ?_; rintro e w6 ⟨o, rfl, hC6, hT6⟩; cases o) | (at_builtin; refine wpList_append_own _ rfl _ _ 28 rfl w.heap.size 3 i0 (.int .i64 0) 1 8 Tryd.underlying28 hi hz0 hz1 hz2 rfl (by decide) _ _ _ rfl (World.ownsRow.alloc (World.ownsRow.kept_touch HO5.out hcl hT6) _) ⟨w6.heap.size, 0, none⟩ 1 1 [.int .i64 (y - 1000)] rfl rfl ?c1 ?c2 ?c3 ?c4 ?c5 ?_))
        case c1 => exact new_one _ _ _
        case c2 => first | rfl | (intro u hu; simp at hu; subst hu; rfl)
        case c3 => have := HX.out; unfold maxLen; omega
        case c4 => have := HX.out; omega
        case c5 => have := (HT5.out.trans hT6).size; first | omega | (simp; omega)
        · intro v' w8 hown' hgrow _
          have HO8 := Lib.hid (OwnInts.snoc hown')
          have hrow : ∀ g, Value.ownBlock _ = some g → w.heap.size ≤ g := fun g hg => (World.ownsRow.lt (World.ownsRow.kept_touch HO5.out hcl hT6) g hg).1
          have HC8 := Lib.hid ((Cur.alloc (hC6) _).grown hgrow (fun g hg => by have := hrow g hg; omega))
          have HT8 := Lib.hid ((Touched.alloc (HT5.out.trans hT6) _).grown hgrow hrow)
          clear hown' hgrow hrow
          go_wp2
          go_roundw
          case rel => exact ⟨q + 1, _, by omega, by go_num, by rw [List.length_append, HX.out]; rfl, HO8.out, HC8.out, HT8.out⟩
          case measure => simp [intOf]; omega
        · have HO6 := Lib.hid (World.ownsRow.kept_touch HO5.out hcl hT6)
          have HC6 := Lib.hid hC6
          have HT6 := Lib.hid (HT5.out.trans hT6)
          clear hC6 hT6 HO5 HC5 HT5
          go_wp2_with (first | (go_at_call 21; refine (draw_value c _ HC6.out).mono ?_; rintro e w7 ⟨u, u1, u2, rfl, hC7, hT7⟩) | (at_builtin; refine wpList_append_own _ rfl _ _ 28 rfl w.heap.size 3 i0 (.int .i64 0) 1 8 Tryd.underlying28 hi hz0 hz1 hz2 rfl (by decide) _ _ _ rfl (World.ownsRow.alloc (World.ownsRow.kept_touch HO6.out hcl hT7) _) ⟨w7.heap.size, 0, none⟩ 1 1 [.int .i64 u] rfl rfl ?d1 ?d2 ?d3 ?d4 ?d5 ?_))
          case d1 => exact new_one _ _ _
          case d2 => first | rfl | (intro u hu; simp at hu; subst hu; rfl)
          case d3 => have := HX.out; unfold maxLen; omega
          case d4 => have := HX.out; omega
          case d5 => have := (HT6.out.trans hT7).size; first | omega | (simp; omega)
          intro v' w8 hown' hgrow _
          have HO8 := Lib.hid (OwnInts.snoc hown')
          have hrow : ∀ g, Value.ownBlock _ = some g → w.heap.size ≤ g := fun g hg => (World.ownsRow.lt (World.ownsRow.kept_touch HO6.out hcl hT7) g hg).1
          have HC8 := Lib.hid ((Cur.alloc (hC7) _).grown hgrow (fun g hg => by have := hrow g hg; omega))
          have HT8 := Lib.hid ((Touched.alloc (HT6.out.trans hT7) _).grown hgrow hrow)
          clear hown' hgrow hrow
          go_wp2
          go_roundw
          case rel => exact ⟨q + 1, _, by omega, by go_num, by rw [List.length_append, HX.out]; rfl, HO8.out, HC8.out, HT8.out⟩
          case measure => simp [intOf]; omega
      · obtain ⟨a', cap', hv, hI⟩ := OwnInts.ints HO.out
        have HV := Lib.hid hv
        have HI := Lib.hid hI
        clear hv hI
        go_wp2
        go_ret
        exact ⟨a', xs, cap', congrArg Ending.returned HV.out, by have := HX.out; omega, HI.out, HT.out⟩
  · go_wp2_with (go_at_call 22; refine (below_n c _ (by omega) (by omega) _ HC2.out).mono ?_; rintro e w3 ⟨z, z1, z2, rfl, hC3, hT3⟩)
    have HO3 := Lib.hid (World.ownsRow.kept_touch HO2.out hcl hT3)
    have HC3 := Lib.hid hC3
    have HT3 := Lib.hid (HT2.out.trans hT3)
    clear hC3 hT3 HO2 HC2 HT2
    go_wp2
    go_loopw [5, 7] (fun v i wr => ∃ (q : Nat) (xs : List Int), (q : Int) ≤ (300 + z) ∧ i = .int .i64 q ∧ xs.length = q ∧ OwnInts wr w.heap.size v xs ∧ Cur wr c ∧ Touched c w wr) (fun _ i _ => ((300 + z) - intOf i).toNat)
    case atStart => exact ⟨0, [], by omega, rfl, rfl, HO3.out, HC3.out, HT3.out⟩
    case round =>
      obtain ⟨q, xs, hq, rfl, hxl, hO, hC, hT⟩ := hrel
      have HX := Lib.hid hxl
      have HO := Lib.hid hO
      have HC := Lib.hid hC
      have HT := Lib.hid hT
      clear hxl hO hC hT HO3 HC3 HT3
      by_cases hlt : (q : Int) < (300 + z)
      · go_wp2_with (go_at_call 22; refine (below_n c _ (by omega) (by omega) _ HC.out).mono ?_; rintro e w5 ⟨y, y1, y2, rfl, hC5, hT5⟩)
        have HO5 := Lib.hid (World.ownsRow.kept_touch HO.out hcl hT5)
        have HC5 := Lib.hid hC5
        have HT5 := Lib.hid (HT.out.trans hT5)
        clear hC5 hT5 HO HC HT
        go_wp2_with (first | (go_at_call 39; refine (once c _ (by omega) (by omega) _ HC5.out).mono ?_; rintro e w6 ⟨o, rfl, hC6, hT6⟩; cases o) | (at_builtin; refine wpList_append_own _ rfl _ _ 28 rfl w.heap.size 3 i0 (.int .i64 0) 1 8 Tryd.underlying28 hi hz0 hz1 hz2 rfl (by decide) _ _ _ rfl (World.ownsRow.alloc (World.ownsRow.kept_touch HO5.out hcl hT6) _) ⟨w6.heap.size, 0, none⟩ 1 1 [.int .i64 (y - 1000)] rfl rfl ?c1 ?c2 ?c3 ?c4 ?c5 ?_))
        case c1 => exact new_one _ _ _
        case c2 => first | rfl | (intro u hu; simp at hu; subst hu; rfl)
        case c3 => have := HX.out; unfold maxLen; omega
        case c4 => have := HX.out; omega
        case c5 => have := (HT5.out.trans hT6).size; first | omega | (simp; omega)
        · intro v' w8 hown' hgrow _
          have HO8 := Lib.hid (OwnInts.snoc hown')
          have hrow : ∀ g, Value.ownBlock _ = some g → w.heap.size ≤ g := fun g hg => (World.ownsRow.lt (World.ownsRow.kept_touch HO5.out hcl hT6) g hg).1
          have HC8 := Lib.hid ((Cur.alloc (hC6) _).grown hgrow (fun g hg => by have := hrow g hg; omega))
          have HT8 := Lib.hid ((Touched.alloc (HT5.out.trans hT6) _).grown hgrow hrow)
          clear hown' hgrow hrow
          go_wp2
          go_roundw
          case rel => exact ⟨q + 1, _, by omega, by go_num, by rw [List.length_append, HX.out]; rfl, HO8.out, HC8.out, HT8.out⟩
          case measure => simp [intOf]; omega
        · have HO6 := Lib.hid (World.ownsRow.kept_touch HO5.out hcl hT6)
          have HC6 := Lib.hid hC6
          have HT6 := Lib.hid (HT5.out.trans hT6)
          clear hC6 hT6 HO5 HC5 HT5
          go_wp2_with (first | (go_at_call 21; refine (draw_value c _ HC6.out).mono ?_; rintro e w7 ⟨u, u1, u2, rfl, hC7, hT7⟩) | (at_builtin; refine wpList_append_own _ rfl _ _ 28 rfl w.heap.size 3 i0 (.int .i64 0) 1 8 Tryd.underlying28 hi hz0 hz1 hz2 rfl (by decide) _ _ _ rfl (World.ownsRow.alloc (World.ownsRow.kept_touch HO6.out hcl hT7) _) ⟨w7.heap.size, 0, none⟩ 1 1 [.int .i64 u] rfl rfl ?d1 ?d2 ?d3 ?d4 ?d5 ?_))
          case d1 => exact new_one _ _ _
          case d2 => first | rfl | (intro u hu; simp at hu; subst hu; rfl)
          case d3 => have := HX.out; unfold maxLen; omega
          case d4 => have := HX.out; omega
          case d5 => have := (HT6.out.trans hT7).size; first | omega | (simp; omega)
          intro v' w8 hown' hgrow _
          have HO8 := Lib.hid (OwnInts.snoc hown')
          have hrow : ∀ g, Value.ownBlock _ = some g → w.heap.size ≤ g := fun g hg => (World.ownsRow.lt (World.ownsRow.kept_touch HO6.out hcl hT7) g hg).1
          have HC8 := Lib.hid ((Cur.alloc (hC7) _).grown hgrow (fun g hg => by have := hrow g hg; omega))
          have HT8 := Lib.hid ((Touched.alloc (HT6.out.trans hT7) _).grown hgrow hrow)
          clear hown' hgrow hrow
          go_wp2
          go_roundw
          case rel => exact ⟨q + 1, _, by omega, by go_num, by rw [List.length_append, HX.out]; rfl, HO8.out, HC8.out, HT8.out⟩
          case measure => simp [intOf]; omega
      · obtain ⟨a', cap', hv, hI⟩ := OwnInts.ints HO.out
        have HV := Lib.hid hv
        have HI := Lib.hid hI
        clear hv hI
        go_wp2
        go_ret
        exact ⟨a', xs, cap', congrArg Ending.returned HV.out, by have := HX.out; omega, HI.out, HT.out⟩

theorem draw_add (a : Option Addr) (n cap : Nat) (w : World) (hb : BytesAt w a n) (hn : n ≤ 2097152) :
    Calls Tryd.prog 30 #[.slice a n cap] w fun e w' => ∃ (a' : Option Addr) (xs : List Int) (cap' : Nat), e = .returned (.slice a' xs.length cap') ∧ xs.length ≤ 301 ∧ Ints w' a' xs ∧ Below w.heap.size w w' := by
  have Hb := Lib.hid hb
  clear hb
  go_enter Tryd.func30, Tryd.ntmps30
  go_wp2_with (go_at_call 19; refine (new_cur a n cap _ Hb.out hn).mono ?_; rintro e w0 ⟨c, rfl, hc, hC0, hB0⟩)
  have HC0 := Lib.hid hC0
  have HB0 := Lib.hid hB0
  clear hC0 hB0
  go_wp2_with (go_at_call 48; refine (draw_list c _ _ _ _ HC0.out hn).mono ?_; rintro e w1 ⟨a', xs, cap', rfl, hxl, hI, hT⟩)
  go_ret
  exact ⟨a', xs, cap', rfl, hxl, hI, HB0.out.trans (hT.below hc HB0.out.size)⟩
theorem draw_mean (a : Option Addr) (n cap : Nat) (w : World) (hb : BytesAt w a n) (hn : n ≤ 2097152) :
    Calls Tryd.prog 11 #[.slice a n cap] w fun e w' => ∃ (a' : Option Addr) (xs : List Int) (cap' : Nat), e = .returned (.slice a' xs.length cap') ∧ xs.length ≤ 301 ∧ Ints w' a' xs ∧ Below w.heap.size w w' := by
  go_enter Tryd.func11, Tryd.ntmps11
  go_wp2_with (go_at_call 30; refine (draw_add _ _ _ _ hb hn).mono ?_; rintro e w1 ⟨a', xs, cap', rfl, hxl, hI, hB⟩)
  go_ret
  exact ⟨a', xs, cap', rfl, hxl, hI, hB⟩
end Go.Proofs.YtnojeoeccohhlaaDoor.Draw2
