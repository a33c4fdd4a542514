/- Chapter 5's draw of a row of wants. -/
import Derived.Test.YtimpajhgplkpmaaDraw5W
namespace Go.Proofs.Ytimpajhgplkpmaa.Draw5C
open Go.RowKit Go.Deep
open Go.Proofs.Ytimpajhgplkpmaa.C1 Go.Proofs.Ytimpajhgplkpmaa.Ints Go.Proofs.Ytimpajhgplkpmaa.Draw  Go.Proofs.Ytimpajhgplkpmaa.Draw5
set_option linter.unusedVariables false

/-- A row of the call's own whose cells are numbers. -/
def OwnInts (w : World) (B : Nat) (v : Value) (xs : List Int) : Prop := w.ownsRow B 3 1 v xs.length (xs.map (Value.int .i64))
theorem OwnInts.snoc {w : World} {B : Nat} {v : Value} {xs : List Int} {x : Int} (h : w.ownsRow B 3 1 v (xs.length + 1) (xs.map (Value.int .i64) ++ [.int .i64 x])) : OwnInts w B v (xs ++ [x]) := by
  unfold OwnInts
  rw [List.length_append, List.map_append]
  exact h

theorem World.ownsRow.kept_touch {B c : Nat} {v : Value} {xs : List Int} {w w' : World} (h : OwnInts w B v xs) (hc : c < B) (hT : Touched c w w') : OwnInts w' B v xs := by
  obtain ⟨h1, h2⟩ := h
  refine ⟨h1, ?_⟩
  rcases h2 with h2 | ⟨g, cap, cur, hv, hg, hh, r⟩
  · exact .inl h2
  · have hlt : g < w.heap.size := by
      rcases Nat.lt_or_ge g w.heap.size with q | q
      · exact q
      · rw [Array.getElem?_eq_none q] at hh; cases hh
    exact .inr ⟨g, cap, cur, hv, hg, by rw [hT.block g hlt (by omega)]; exact hh, r⟩

/-- The one new cell that an append of one number reads. -/
theorem new_one (w : World) (x : Int) (t : TypeId) : ∀ (j : Nat) (u : Value), [Value.int .i64 x][j]? = some u → (w.alloc (.cells #[.int .i64 x] t)).cell? ((⟨w.heap.size, 0, none⟩ : Addr).add j) = some u := by
  intro j u hj
  match j, hj with
  | 0, hj => simp at hj; subst hj; simp [Addr.add]

set_option maxHeartbeats 4000000 in
/-- A row of numbers in a block of its own, at B or behind it. -/
def Row (w : World) (B : Nat) (a : Option Addr) (xs : List Int) : Prop :=
  xs = [] ∨ ∃ g, a = some ⟨g, 0, none⟩ ∧ B ≤ g ∧ g < w.heap.size ∧ ∀ i, i < xs.length → w.cell? ⟨g, i, none⟩ = some (.int .i64 (xs.getD i 0)) ∧ w.frozen? ⟨g, i, none⟩ = false
theorem Row.of_own {w : World} {B : Nat} {v : Value} {xs : List Int} {n : Nat} (h : OwnInts w B v xs) (hn : xs.length = n) : ∃ a cap, v = .slice a n cap ∧ Row w B a xs := by
  subst hn
  have h' : w.ownsRow B 3 1 v xs.length (xs.map (Value.int .i64)) := h
  rcases h.2 with ⟨hv, h0⟩ | ⟨g, cap, cur, hv, hg, hh, hn, hc, hs, ht⟩
  · exact ⟨none, 0, by rw [hv, h0], .inl (List.length_eq_zero_iff.1 h0)⟩
  · rw [hv] at h'
    refine ⟨_, cap, hv, ?_⟩
    rcases owned_ints h' rfl with rfl | ⟨b, off, e, hb, hcell⟩
    · exact .inl rfl
    · cases e
      refine .inr ⟨g, rfl, hg, hb, fun i hi => ⟨by have := hcell i hi; simpa using this, ?_⟩⟩
      simp [World.frozen?, hh]
theorem Row.touch {w w' : World} {B c : Nat} {a : Option Addr} {xs : List Int} (h : Row w B a xs) (hc : c < B) (hT : Touched c w w') : Row w' B a xs := by
  rcases h with h | ⟨g, h1, h2, h3, h4⟩
  · exact .inl h
  · have hb := hT.block g h3 (by omega)
    refine .inr ⟨g, h1, h2, Nat.lt_of_lt_of_le h3 hT.size, fun i hi => ⟨(World.cell?_of_block (w := w) hb).trans (h4 i hi).1, ?_⟩⟩
    have hf := (h4 i hi).2
    simp only [World.frozen?, hb] at hf ⊢
    exact hf
theorem Row.ints {w : World} {B : Nat} {a : Option Addr} {xs : List Int} (h : Row w B a xs) : Ints w a xs := by
  rcases h with h | ⟨g, h1, h2, h3, h4⟩
  · exact .inl h
  · exact .inr ⟨g, 0, h1, h3, fun i hi => by have := (h4 i hi).1; simpa using this⟩
theorem Row.first {w : World} {B : Nat} {a : Option Addr} {xs : List Int} (h : Row w B a xs) (h0 : 0 < xs.length) : ∃ g, a = some ⟨g, 0, none⟩ ∧ B ≤ g ∧ w.cell? ⟨g, 0, none⟩ = some (.int .i64 (xs.getD 0 0)) ∧ w.frozen? ⟨g, 0, none⟩ = false := by
  rcases h with rfl | ⟨g, h1, h2, h3, h4⟩
  · simp at h0
  · exact ⟨g, h1, h2, (h4 0 h0).1, (h4 0 h0).2⟩
theorem Row.set {w : World} {B g : Nat} {xs : List Int} (u : Int) (h0 : 0 < xs.length) (h : Row w B (some ⟨g, 0, none⟩) xs) : Row (w.setCell ⟨g, 0, none⟩ (.int .i64 u)) B (some ⟨g, 0, none⟩) (xs.set 0 u) := by
  rcases h with rfl | ⟨g', h1, h2, h3, h4⟩
  · simp at h0
  · cases h1
    refine .inr ⟨g, rfl, h2, by simpa [World.setCell] using h3, fun i hi => ⟨?_, by rw [World.frozen?_setCell]; exact (h4 i (by simpa using hi)).2⟩⟩
    have hi' : i < xs.length := by simpa using hi
    by_cases e : 0 = i
    · subst e
      rw [World.cell?_setCell_same (h := (h4 0 h0).1)]
      simp [h0]
    · rw [World.cell?_setCell_other (h := show (⟨g, 0, none⟩ : Addr) ≠ ⟨g, i, none⟩ by intro hh; cases hh; exact e rfl), (h4 i hi').1]
      simp [hi', e]
set_option maxRecDepth 100000 in
set_option maxHeartbeats 8000000 in
theorem draw_comb (a : Option Addr) (n cap : Nat) (w : World) (hb : BytesAt w a n) (hn : n ≤ 2097152) :
    Calls Try.prog 20 #[.slice a n cap] w fun e w' => ∃ (k : Int) (a' : Option Addr) (xs : List Int) (cap' : Nat), xs.length ≤ 301 ∧ Ints w' a' xs ∧ e = .returned (.tuple #[.int .i64 k, .slice a' xs.length cap']) ∧ Below w.heap.size w w' := by
  obtain ⟨i0, hi, hz0, hz1, hz2⟩ := info_parts info3
  have Hb := Lib.hid hb
  clear hb
  go_enter Try.func20, Try.ntmps20
  go_wp2_with fail
  refine (new_cur a n cap w Hb.out hn).mono ?_
  rintro e w0 ⟨c, rfl, hc, hC0, hB0⟩
  have hcl : c < w0.heap.size := hC0.lt
  obtain ⟨B, hB⟩ : ∃ B, w0.heap.size = B := ⟨_, rfl⟩
  have hown : OwnInts (w0.alloc (.cells #[] 3)) w0.heap.size (.slice (some ⟨w0.heap.size, 0, none⟩) 0 0) [] := World.ownsRow_lit (e := 3) (size := 1) (base := w0.heap.size) w0 #[] 0 (Nat.le_refl _) (by unfold maxLen; omega) rfl
  have HO0 := Lib.hid hown
  have HC0 := Lib.hid (hC0.alloc (.cells #[] 3))
  have HB0 := Lib.hid hB0
  have HT0 := Lib.hid ((Touched.refl c w0).alloc (.cells #[] 3))
  clear hown hC0 hB0 Hb
  go_wp2_with fail
  refine (below_n c _ (by omega) (by omega) _ HC0.out).mono ?_
  rintro e w1 ⟨m, m1, m2, rfl, hC1, hT1⟩
  have HO1 := Lib.hid (World.ownsRow.kept_touch HO0.out hcl hT1)
  have HC1 := Lib.hid hC1
  have HT1 := Lib.hid (HT0.out.trans hT1)
  clear hC1 hT1 HC0 HT0 HO0
  rw [hB] at hcl HO1
  have HBb := Lib.hid hB
  clear hB
  go_wp2_with fail
  refine (once c _ (by omega) (by omega) _ HC1.out).mono ?_
  rintro e w2 ⟨o, rfl, hC2, hT2⟩
  have HO2 := Lib.hid (World.ownsRow.kept_touch HO1.out hcl hT2)
  have HC2 := Lib.hid hC2
  have HT2 := Lib.hid (HT1.out.trans hT2)
  clear hC2 hT2 HC1 HT1 HO1

  cases o
  · have hM : m ≤ 301 := by omega
    go_wp2
    go_loopw [5, 7] (fun v i wr => ∃ (q : Nat) (xs : List Int), (q : Int) ≤ m ∧ i = .int .i64 q ∧ xs.length = q ∧ OwnInts wr B v xs ∧ Cur wr c ∧ Touched c w0 wr) (fun _ i _ => (m - intOf i).toNat)
    case atStart => exact ⟨0, [], by omega, rfl, rfl, HO2.out, HC2.out, HT2.out⟩
    case round =>
      obtain ⟨q, xs, hq, rfl, hxl, hO, hC, hT⟩ := hrel
      have HX := Lib.hid hxl
      have HO := Lib.hid hO
      have HC := Lib.hid hC
      have HT := Lib.hid hT
      clear hxl hO hC hT HO2 HC2 HT2
      by_cases hlt : (q : Int) < m
      · go_wp2_with fail
        refine (below_n c _ (by omega) (by omega) _ HC.out).mono ?_
        rintro e w5 ⟨x, x1, x2, rfl, hC5, hT5⟩
        have HO5 := Lib.hid (World.ownsRow.kept_touch HO.out hcl hT5)
        have HC5 := Lib.hid hC5
        have HT5 := Lib.hid (HT.out.trans hT5)
        clear hC5 hT5 HO HC HT
        go_wp2_with fail
        refine (below_n c _ (by omega) (by omega) _ HC5.out).mono ?_
        rintro e w6 ⟨y, y1, y2, rfl, hC6, hT6⟩
        have HO6 := Lib.hid (World.ownsRow.kept_touch HO5.out hcl hT6)
        have HC6 := Lib.hid hC6
        have HT6 := Lib.hid (HT5.out.trans hT6)
        clear hC6 hT6 HO5 HC5 HT5
        go_wp2_with fail
        refine (below_n c _ (by omega) (by omega) _ HC6.out).mono ?_
        rintro e w7 ⟨z, z1, z2, rfl, hC7, hT7⟩
        have HO7 := Lib.hid (World.ownsRow.kept_touch HO6.out hcl hT7)
        have HC7 := Lib.hid hC7
        have HT7 := Lib.hid (HT6.out.trans hT7)
        clear hC7 hT7 HO6 HC6 HT6
        go_wp2_with fail
        refine (pick_new c [x, y, z, -1] 4 rfl _ w7 HC7.out rfl (by omega) (by omega) (-1) 11 (by intro v hv; simp at hv; omega)).mono ?_
        rintro e w8 ⟨u, u1, u2, rfl, hC8, hT8⟩
        have HO8 := Lib.hid (World.ownsRow.kept_touch HO7.out hcl hT8)
        have HC8 := Lib.hid hC8
        have HT8 := Lib.hid (HT7.out.trans hT8)
        clear hC8 hT8 HO7 HC7 HT7
        go_wp2_with (at_builtin; refine wpList_append_own _ rfl _ _ 35 rfl B 3 i0 (.int .i64 0) 1 8 Try.underlying35 hi hz0 hz1 hz2 rfl (by decide) _ _ _ rfl (World.ownsRow.alloc HO8.out _) ⟨w8.heap.size, 0, none⟩ 1 1 [.int .i64 u] rfl rfl ?c1 ?c2 ?c3 ?c4 ?c5 ?_)
        case c1 => exact new_one _ _ _
        case c2 => first | rfl | (intro u hu; simp at hu; subst hu; rfl)
        case c3 => have := HX.out; unfold maxLen; omega
        case c4 => have := HX.out; omega
        case c5 => have h1 := HT8.out.size; have h2 := HBb.out; first | omega | (simp; omega)
        · intro v' w9 hown' hgrow _
          have HO9 := Lib.hid (OwnInts.snoc hown')
          have hrow : ∀ g, Value.ownBlock _ = some g → B ≤ g := fun g hg => (World.ownsRow.lt HO8.out g hg).1
          have HC9 := Lib.hid ((Cur.alloc HC8.out _).grown hgrow (fun g hg => by have := hrow g hg; omega))
          have HT9 := Lib.hid ((Touched.alloc HT8.out _).grown hgrow (fun g hg => by have h1 := hrow g hg; have h2 := HBb.out; omega))
          clear hown' hgrow hrow
          go_wp2
          go_roundw
          case rel => exact ⟨q + 1, _, by omega, by go_num, by rw [List.length_append, HX.out]; rfl, HO9.out, HC9.out, HT9.out⟩
          case measure => simp [intOf]; omega
      · obtain ⟨a', cap', rfl, hR⟩ := Row.of_own HO.out HX.out
        have HR := Lib.hid hR
        clear hR HO
        go_wp2_with fail
        refine (once c _ (by omega) (by omega) _ HC.out).mono ?_
        rintro e w10 ⟨o, rfl, hC10, hT10⟩
        have HR10 := Lib.hid (Row.touch HR.out hcl hT10)
        have HC10 := Lib.hid hC10
        have HT10 := Lib.hid (HT.out.trans hT10)
        clear hC10 hT10 HR HC HT
        cases o
        · skip
          go_wp2_with fail
          refine (below_n c _ (by omega) (by omega) _ HC10.out).mono ?_
          rintro e w20 ⟨p, p1, p2, rfl, hC20, hT20⟩
          have HR20 := Lib.hid (Row.touch HR10.out hcl hT20)
          have HC20 := Lib.hid hC20
          have HT20 := Lib.hid (HT10.out.trans hT20)
          clear hC20 hT20 HR10 HC10 HT10
          go_wp2_with fail
          refine (below_n c _ (by omega) (by omega) _ HC20.out).mono ?_
          rintro e w21 ⟨r, r1, r2, rfl, hC21, hT21⟩
          have HR21 := Lib.hid (Row.touch HR20.out hcl hT21)
          have HC21 := Lib.hid hC21
          have HT21 := Lib.hid (HT20.out.trans hT21)
          clear hC21 hT21 HR20 HC20 HT20
          go_wp2_with fail
          refine (pick_new c [p, r, 1000, 1001, -1] 5 rfl _ w21 HC21.out rfl (by omega) (by omega) (-1) 1001 (by intro v hv; simp at hv; omega)).mono ?_
          rintro e w22 ⟨k, kk1, kk2, rfl, hC22, hT22⟩
          have HR22 := Lib.hid (Row.touch HR21.out hcl hT22)
          have HT22 := Lib.hid (HT21.out.trans hT22)
          clear hC22 hT22 HR21 HC21 HT21
          go_wp2
          go_ret2
          exact ⟨k, a', xs, cap', by have := HX.out; (try rw [List.length_set]); omega, HR22.out.ints, by simp [HX.out], HB0.out.trans (HT22.out.below hc HB0.out.size)⟩
        · by_cases h0 : 0 < m
          · have hxp : 0 < xs.length := by have := HX.out; omega
            obtain ⟨g, rfl, hBg, hcl0, hfr0⟩ := HR10.out.first hxp
            go_wp2_with fail
            refine (pick_new c [-2, 1000, 1001] 3 rfl _ w10 HC10.out rfl (by omega) (by omega) (-2) 1001 (by intro v hv; simp at hv; omega)).mono ?_
            rintro e w11 ⟨u, u1, u2, rfl, hC11, hT11⟩
            have HR11 := Lib.hid (Row.touch HR10.out hcl hT11)
            have HC11 := Lib.hid hC11
            have HT11 := Lib.hid (HT10.out.trans hT11)
            clear hC11 hT11 HR10 HC10 HT10 hcl0 hfr0
            obtain ⟨g', he, -, hcl1, hfr1⟩ := HR11.out.first hxp
            cases he
            have HR12 := Lib.hid (Row.set u hxp HR11.out)
            have HC12 := Lib.hid (Cur.setNew (g := g) HC11.out (by omega) 0 (.int .i64 u))
            have HT12 := Lib.hid (Touched.setNew (g := g) HT11.out (by have := HBb.out; omega) 0 (.int .i64 u))
            have hxi : (0 : Int) < (q : Int) := by have := HX.out; omega
            have hxj : 0 < q := by omega
            clear HR11 HC11 HT11 hi hz0 hz1 hz2
            go_wp2_with fail
            clear hcl1 hfr1
            refine (below_n c _ (by omega) (by omega) _ HC12.out).mono ?_
            rintro e w20 ⟨p, p1, p2, rfl, hC20, hT20⟩
            have HR20 := Lib.hid (Row.touch HR12.out hcl hT20)
            have HC20 := Lib.hid hC20
            have HT20 := Lib.hid (HT12.out.trans hT20)
            clear hC20 hT20 HR12 HC12 HT12
            go_wp2_with fail
            refine (below_n c _ (by omega) (by omega) _ HC20.out).mono ?_
            rintro e w21 ⟨r, r1, r2, rfl, hC21, hT21⟩
            have HR21 := Lib.hid (Row.touch HR20.out hcl hT21)
            have HC21 := Lib.hid hC21
            have HT21 := Lib.hid (HT20.out.trans hT21)
            clear hC21 hT21 HR20 HC20 HT20
            go_wp2_with fail
            refine (pick_new c [p, r, 1000, 1001, -1] 5 rfl _ w21 HC21.out rfl (by omega) (by omega) (-1) 1001 (by intro v hv; simp at hv; omega)).mono ?_
            rintro e w22 ⟨k, kk1, kk2, rfl, hC22, hT22⟩
            have HR22 := Lib.hid (Row.touch HR21.out hcl hT22)
            have HT22 := Lib.hid (HT21.out.trans hT22)
            clear hC22 hT22 HR21 HC21 HT21
            go_wp2
            go_ret2
            exact ⟨k, _, xs.set 0 u, cap', by have := HX.out; (try rw [List.length_set]); omega, HR22.out.ints, by simp [HX.out], HB0.out.trans (HT22.out.below hc HB0.out.size)⟩
          · skip
            go_wp2_with fail
            refine (below_n c _ (by omega) (by omega) _ HC10.out).mono ?_
            rintro e w20 ⟨p, p1, p2, rfl, hC20, hT20⟩
            have HR20 := Lib.hid (Row.touch HR10.out hcl hT20)
            have HC20 := Lib.hid hC20
            have HT20 := Lib.hid (HT10.out.trans hT20)
            clear hC20 hT20 HR10 HC10 HT10
            go_wp2_with fail
            refine (below_n c _ (by omega) (by omega) _ HC20.out).mono ?_
            rintro e w21 ⟨r, r1, r2, rfl, hC21, hT21⟩
            have HR21 := Lib.hid (Row.touch HR20.out hcl hT21)
            have HC21 := Lib.hid hC21
            have HT21 := Lib.hid (HT20.out.trans hT21)
            clear hC21 hT21 HR20 HC20 HT20
            go_wp2_with fail
            refine (pick_new c [p, r, 1000, 1001, -1] 5 rfl _ w21 HC21.out rfl (by omega) (by omega) (-1) 1001 (by intro v hv; simp at hv; omega)).mono ?_
            rintro e w22 ⟨k, kk1, kk2, rfl, hC22, hT22⟩
            have HR22 := Lib.hid (Row.touch HR21.out hcl hT22)
            have HT22 := Lib.hid (HT21.out.trans hT22)
            clear hC22 hT22 HR21 HC21 HT21
            go_wp2
            go_ret2
            exact ⟨k, a', xs, cap', by have := HX.out; (try rw [List.length_set]); omega, HR22.out.ints, by simp [HX.out], HB0.out.trans (HT22.out.below hc HB0.out.size)⟩
  · go_wp2_with fail
    refine (below_n c _ (by omega) (by omega) _ HC2.out).mono ?_
    rintro e w3 ⟨z, z1, z2, rfl, hC3, hT3⟩
    have HO3 := Lib.hid (World.ownsRow.kept_touch HO2.out hcl hT3)
    have HC3 := Lib.hid hC3
    have HT3 := Lib.hid (HT2.out.trans hT3)
    clear hC3 hT3 HO2 HC2 HT2
    go_wp2
    go_loopw [5, 7] (fun v i wr => ∃ (q : Nat) (xs : List Int), (q : Int) ≤ (300 + z) ∧ i = .int .i64 q ∧ xs.length = q ∧ OwnInts wr B v xs ∧ Cur wr c ∧ Touched c w0 wr) (fun _ i _ => ((300 + z) - intOf i).toNat)
    case atStart => exact ⟨0, [], by omega, rfl, rfl, HO3.out, HC3.out, HT3.out⟩
    case round =>
      obtain ⟨q, xs, hq, rfl, hxl, hO, hC, hT⟩ := hrel
      have HX := Lib.hid hxl
      have HO := Lib.hid hO
      have HC := Lib.hid hC
      have HT := Lib.hid hT
      clear hxl hO hC hT HO3 HC3 HT3
      by_cases hlt : (q : Int) < (300 + z)
      · go_wp2_with fail
        refine (below_n c _ (by omega) (by omega) _ HC.out).mono ?_
        rintro e w5 ⟨x, x1, x2, rfl, hC5, hT5⟩
        have HO5 := Lib.hid (World.ownsRow.kept_touch HO.out hcl hT5)
        have HC5 := Lib.hid hC5
        have HT5 := Lib.hid (HT.out.trans hT5)
        clear hC5 hT5 HO HC HT
        go_wp2_with fail
        refine (below_n c _ (by omega) (by omega) _ HC5.out).mono ?_
        rintro e w6 ⟨y, y1, y2, rfl, hC6, hT6⟩
        have HO6 := Lib.hid (World.ownsRow.kept_touch HO5.out hcl hT6)
        have HC6 := Lib.hid hC6
        have HT6 := Lib.hid (HT5.out.trans hT6)
        clear hC6 hT6 HO5 HC5 HT5
        go_wp2_with fail
        refine (below_n c _ (by omega) (by omega) _ HC6.out).mono ?_
        rintro e w7 ⟨zz, zz1, zz2, rfl, hC7, hT7⟩
        have HO7 := Lib.hid (World.ownsRow.kept_touch HO6.out hcl hT7)
        have HC7 := Lib.hid hC7
        have HT7 := Lib.hid (HT6.out.trans hT7)
        clear hC7 hT7 HO6 HC6 HT6
        go_wp2_with fail
        refine (pick_new c [x, y, zz, -1] 4 rfl _ w7 HC7.out rfl (by omega) (by omega) (-1) 11 (by intro v hv; simp at hv; omega)).mono ?_
        rintro e w8 ⟨u, u1, u2, rfl, hC8, hT8⟩
        have HO8 := Lib.hid (World.ownsRow.kept_touch HO7.out hcl hT8)
        have HC8 := Lib.hid hC8
        have HT8 := Lib.hid (HT7.out.trans hT8)
        clear hC8 hT8 HO7 HC7 HT7
        go_wp2_with (at_builtin; refine wpList_append_own _ rfl _ _ 35 rfl B 3 i0 (.int .i64 0) 1 8 Try.underlying35 hi hz0 hz1 hz2 rfl (by decide) _ _ _ rfl (World.ownsRow.alloc HO8.out _) ⟨w8.heap.size, 0, none⟩ 1 1 [.int .i64 u] rfl rfl ?c1 ?c2 ?c3 ?c4 ?c5 ?_)
        case c1 => exact new_one _ _ _
        case c2 => first | rfl | (intro u hu; simp at hu; subst hu; rfl)
        case c3 => have := HX.out; unfold maxLen; omega
        case c4 => have := HX.out; omega
        case c5 => have h1 := HT8.out.size; have h2 := HBb.out; first | omega | (simp; omega)
        · intro v' w9 hown' hgrow _
          have HO9 := Lib.hid (OwnInts.snoc hown')
          have hrow : ∀ g, Value.ownBlock _ = some g → B ≤ g := fun g hg => (World.ownsRow.lt HO8.out g hg).1
          have HC9 := Lib.hid ((Cur.alloc HC8.out _).grown hgrow (fun g hg => by have := hrow g hg; omega))
          have HT9 := Lib.hid ((Touched.alloc HT8.out _).grown hgrow (fun g hg => by have h1 := hrow g hg; have h2 := HBb.out; omega))
          clear hown' hgrow hrow
          go_wp2
          go_roundw
          case rel => exact ⟨q + 1, _, by omega, by go_num, by rw [List.length_append, HX.out]; rfl, HO9.out, HC9.out, HT9.out⟩
          case measure => simp [intOf]; omega
      · obtain ⟨a', cap', rfl, hR⟩ := Row.of_own HO.out HX.out
        have HR := Lib.hid hR
        clear hR HO
        go_wp2_with fail
        refine (once c _ (by omega) (by omega) _ HC.out).mono ?_
        rintro e w10 ⟨o, rfl, hC10, hT10⟩
        have HR10 := Lib.hid (Row.touch HR.out hcl hT10)
        have HC10 := Lib.hid hC10
        have HT10 := Lib.hid (HT.out.trans hT10)
        clear hC10 hT10 HR HC HT
        cases o
        · skip
          go_wp2_with fail
          refine (below_n c _ (by omega) (by omega) _ HC10.out).mono ?_
          rintro e w20 ⟨p, p1, p2, rfl, hC20, hT20⟩
          have HR20 := Lib.hid (Row.touch HR10.out hcl hT20)
          have HC20 := Lib.hid hC20
          have HT20 := Lib.hid (HT10.out.trans hT20)
          clear hC20 hT20 HR10 HC10 HT10
          go_wp2_with fail
          refine (below_n c _ (by omega) (by omega) _ HC20.out).mono ?_
          rintro e w21 ⟨r, r1, r2, rfl, hC21, hT21⟩
          have HR21 := Lib.hid (Row.touch HR20.out hcl hT21)
          have HC21 := Lib.hid hC21
          have HT21 := Lib.hid (HT20.out.trans hT21)
          clear hC21 hT21 HR20 HC20 HT20
          go_wp2_with fail
          refine (pick_new c [p, r, 1000, 1001, -1] 5 rfl _ w21 HC21.out rfl (by omega) (by omega) (-1) 1001 (by intro v hv; simp at hv; omega)).mono ?_
          rintro e w22 ⟨k, kk1, kk2, rfl, hC22, hT22⟩
          have HR22 := Lib.hid (Row.touch HR21.out hcl hT22)
          have HT22 := Lib.hid (HT21.out.trans hT22)
          clear hC22 hT22 HR21 HC21 HT21
          go_wp2
          go_ret2
          exact ⟨k, a', xs, cap', by have := HX.out; (try rw [List.length_set]); omega, HR22.out.ints, by simp [HX.out], HB0.out.trans (HT22.out.below hc HB0.out.size)⟩
        · by_cases h0 : 0 < (300 + z)
          · have hxp : 0 < xs.length := by have := HX.out; omega
            obtain ⟨g, rfl, hBg, hcl0, hfr0⟩ := HR10.out.first hxp
            go_wp2_with fail
            refine (pick_new c [-2, 1000, 1001] 3 rfl _ w10 HC10.out rfl (by omega) (by omega) (-2) 1001 (by intro v hv; simp at hv; omega)).mono ?_
            rintro e w11 ⟨u, u1, u2, rfl, hC11, hT11⟩
            have HR11 := Lib.hid (Row.touch HR10.out hcl hT11)
            have HC11 := Lib.hid hC11
            have HT11 := Lib.hid (HT10.out.trans hT11)
            clear hC11 hT11 HR10 HC10 HT10 hcl0 hfr0
            obtain ⟨g', he, -, hcl1, hfr1⟩ := HR11.out.first hxp
            cases he
            have HR12 := Lib.hid (Row.set u hxp HR11.out)
            have HC12 := Lib.hid (Cur.setNew (g := g) HC11.out (by omega) 0 (.int .i64 u))
            have HT12 := Lib.hid (Touched.setNew (g := g) HT11.out (by have := HBb.out; omega) 0 (.int .i64 u))
            have hxi : (0 : Int) < (q : Int) := by have := HX.out; omega
            have hxj : 0 < q := by omega
            clear HR11 HC11 HT11 hi hz0 hz1 hz2
            go_wp2_with fail
            clear hcl1 hfr1
            refine (below_n c _ (by omega) (by omega) _ HC12.out).mono ?_
            rintro e w20 ⟨p, p1, p2, rfl, hC20, hT20⟩
            have HR20 := Lib.hid (Row.touch HR12.out hcl hT20)
            have HC20 := Lib.hid hC20
            have HT20 := Lib.hid (HT12.out.trans hT20)
            clear hC20 hT20 HR12 HC12 HT12
            go_wp2_with fail
            refine (below_n c _ (by omega) (by omega) _ HC20.out).mono ?_
            rintro e w21 ⟨r, r1, r2, rfl, hC21, hT21⟩
            have HR21 := Lib.hid (Row.touch HR20.out hcl hT21)
            have HC21 := Lib.hid hC21
            have HT21 := Lib.hid (HT20.out.trans hT21)
            clear hC21 hT21 HR20 HC20 HT20
            go_wp2_with fail
            refine (pick_new c [p, r, 1000, 1001, -1] 5 rfl _ w21 HC21.out rfl (by omega) (by omega) (-1) 1001 (by intro v hv; simp at hv; omega)).mono ?_
            rintro e w22 ⟨k, kk1, kk2, rfl, hC22, hT22⟩
            have HR22 := Lib.hid (Row.touch HR21.out hcl hT22)
            have HT22 := Lib.hid (HT21.out.trans hT22)
            clear hC22 hT22 HR21 HC21 HT21
            go_wp2
            go_ret2
            exact ⟨k, _, xs.set 0 u, cap', by have := HX.out; (try rw [List.length_set]); omega, HR22.out.ints, by simp [HX.out], HB0.out.trans (HT22.out.below hc HB0.out.size)⟩
          · exact absurd (by omega) h0
end Go.Proofs.Ytimpajhgplkpmaa.Draw5C
