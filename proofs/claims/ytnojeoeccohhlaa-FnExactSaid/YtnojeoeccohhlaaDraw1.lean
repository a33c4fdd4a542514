/- The draws of chapter 1's laws. -/
import Derived.Test.YtnojeoeccohhlaaDraw
namespace Go.Proofs.Ytnojeoeccohhlaa.Draw1
open Go.RowKit Go.Deep
open Go.Proofs.Ytnojeoeccohhlaa.C1 Go.Proofs.Ytnojeoeccohhlaa.Ints Go.Proofs.Ytnojeoeccohhlaa.Draw
set_option linter.unusedVariables false

theorem small_mul (x k : Int) (h1 : -1000000001 ≤ x) (h2 : x ≤ 1000000001) (h3 : 0 ≤ k) (h4 : k ≤ 10) : -1000000001 * 10 ≤ x * k ∧ x * k ≤ 1000000001 * 10 := by
  constructor
  · have a1 : -1000000001 * k ≤ x * k := Int.mul_le_mul_of_nonneg_right h1 h3
    omega
  · have a1 : x * k ≤ 1000000001 * k := Int.mul_le_mul_of_nonneg_right h2 h3
    omega
theorem small_mul2 {x q : Int} (h1 : -1 ≤ x) (h2 : x ≤ 1000000001) (h3 : 0 ≤ q) (h4 : q ≤ 9 - 1) : -10000000010 ≤ x * (1 + q) ∧ x * (1 + q) ≤ 10000000010 := by
  have := small_mul x (1 + q) (by omega) h2 (by omega) (by omega)
  omega
theorem small_mul3 {x q : Int} (h1 : 0 ≤ x) (h2 : x ≤ 1000000000) (h3 : 0 ≤ q) (h4 : q ≤ 9 - 1) : -10000000010 ≤ x * (1 + q) ∧ x * (1 + q) ≤ 10000000010 := by
  have := small_mul x (1 + q) (by omega) (by omega) (by omega) (by omega)
  omega
set_option maxRecDepth 100000 in
theorem draw_muldiv (a : Option Addr) (n cap : Nat) (w : World) (hb : BytesAt w a n) (hn : n ≤ 2097152) :
    Calls Try.prog 13 #[.slice a n cap] w fun e w' => ∃ (x y z : Int) (u : Bool), e = .returned (.tuple #[.int .i64 x, .int .i64 y, .int .i64 z, .bool u]) ∧ Below w.heap.size w w' := by
  have Hb := Lib.hid hb
  clear hb
  go_enter Try.func13, Try.ntmps13
  go_wp2_with (go_at_call 35; refine (new_cur a n cap _ Hb.out hn).mono ?_; rintro e w0 ⟨c, rfl, hc, hC0, hB0⟩)
  have HC0 := Lib.hid hC0
  have HB0 := Lib.hid hB0
  clear hC0 hB0
  go_wp2_with (go_at_call 36; refine (draw_size c _ HC0.out).mono ?_; rintro e w1 ⟨x, x1, x2, rfl, hC1, hT1⟩)
  have HC1 := Lib.hid hC1
  have HT1 := Lib.hid hT1
  clear hC1 hT1 HC0
  go_wp2_with (go_at_call 36; refine (draw_size c _ HC1.out).mono ?_; rintro e w2 ⟨y, y1, y2, rfl, hC2, hT2⟩)
  have HC2 := Lib.hid hC2
  have HT2 := Lib.hid (HT1.out.trans hT2)
  clear hC2 hT2 HC1 HT1
  go_wp2_with (go_at_call 38; refine (below_n c _ (by omega) (by omega) _ HC2.out).mono ?_; rintro e w3 ⟨z, z1, z2, rfl, hC3, hT3⟩)
  have HC3 := Lib.hid hC3
  have HT3 := Lib.hid (HT2.out.trans hT3)
  clear hC3 hT3 HC2 HT2
  have hlt := HC3.out.lt
  have hbd : Hid (∀ v ∈ [1, 1000, 1 + z, 1000000000, 0], (0 : Int) ≤ v ∧ v ≤ 1000000000) := by
    intro v hv
    simp at hv
    omega
  go_wp2_with (go_at_call 37; refine (pick_int c [1, 1000, 1 + z, 1000000000, 0] 5 rfl w3.heap.size 5 _ (HC3.out.alloc _) (alloc_size _ _) (by omega) (by omega) (by omega) 0 1000000000 hbd.out (fun i h => alloc_ints w3 _ 3 i h)).mono ?_; rintro e w4 ⟨u, u1, u2, rfl, hC4, hT4⟩)
  have HC4 := Lib.hid hC4
  have HT4 := Lib.hid ((HT3.out.alloc _).trans hT4)
  clear hC4 hT4 HC3 HT3
  go_wp2_with (go_at_call 39; refine (once c _ (by omega) (by omega) _ HC4.out).mono ?_; rintro e w5 ⟨t, rfl, hC5, hT5⟩)
  exact bodyPost_ret (v := .tuple #[.int .i64 x, .int .i64 y, .int .i64 u, .bool t]) (by simp [results, Try.results13, go_sem]) rfl ⟨x, y, u, t, rfl, HB0.out.trans ((HT4.out.trans hT5).below hc HB0.out.size)⟩

set_option maxRecDepth 100000 in
theorem draw_floordiv (a : Option Addr) (n cap : Nat) (w : World) (hb : BytesAt w a n) (hn : n ≤ 2097152) :
    Calls Try.prog 16 #[.slice a n cap] w fun e w' => ∃ (x y : Int), -1000000001 ≤ x ∧ x ≤ 1000000001 ∧ -1 ≤ y ∧ y ≤ 1000 ∧ e = .returned (.tuple #[.int .i64 x, .int .i64 y]) ∧ Below w.heap.size w w' := by
  have Hb := Lib.hid hb
  clear hb
  go_enter Try.func16, Try.ntmps16
  go_wp2_with (go_at_call 35; refine (new_cur a n cap _ Hb.out hn).mono ?_; rintro e w0 ⟨c, rfl, hc, hC0, hB0⟩)
  have HC0 := Lib.hid hC0
  have HB0 := Lib.hid hB0
  have HT0 := Lib.hid (Touch.refl c w0)
  clear hC0 hB0
  go_wp2_with (go_at_call 44; refine (draw_value c _ HC0.out).mono ?_; rintro e w1 ⟨x, x1, x2, rfl, hC1, hT1⟩)
  have HC1 := Lib.hid hC1
  have HT1 := Lib.hid ((HT0.out).trans hT1)
  clear hC1 hT1 HC0 HT0
  go_wp2_with (go_at_call 38; refine (below_n c _ (by omega) (by omega) _ HC1.out).mono ?_; rintro e w2 ⟨y, y1, y2, rfl, hC2, hT2⟩)
  have HC2 := Lib.hid hC2
  have HT2 := Lib.hid ((HT1.out).trans hT2)
  clear hC2 hT2 HC1 HT1
  have hlt3 := HC2.out.lt
  have hbd3 : Hid (∀ v ∈ [1, 2, 3, 1 + y, 0, -1], (-1 : Int) ≤ v ∧ v ≤ 1000) := by
    intro v hv
    simp at hv
    omega
  go_wp2_with (go_at_call 37; refine (pick_int c [1, 2, 3, 1 + y, 0, -1] 6 rfl w2.heap.size 6 _ (HC2.out.alloc _) (alloc_size _ _) (by omega) (by omega) (by omega) (-1) 1000 hbd3.out (fun i h => alloc_ints w2 _ 3 i h)).mono ?_; rintro e w3 ⟨z, z1, z2, rfl, hC3, hT3⟩)
  have HC3 := Lib.hid hC3
  have HT3 := Lib.hid ((HT2.out.alloc _).trans hT3)
  clear hC3 hT3 HC2 HT2
  go_ret2
  exact ⟨x, z, x1, x2, z1, z2, rfl, HB0.out.trans (HT3.out.below hc HB0.out.size)⟩

set_option maxHeartbeats 1000000 in
set_option maxRecDepth 100000 in
theorem draw_ratios (a : Option Addr) (n cap : Nat) (w : World) (hb : BytesAt w a n) (hn : n ≤ 2097152) :
    Calls Try.prog 20 #[.slice a n cap] w fun e w' => ∃ (x y z u : Int), e = .returned (.tuple #[.int .i64 x, .int .i64 y, .int .i64 z, .int .i64 u]) ∧ Below w.heap.size w w' := by
  have Hb := Lib.hid hb
  clear hb
  go_enter Try.func20, Try.ntmps20
  go_wp2_with (go_at_call 35; refine (new_cur a n cap _ Hb.out hn).mono ?_; rintro e w0 ⟨c, rfl, hc, hC0, hB0⟩)
  have HC0 := Lib.hid hC0
  have HB0 := Lib.hid hB0
  have HT0 := Lib.hid (Touch.refl c w0)
  clear hC0 hB0
  go_wp2_with (go_at_call 36; refine (draw_size c _ HC0.out).mono ?_; rintro e w1 ⟨x, x1, x2, rfl, hC1, hT1⟩)
  have HC1 := Lib.hid hC1
  have HT1 := Lib.hid ((HT0.out).trans hT1)
  clear hC1 hT1 HC0 HT0
  go_wp2_with (go_at_call 38; refine (below_n c _ (by omega) (by omega) _ HC1.out).mono ?_; rintro e w2 ⟨y, y1, y2, rfl, hC2, hT2⟩)
  have HC2 := Lib.hid hC2
  have HT2 := Lib.hid ((HT1.out).trans hT2)
  clear hC2 hT2 HC1 HT1
  have hlt3 := HC2.out.lt
  have hbd3 : Hid (∀ v ∈ [1, 2, 1 + y, 1000000000, 0], (0 : Int) ≤ v ∧ v ≤ 1000000000) := by
    intro v hv
    simp at hv
    omega
  go_wp2_with (go_at_call 37; refine (pick_int c [1, 2, 1 + y, 1000000000, 0] 5 rfl w2.heap.size 5 _ (HC2.out.alloc _) (alloc_size _ _) (by omega) (by omega) (by omega) (0) 1000000000 hbd3.out (fun i h => alloc_ints w2 _ 3 i h)).mono ?_; rintro e w3 ⟨b, b1, b2, rfl, hC3, hT3⟩)
  have HC3 := Lib.hid hC3
  have HT3 := Lib.hid ((HT2.out.alloc _).trans hT3)
  clear hC3 hT3 HC2 HT2
  go_wp2_with (go_at_call 39; refine (once c _ (by omega) (by omega) _ HC3.out).mono ?_; rintro e w4 ⟨o, rfl, hC4, hT4⟩; cases o)
  all_goals
    have HC4 := Lib.hid hC4
    have HT4 := Lib.hid (HT3.out.trans hT4)
    clear hC4 hT4 HC3 HT3
  · go_wp2_with (go_at_call 36; refine (draw_size c _ HC4.out).mono ?_; rintro e w5 ⟨p, p1, p2, rfl, hC5, hT5⟩)
    have HC5 := Lib.hid hC5
    have HT5 := Lib.hid ((HT4.out).trans hT5)
    clear hC5 hT5 HC4 HT4
    go_wp2_with (go_at_call 38; refine (below_n c _ (by omega) (by omega) _ HC5.out).mono ?_; rintro e w6 ⟨q, q1, q2, rfl, hC6, hT6⟩)
    have HC6 := Lib.hid hC6
    have HT6 := Lib.hid ((HT5.out).trans hT6)
    clear hC6 hT6 HC5 HT5
    have hlt7 := HC6.out.lt
    have hbd7 : Hid (∀ v ∈ [1, 2, 1 + q, 1000000000, 0], (0 : Int) ≤ v ∧ v ≤ 1000000000) := by
      intro v hv
      simp at hv
      omega
    go_wp2_with (go_at_call 37; refine (pick_int c [1, 2, 1 + q, 1000000000, 0] 5 rfl w6.heap.size 5 _ (HC6.out.alloc _) (alloc_size _ _) (by omega) (by omega) (by omega) (0) 1000000000 hbd7.out (fun i h => alloc_ints w6 _ 3 i h)).mono ?_; rintro e w7 ⟨r, r1, r2, rfl, hC7, hT7⟩)
    have HC7 := Lib.hid hC7
    have HT7 := Lib.hid ((HT6.out.alloc _).trans hT7)
    clear hC7 hT7 HC6 HT6
    exact bodyPost_ret (v := .tuple #[.int .i64 x, .int .i64 b, .int .i64 p, .int .i64 r]) (by simp [results, Try.results20, go_sem]) rfl ⟨x, b, p, r, rfl, HB0.out.trans (HT7.out.below hc HB0.out.size)⟩
  · go_wp2_with (go_at_call 38; refine (below_n c _ (by omega) (by omega) _ HC4.out).mono ?_; rintro e w5 ⟨q, q1, q2, rfl, hC5, hT5⟩; obtain ⟨m1, m2⟩ := small_mul2 x1 x2 q1 q2; obtain ⟨m3, m4⟩ := small_mul3 b1 b2 q1 q2)
    have HC5 := Lib.hid hC5
    have HT5 := Lib.hid ((HT4.out).trans hT5)
    clear hC5 hT5 HC4 HT4
    exact bodyPost_ret (v := .tuple #[.int .i64 x, .int .i64 b, .int .i64 (x * (1 + q)), .int .i64 (b * (1 + q))]) (by simp [results, Try.results20, go_sem]) rfl ⟨x, b, _, _, rfl, HB0.out.trans (HT5.out.below hc HB0.out.size)⟩
end Go.Proofs.Ytnojeoeccohhlaa.Draw1
